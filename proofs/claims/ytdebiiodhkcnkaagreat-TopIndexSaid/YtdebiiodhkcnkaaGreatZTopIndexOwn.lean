/- Several texts in one. -/
import Derived.Deep.RegionHeld3
import Derived.WalkKit
import Derived.WalkSpells
import Derived.WalkLawsBesides
import Derived.Test.YtdebiiodhkcnkaaGreatRows
import Derived.BigQuiet
import Derived.Deep.RegionHeld
import Derived.Deep.AppendLies
import Derived.Deep.RegionLaw
import Derived.WideMake
import Derived.Laws.EntriesVeiled
namespace Go.Proofs.YtdebiiodhkcnkaaGreat
theorem sqA : type_of% @List.setIfInBounds_toArray := @List.setIfInBounds_toArray
theorem sqB : type_of% @List.set_cons_zero := @List.set_cons_zero
theorem sqC : type_of% @List.set_cons_succ := @List.set_cons_succ
theorem sqD : type_of% @List.getElem_toArray := @List.getElem_toArray
theorem sqE : type_of% @List.getElem_cons_succ := @List.getElem_cons_succ
theorem sqF : type_of% @List.getElem_cons_zero := @List.getElem_cons_zero
theorem sq {α : Type} : (∀ (l : List α) (i : Nat) (a : α), l.toArray.setIfInBounds i a = (l.set i a).toArray) ∧ (∀ (x y : α) (l : List α), (x :: l).set 0 y = y :: l) ∧ (∀ (x y : α) (l : List α) (i : Nat), (x :: l).set (i + 1) y = x :: l.set i y) ∧
    (∀ (l : List α) (i : Nat) (h : i < l.toArray.size), l.toArray[i] = l[i]'(by simpa using h)) ∧ (∀ (a : α) (l : List α) (i : Nat) (h : i + 1 < (a :: l).length), (a :: l)[i + 1] = l[i]'(Nat.lt_of_succ_lt_succ h)) ∧ ∀ (a : α) (l : List α) (h : 0 < (a :: l).length), (a :: l)[0] = a :=
  ⟨fun _ _ _ => List.setIfInBounds_toArray .., fun _ _ _ => rfl, fun _ _ _ _ => rfl, fun _ _ _ => List.getElem_toArray .., fun _ _ _ _ => rfl, fun _ _ _ => rfl⟩
theorem tkq {P : Program} {ops : Array Oper} {Q : Exit → Act → World → Prop} {md : Region.Mode} {S : World → Prop} {oi : Oper} {v : Value} {fuel : Nat} {listed : Array Bool} {a : Act} {w : World} (i : Nat) (hi : ops[i]? = some oi)
    (hy : ∀ w, S w → (execOp a.eval oi).run P w = .ok (.value v) w) (h : wpAnyH P md ops Q S fuel (listed.setIfInBounds i true) (a.put oi.dst v) w)
    (hs : Region.noSelect ops = true := by kernel_rfl) (hf : Region.free md ops listed i = true := by kernel_rfl) (hr : (Region.ready md ops listed).contains i = true := by kernel_rfl)
    (hQ : ∀ c a w, Q (.panic c) (a.put oi.dst v) w → Q (.panic c) a w := by exact fun _ _ _ h => h) (hw : Region.wanted oi (yielded ops a.tmps) = true := by rfl) (hS : S w := by assumption) : wpAnyH P md ops Q S (fuel + 1) listed a w :=
  wpAnyH_take hi hs hf hr hQ (Or.inl ⟨hw, hy⟩) hS h
theorem rdq {P : Program} {ops : Array Oper} {Q : Exit → Act → World → Prop} {md : Region.Mode} {S : World → Prop} {fuel : Nat} {listed : Array Bool} {a : Act} {w : World} (i : Nat) {o : Oper} (ho : ops[i]? = some o)
    (h : ∀ K' : Act → World → Prop, Shut (∀ a w, S w → (S w → wpAnyH P md ops Q S fuel (listed.setIfInBounds i true) a w) → K' a w) → if Region.wanted o (yielded ops a.tmps) = true then Oper.wp P o a w K' Q else K' (a.put o.dst undef) w)
    (hr : Region.ready md ops listed = [i] := by kernel_rfl) : wpAnyH P md ops Q S (fuel + 1) listed a w :=
  wpAnyH_ready hr (by simp) (AllReadyH.cons ho h AllReadyH.nil)
open Go.RowKit
theorem hide {p : Prop} (h : p) : Hid p := h
structure Tm where
 name : ByteArray
 args : List Tm
theorem Tm.ind {P : Tm → Prop} (h : ∀ s l, (∀ x ∈ l, P x) → P ⟨s, l⟩) (t : Tm) : P t :=
 Tm.rec (motive_1 := P) (motive_2 := fun l => ∀ x ∈ l, P x) (fun s l ih => h s l ih) (fun x hx => by cases hx)
  (fun a l ha hl x hx => by
   rcases List.mem_cons.1 hx with e | e
   ·subst e; exact ha
   ·exact hl x e) t
theorem Tm.indL {P : List Tm → Prop} (h0 : P []) (h : ∀ s l r, P l → P r → P (⟨s, l⟩ :: r)) (l : List Tm) : P l :=
 Tm.rec_1 (motive_1 := fun t => P t.args) (motive_2 := P) (fun _ _ ih => ih) h0 (fun a l ha hl => by obtain ⟨s, k⟩ := a; exact h s k l ha hl) l
def sizeL : List Tm → Nat
 | [] => 0
 | ⟨_, l⟩ :: r => 1 + sizeL l + sizeL r
theorem sizeL_append (a b : List Tm) : sizeL (a ++ b) = sizeL a + sizeL b := by
 induction a with
 | nil => simp [sizeL]
 | cons t r ih => obtain ⟨s, l⟩ := t; simp only [List.cons_append, sizeL, ih]; omega
def Lies (w : World) (X : Nat → Prop) : Nat → Nat → List Tm → Prop
 | _, _, [] => True
 | b, o, ⟨s, l⟩ :: r => X b ∧ w.cell? ⟨b, o, none⟩ = some (.string s) ∧
   (∃ a c, w.cell? ⟨b, o + 1, none⟩ = some (.slice a l.length c) ∧ l.length ≤ 9223372036854775807 ∧ (l = [] ∨ ∃ b' o', a = some ⟨b', o', none⟩ ∧ Lies w X b' o' l)) ∧ Lies w X b (o + 2) r
def Sl (w : World) (X : Nat → Prop) (a : Option Addr) (l : List Tm) : Prop := l.length ≤ 9223372036854775807 ∧ (l = [] ∨ ∃ b o, a = some ⟨b, o, none⟩ ∧ Lies w X b o l)
def TV (w : World) (X : Nat → Prop) (v : Value) (t : Tm) : Prop := ∃ a c, v = .agg #[.string t.name, .slice a t.args.length c] ∧ Sl w X a t.args
theorem lies_kept {w w' : World} {X : Nat → Prop} (h : ∀ b, X b → w'.heap[b]? = w.heap[b]?) (l : List Tm) : ∀ b o, Lies w X b o l → Lies w' X b o l := by
 induction l using Tm.indL with
 | h0 => intro b o _; simp [Lies]
 | h s l r ihl ihr =>
  intro b o hl
  simp only [Lies] at hl ⊢
  obtain ⟨hx, h1, ⟨a, c, h2, h2', h3⟩, h4⟩ := hl
  refine ⟨hx, by rw [World.cell?_of_block (h b hx)]; exact h1, ⟨a, c, by rw [World.cell?_of_block (h b hx)]; exact h2, h2', ?_⟩, ihr _ _ h4⟩
  rcases h3 with h3 | ⟨b', o', h3, h5⟩
  ·exact Or.inl h3
  ·exact Or.inr ⟨b', o', h3, ihl _ _ h5⟩
theorem lies_mono {w : World} {X Y : Nat → Prop} (h : ∀ b, X b → b < w.heap.size → Y b) (l : List Tm) : ∀ b o, Lies w X b o l → Lies w Y b o l := by
 induction l using Tm.indL with
 | h0 => intro b o _; simp [Lies]
 | h s l r ihl ihr =>
  intro b o hl
  simp only [Lies] at hl ⊢
  obtain ⟨hx, h1, ⟨a, c, h2, h2', h3⟩, h4⟩ := hl
  have hb : b < w.heap.size := by
   apply Classical.byContradiction
   intro hn
   have e : w.heap[b]? = none := Array.getElem?_eq_none (by omega)
   simp [World.cell?, e] at h1
  refine ⟨h b hx hb, h1, ⟨a, c, h2, h2', ?_⟩, ihr _ _ h4⟩
  rcases h3 with h3 | ⟨b', o', h3, h5⟩
  ·exact Or.inl h3
  ·exact Or.inr ⟨b', o', h3, ihl _ _ h5⟩
theorem Sl.kept {w w' : World} {X : Nat → Prop} {a : Option Addr} {l : List Tm} (h : Sl w X a l) (hk : ∀ b, X b → w'.heap[b]? = w.heap[b]?) : Sl w' X a l := by
 obtain ⟨hl, h⟩ := h
 refine ⟨hl, ?_⟩
 rcases h with h | ⟨b, o, e, h⟩
 ·exact Or.inl h
 ·exact Or.inr ⟨b, o, e, lies_kept hk _ _ _ h⟩
theorem Sl.mono {w : World} {X Y : Nat → Prop} {a : Option Addr} {l : List Tm} (h : Sl w X a l) (hk : ∀ b, X b → b < w.heap.size → Y b) : Sl w Y a l := by
 obtain ⟨hl, h⟩ := h
 refine ⟨hl, ?_⟩
 rcases h with h | ⟨b, o, e, h⟩
 ·exact Or.inl h
 ·exact Or.inr ⟨b, o, e, lies_mono hk _ _ _ h⟩
theorem Sl.below {w w' : World} {X : Nat → Prop} {a : Option Addr} {l : List Tm} {B : Nat} (h : Sl w X a l) (hb : Below B w w') (hX : ∀ b, X b → b < w.heap.size → b < B) : Sl w' X a l := by
 have h1 : Sl w (fun b => X b ∧ b < B) a l := h.mono fun b hx hs => ⟨hx, hX b hx hs⟩
 have h2 : Sl w' (fun b => X b ∧ b < B) a l := h1.kept fun b hx => hb.block b hx.2
 exact h2.mono fun b hx _ => hx.1
theorem TV.kept {w w' : World} {X : Nat → Prop} {v : Value} {t : Tm} (h : TV w X v t) (hk : ∀ b, X b → w'.heap[b]? = w.heap[b]?) : TV w' X v t := by
 obtain ⟨a, c, e, h⟩ := h
 exact ⟨a, c, e, h.kept hk⟩
theorem TV.mono {w : World} {X Y : Nat → Prop} {v : Value} {t : Tm} (h : TV w X v t) (hk : ∀ b, X b → b < w.heap.size → Y b) : TV w Y v t := by
 obtain ⟨a, c, e, h⟩ := h
 exact ⟨a, c, e, h.mono hk⟩
theorem TV.below {w w' : World} {X : Nat → Prop} {v : Value} {t : Tm} {B : Nat} (h : TV w X v t) (hb : Below B w w') (hX : ∀ b, X b → b < w.heap.size → b < B) : TV w' X v t := by
 obtain ⟨a, c, e, h⟩ := h
 exact ⟨a, c, e, h.below hb hX⟩
theorem TV.alloc {w : World} {X : Nat → Prop} {v : Value} {t : Tm} (h : TV w X v t) (o : Obj) : TV (w.alloc o) X v t :=
 h.below ((Below.refl _ _).alloc (Nat.le_refl _) o) (fun _ _ h => h)
theorem TV.later {w w' : World} {X : Nat → Prop} {v : Value} {t : Tm} (h : TV w X v t) (hb : Below w.heap.size w w') : TV w' X v t := h.below hb (fun _ _ h => h)
theorem Sl.later {w w' : World} {X : Nat → Prop} {a : Option Addr} {l : List Tm} (h : Sl w X a l) (hb : Below w.heap.size w w') : Sl w' X a l := h.below hb (fun _ _ h => h)
theorem lies_get {w : World} {X : Nat → Prop} : ∀ (l : List Tm) (b o : Nat), Lies w X b o l → ∀ i (h : i < l.length),
  X b ∧ w.cell? ⟨b, o + i * 2, none⟩ = some (.string l[i].name) ∧ ∃ a c, w.cell? ⟨b, o + i * 2 + 1, none⟩ = some (.slice a l[i].args.length c) ∧ Sl w X a l[i].args := by
 intro l
 induction l with
 | nil => intro b o _ i h; simp at h
 | cons t r ih =>
  intro b o hl i h
  obtain ⟨s, k⟩ := t
  simp only [Lies] at hl
  obtain ⟨hx, h1, ⟨a, c, h2, h3⟩, h4⟩ := hl
  cases i with
  | zero => exact ⟨hx, h1, a, c, h2, h3⟩
  | succ i =>
   have := ih b (o + 2) h4 i (by simpa using h)
   simp only [List.getElem_cons_succ]
   rw [show o + (i + 1) * 2 = o + 2 + i * 2 by omega]
   exact this
theorem lies_mk {w : World} {X : Nat → Prop} : ∀ (l : List Tm) (b o : Nat), (∀ i (h : i < l.length),
  X b ∧ w.cell? ⟨b, o + i * 2, none⟩ = some (.string l[i].name) ∧ ∃ a c, w.cell? ⟨b, o + i * 2 + 1, none⟩ = some (.slice a l[i].args.length c) ∧ Sl w X a l[i].args) → Lies w X b o l := by
 intro l
 induction l with
 | nil => intro b o _; simp [Lies]
 | cons t r ih =>
  intro b o hl
  obtain ⟨s, k⟩ := t
  simp only [Lies]
  obtain ⟨hx, h1, a, c, h2, h3⟩ := hl 0 (by simp)
  refine ⟨hx, h1, ⟨a, c, h2, h3⟩, ih b (o + 2) fun i h => ?_⟩
  have := hl (i + 1) (by simpa using h)
  simp only [List.getElem_cons_succ] at this
  rw [show o + (i + 1) * 2 = o + 2 + i * 2 by omega] at this
  exact this
theorem Sl.get {w wr : World} {X : Nat → Prop} {a : Option Addr} {l : List Tm} {B : Nat} (h : Sl w X a l) (hb : Below B w wr) (hX : ∀ b, X b → b < w.heap.size → b < B) (k : Nat) (hk : k < l.length) :
  ∃ b o a' c', a = some ⟨b, o, none⟩ ∧ wr.cell? ⟨b, o + k * 2, none⟩ = some (.string l[k].name) ∧ wr.cell? ⟨b, o + k * 2 + 1, none⟩ = some (.slice a' l[k].args.length c') ∧ TV wr X (.agg #[.string l[k].name, .slice a' l[k].args.length c']) l[k] := by
 have h' := h.below hb hX
 obtain ⟨_, h1⟩ := h'
 rcases h1 with h1 | ⟨b, o, e, h1⟩
 ·subst h1; simp at hk
 ·obtain ⟨_, h2, a', c', h3, h4⟩ := lies_get _ _ _ h1 k hk
  exact ⟨b, o, a', c', e, h2, h3, a', c', rfl, h4⟩
theorem sizeL_take (l : List Tm) (k : Nat) (h : k < l.length) : sizeL (l.take (k + 1)) = sizeL (l.take k) + sizeL [l[k]] := by
 rw [List.take_succ_eq_append_getElem h, sizeL_append]
theorem sizeL_take_le (l : List Tm) (k : Nat) : sizeL (l.take k) ≤ sizeL l := by
 have := sizeL_append (l.take k) (l.drop k)
 rw [List.take_append_drop] at this
 omega
theorem ret_int {k : IntKind} {a b : Int} (h : a = b) : Ending.returned (.int k a) = .returned (.int k b) := by rw [h]
theorem below_box {w wr : World} {o : Obj} (hb : Below (w.heap.size + 1) (w.alloc o) wr) : Below w.heap.size w wr :=
 ((Below.refl _ _).alloc (Nat.le_refl _) _).trans (hb.mono (Nat.le_succ _))
set_option linter.unusedSimpArgs false
set_option linter.unusedVariables false
def digB (n : Int) : Bool := decide (48 ≤ n) && decide (n ≤ 57)
def capB (n : Int) : Bool := decide (65 ≤ n) && decide (n ≤ 90)
def lowB (n : Int) : Bool := decide (97 ≤ n) && decide (n ≤ 122)
def letB (n : Int) : Bool := lowB n || capB n
def alnB (n : Int) : Bool := letB n || digB n
theorem ret_bool {a b : Bool} (h : a = b) : Ending.returned (.bool a) = .returned (.bool b) := by rw [h]
set_option maxHeartbeats 400000 in
theorem isDigit_any (n : Int) (w : World) : Calls Tryz.prog 81 #[.int .u8 n] w fun e w' => e = .returned (.bool (digB n)) ∧ w' = w := by
 go_enter Tryz.func81, Tryz.ntmps81
 go_wp2_with fail
 all_goals (go_ret; refine ⟨ret_bool ?_, rfl⟩; rw [Bool.eq_iff_iff]; simp [alnB, letB, lowB, capB, digB] <;> omega)
set_option maxHeartbeats 400000 in
theorem isCapital_any (n : Int) (w : World) : Calls Tryz.prog 72 #[.int .u8 n] w fun e w' => e = .returned (.bool (capB n)) ∧ w' = w := by
 go_enter Tryz.func72, Tryz.ntmps72
 go_wp2_with fail
 all_goals (go_ret; refine ⟨ret_bool ?_, rfl⟩; rw [Bool.eq_iff_iff]; simp [alnB, letB, lowB, capB, digB] <;> omega)
set_option maxHeartbeats 400000 in
theorem isLetter_any (n : Int) (w : World) : Calls Tryz.prog 82 #[.int .u8 n] w fun e w' => e = .returned (.bool (letB n)) ∧ w' = w := by
 go_enter Tryz.func82, Tryz.ntmps82
 go_wp2_with (go_at_call 72; refine (isCapital_any _ _).mono ?_; rintro e w' ⟨rfl, rfl⟩)
 all_goals (go_ret; refine ⟨ret_bool ?_, rfl⟩; rw [Bool.eq_iff_iff]; simp [alnB, letB, lowB, capB, digB] <;> omega)
def byteAt (s : ByteArray) (i : Nat) : Int := if h : i < s.size then (s[i].toNat : Int) else 0
theorem byteAt_of {s : ByteArray} {i : Nat} (h : i < s.size) : (s[i].toNat : Int) = byteAt s i := by simp [byteAt, h]
def varB (s : ByteArray) : Bool := capB (byteAt s 0)
def alnTo (s : ByteArray) (k : Nat) : Bool := (List.range k).all fun i => alnB (byteAt s i)
def nameB (s : ByteArray) : Bool := decide (1 ≤ s.size) && decide (s.size ≤ 8) && !digB (byteAt s 0) && alnTo s s.size
theorem isEmpty_pos {s : ByteArray} (h : 0 < s.size) : s.toList.isEmpty = false := by
 rw [ByteArray.toList_eq, List.isEmpty_eq_false_iff, ← List.length_pos_iff]
 simpa using h
theorem isEmpty_zero {s : ByteArray} (h : ¬ 0 < s.size) : s.toList.isEmpty = true := by
 rw [ByteArray.toList_eq, List.isEmpty_iff, ← List.length_eq_zero_iff]
 have : s.size = 0 := by omega
 simpa using this
theorem alnTo_succ (s : ByteArray) (k : Nat) : alnTo s (k + 1) = (alnTo s k && alnB (byteAt s k)) := by
 simp [alnTo, List.range_succ, List.all_append]
theorem alnTo_false {s : ByteArray} {k n : Nat} (h : k ≤ n) (hf : alnTo s k = false) : alnTo s n = false := by
 cases hn : alnTo s n with
 | false => rfl
 | true =>
  rw [← hf]; symm
  unfold alnTo at hn ⊢
  rw [List.all_eq_true] at hn ⊢
  intro x hx; exact hn x (by rw [List.mem_range] at hx ⊢; omega)
set_option maxHeartbeats 400000 in
theorem isVariable_all (s : ByteArray) (w : World) : Calls Tryz.prog 52 #[.string s] w fun e w' => e = .returned (.bool (varB s)) ∧ w' = w := by
 by_cases h : 0 < s.size
 ·have hb := hide (byteAt_of h)
  have he := isEmpty_pos h
  go_enter Tryz.func52, Tryz.ntmps52
  go_wp2_with (go_at_call 72; refine (isCapital_any _ _).mono ?_; rintro e w' ⟨rfl, rfl⟩)
  go_ret
  refine ⟨ret_bool ?_, rfl⟩
  rw [hb.out]; rfl
 ·have he := isEmpty_zero h
  have hv : Hid (false = varB s) := by simp [Hid, varB, byteAt, h, capB]
  go_enter Tryz.func52, Tryz.ntmps52
  go_wp2_with fail
  go_ret
  exact ⟨ret_bool hv.out, rfl⟩
theorem isVariable_any (s : ByteArray) (w : World) (h : 0 < s.size) : Calls Tryz.prog 52 #[.string s] w fun e w' => e = .returned (.bool (varB s)) ∧ w' = w := isVariable_all s w
theorem nameB_no {s : ByteArray} {k : Nat} (hk : k < s.size) (h : alnB (byteAt s k) = false) : nameB s = false := by
 have h1 : alnTo s (k + 1) = false := by rw [alnTo_succ, h]; simp
 have h2 := alnTo_false (n := s.size) (by omega) h1
 simp [nameB, h2]
set_option maxHeartbeats 400000 in
theorem isName_any (s : ByteArray) (w : World) : Calls Tryz.prog 66 #[.string s] w fun e w' => e = .returned (.bool (nameB s)) ∧ w' = w := by
 by_cases h0 : s.size < 1
 ·have hn : Hid (false = nameB s) := by simp [Hid, nameB]; omega
  go_enter Tryz.func66, Tryz.ntmps66
  go_wp2_with fail
  go_ret
  exact ⟨ret_bool hn.out, rfl⟩
 ·by_cases h8 : 8 < s.size
  ·have hn : Hid (false = nameB s) := by simp [Hid, nameB]; omega
   go_enter Tryz.func66, Tryz.ntmps66
   go_wp2_with fail
   all_goals (go_ret; exact ⟨ret_bool hn.out, rfl⟩)
  ·have hb := hide (byteAt_of (s := s) (i := 0) (by omega))
   by_cases hd : digB (byteAt s 0) = true
   ·have hn : Hid (false = nameB s) := by simp [Hid, nameB, hd]
    have hd' := hide hd
    clear hd
    go_enter Tryz.func66, Tryz.ntmps66
    go_wp2_with (go_at_call 81; refine (isDigit_any _ _).mono ?_; rintro e w' ⟨rfl, rfl⟩; rw [hb.out, hd'.out])
    all_goals (go_ret; exact ⟨ret_bool hn.out, rfl⟩)
   ·have hd' : Hid (digB (byteAt s 0) = false) := by simpa [Hid] using hd
    clear hd
    go_enter Tryz.func66, Tryz.ntmps66
    go_wp2_with (go_at_call 81; refine (isDigit_any _ _).mono ?_; rintro e w' ⟨rfl, rfl⟩; rw [hb.out, hd'.out])
    go_loop [19] (fun i => ∃ k : Nat, k ≤ s.size ∧ i = .int .i64 k ∧ alnTo s k = true) (fun i => s.size - (intOf i).toNat)
    case atStart => exact ⟨0, Nat.zero_le _, rfl, rfl⟩
    case round =>
     obtain ⟨k, hk, rfl, ha⟩ := hrel
     have HA := hide ha
     clear ha
     by_cases hlt : k < s.size
     ·have hbk := hide (byteAt_of hlt)
      have hsuc := hide (alnTo_succ s k)
      cases hl : letB (byteAt s k) with
      | true =>
       have HL := hide hl
       clear hl
       go_wp2_with (go_at_call 82; refine (isLetter_any _ _).mono ?_; rintro e w' ⟨rfl, rfl⟩; rw [hbk.out, HL.out])
       go_round
       case rel => exact ⟨k + 1, by omega, by go_num, by rw [hsuc.out, HA.out, alnB, HL.out]; rfl⟩
       case measure => simp [intOf]; omega
      | false =>
       have HL := hide hl
       clear hl
       cases hg : digB (byteAt s k) with
       | true =>
        have HG := hide hg
        clear hg
        go_wp2_with (first | (go_at_call 82; refine (isLetter_any _ _).mono ?_; rintro e w' ⟨rfl, rfl⟩; rw [hbk.out, HL.out]) | (go_at_call 81; refine (isDigit_any _ _).mono ?_; rintro e w' ⟨rfl, rfl⟩; rw [hbk.out, HG.out]))
        go_round
        case rel => exact ⟨k + 1, by omega, by go_num, by rw [hsuc.out, HA.out, alnB, HL.out, HG.out]; rfl⟩
        case measure => simp [intOf]; omega
       | false =>
        have HG := hide hg
        clear hg
        go_wp2_with (first | (go_at_call 82; refine (isLetter_any _ _).mono ?_; rintro e w' ⟨rfl, rfl⟩; rw [hbk.out, HL.out]) | (go_at_call 81; refine (isDigit_any _ _).mono ?_; rintro e w' ⟨rfl, rfl⟩; rw [hbk.out, HG.out]))
        go_ret
        exact ⟨ret_bool (nameB_no hlt (by rw [alnB, HL.out, HG.out]; rfl)).symm, rfl⟩
     ·have hn : Hid (true = nameB s) := by
       have e : k = s.size := by omega
       have := HA.out
       rw [e] at this
       simp [Hid, nameB, this, hd'.out]; omega
      go_wp2_with fail
      go_ret
      exact ⟨ret_bool hn.out, rfl⟩
theorem argsOf_any (s : ByteArray) (a : Option Addr) (n c : Nat) (w : World) :
  Calls Tryz.prog 65 #[.agg #[.string s, .slice a n c]] w fun e w' => e = .returned (.slice a n c) ∧ w' = w.alloc (.cells #[.string s, .slice a n c] 26) := by
 go_enter Tryz.func65, Tryz.ntmps65
 go_wp2_with fail
 go_ret
 exact ⟨rfl, rfl⟩
set_option maxHeartbeats 400000 in
theorem countOn_any (M : Int) (hM0 : 0 ≤ M) (hM1 : M ≤ 1000000) (t : Tm) : ∀ (v : Value) (n : Int) (w : World) (X : Nat → Prop), TV w X v t → 0 ≤ n → n ≤ M →
  Calls Tryz.prog 80 #[v, .func (.func 65) #[] #[], .int .i64 M, .int .i64 n] w fun e w' => e = .returned (.int .i64 (min (n + sizeL [t]) (M + 1))) ∧ Below w.heap.size w w' := by
 induction t using Tm.ind with
 | h s l ih =>
  intro v n w X hv hn0 hn1
  obtain ⟨a, c, rfl, hs⟩ := hv
  have IH := hide ih
  clear ih
  have hz : Hid ((sizeL [(⟨s, l⟩ : Tm)] : Int) = 1 + sizeL l) := by simp [Hid, sizeL]
  go_enter Tryz.func80, Tryz.ntmps80
  go_wp2_with (go_at_call 65; refine (argsOf_any _ _ _ _ _).mono ?_; rintro e w' ⟨rfl, rfl⟩)
  have hB0 : Hid (Below w.heap.size w ((w.alloc (Obj.cells #[Value.string s, Value.slice a l.length c] 26)).alloc (Obj.cells #[Value.string s, Value.slice a l.length c] 26))) := ((Below.refl _ _).alloc (Nat.le_refl _) _).alloc (by simp) _
  have hZ0 : Hid (w.heap.size + 2 ≤ ((w.alloc (Obj.cells #[Value.string s, Value.slice a l.length c] 26)).alloc (Obj.cells #[Value.string s, Value.slice a l.length c] 26)).heap.size) := by simp [Hid]
  generalize ((w.alloc (Obj.cells #[Value.string s, Value.slice a l.length c] 26)).alloc (Obj.cells #[Value.string s, Value.slice a l.length c] 26)) = w0 at *
  go_loopw [9, 18] (fun m i wr => ∃ k : Nat, k ≤ l.length ∧ i = .int .i64 k ∧ m = .int .i64 (min (n + 1 + sizeL (l.take k)) (M + 1)) ∧ Below w.heap.size w wr) (fun m i wr => l.length - (intOf i).toNat)
  case atStart => exact ⟨0, Nat.zero_le _, rfl, by rw [show sizeL (l.take 0) = 0 by simp [sizeL]]; congr 1; omega, hB0.out⟩
  case round =>
   obtain ⟨k, hk, rfl, rfl, hb⟩ := hrel
   have hl := hs.1
   have hsz : w.heap.size ≤ wr.heap.size := hb.size
   by_cases hlt : k < l.length
   ·obtain ⟨b, o, a', c', rfl, d0, d1, hx⟩ := hs.get hb (fun _ _ h => h) k hlt
    by_cases hle : n + 1 + (sizeL (l.take k) : Int) ≤ M
    ·have hmin : min (n + 1 + (sizeL (l.take k) : Int)) (M + 1) = n + 1 + (sizeL (l.take k) : Int) := by omega
     rw [hmin]
     go_wp2_with fail
     refine (IH.out _ (List.getElem_mem hlt) _ _ _ X (hx.alloc _) (by omega) (by omega)).mono ?_
     rintro e w1 ⟨rfl, hb1⟩
     have Hst := hide (sizeL_take l k hlt)
     go_wp2_with fail
     go_roundw
     case rel => exact ⟨k + 1, by omega, by go_num, by rw [Hst.out]; congr 1; omega, (hb.alloc hsz _).trans (hb1.mono (by simp; omega))⟩
     case measure => simp [intOf]; omega
    ·have hmin : min (n + 1 + (sizeL (l.take k) : Int)) (M + 1) = M + 1 := by omega
     rw [hmin]
     have hle2 : sizeL (l.take k) ≤ sizeL l := sizeL_take_le l k
     go_wp2_with fail
     go_ret
     refine ⟨ret_int (by have := hz.out; omega), ?_⟩
     exact hb.alloc (by omega) _
   ·have htk : l.take k = l := List.take_of_length_le (by omega)
    rw [htk]
    go_wp2_with fail
    go_ret
    exact ⟨ret_int (by have := hz.out; omega), hb⟩
theorem countT_any (M : Int) (hM0 : 0 ≤ M) (hM1 : M ≤ 1000000) (t : Tm) (v : Value) (w : World) (X : Nat → Prop) (hv : TV w X v t) :
  Calls Tryz.prog 64 #[v, .func (.func 65) #[] #[], .int .i64 M] w fun e w' => e = .returned (.int .i64 (min (sizeL [t] : Int) (M + 1))) ∧ Below w.heap.size w w' := by
 obtain ⟨a, c, rfl, hs⟩ := hv
 have hv : TV w X (.agg #[.string t.name, .slice a t.args.length c]) t := ⟨a, c, rfl, hs⟩
 go_enter Tryz.func64, Tryz.ntmps64
 go_wp2_with fail
 refine (countOn_any M hM0 hM1 t _ _ _ X (hv.alloc _) (by omega) (by omega)).mono ?_
 rintro e w1 ⟨rfl, hb1⟩
 go_wp2_with fail
 go_ret
 exact ⟨ret_int (by omega), ((Below.refl _ _).alloc (Nat.le_refl _) _).trans (hb1.mono (by simp))⟩
theorem count_any (M : Int) (hM0 : 0 ≤ M) (hM1 : M ≤ 1000000) (t : Tm) (v : Value) (w : World) (X : Nat → Prop) (hv : TV w X v t) :
  Calls Tryz.prog 42 #[v, .int .i64 M] w fun e w' => e = .returned (.int .i64 (min (sizeL [t] : Int) (M + 1))) ∧ Below w.heap.size w w' := by
 obtain ⟨a, c, rfl, hs⟩ := hv
 have hv : TV w X (.agg #[.string t.name, .slice a t.args.length c]) t := ⟨a, c, rfl, hs⟩
 go_enter Tryz.func42, Tryz.ntmps42
 go_wp2_with fail
 refine (countT_any M hM0 hM1 t _ _ X (hv.alloc _)).mono ?_
 rintro e w1 ⟨rfl, hb1⟩
 go_wp2_with fail
 go_ret
 exact ⟨ret_int (by omega), ((Below.refl _ _).alloc (Nat.le_refl _) _).trans (hb1.mono (by simp))⟩
def errL : List Tm → Int
 | [] => 0
 | ⟨s, l⟩ :: r => if nameB s = true then (if (varB s && decide (0 < l.length)) = true then 2 else if errL l = 0 then errL r else errL l) else 1
theorem errL_cons (t : Tm) (r : List Tm) : errL (t :: r) = if errL [t] = 0 then errL r else errL [t] := by
 obtain ⟨s, l⟩ := t
 simp only [errL]
 split
 ·split
  ·simp
  ·split <;> simp_all
 ·simp
theorem errL_append (a b : List Tm) : errL (a ++ b) = if errL a = 0 then errL b else errL a := by
 induction a with
 | nil => simp [errL]
 | cons t r ih =>
  rw [List.cons_append, errL_cons, errL_cons t r, ih]
  by_cases h : errL [t] = 0 <;> simp [h]
theorem errL_take (l : List Tm) (k : Nat) (h : k < l.length) : errL (l.take (k + 1)) = if errL (l.take k) = 0 then errL [l[k]] else errL (l.take k) := by
 rw [List.take_succ_eq_append_getElem h, errL_append]
theorem errL_of_take {l : List Tm} {k : Nat} (h : errL (l.take k) ≠ 0) : errL l = errL (l.take k) := by
 have := errL_append (l.take k) (l.drop k)
 rw [List.take_append_drop, if_neg h] at this
 exact this
theorem name_pos {s : ByteArray} (h : nameB s = true) : 0 < s.size := by
 simp [nameB] at h; omega
set_option maxHeartbeats 400000 in
theorem checkKnots_any (t : Tm) : ∀ (v : Value) (w : World) (X : Nat → Prop), TV w X v t →
  Calls Tryz.prog 43 #[v] w fun e w' => e = .returned (.int .i64 (errL [t])) ∧ Below w.heap.size w w' := by
 induction t using Tm.ind with
 | h s l ih =>
  intro v w X hv
  obtain ⟨a, c, rfl, hs⟩ := hv
  have IH := hide ih
  clear ih
  have hl := hs.1
  cases hn : nameB s with
  | false =>
   have hz : Hid (1 = errL [(⟨s, l⟩ : Tm)]) := by simp [Hid, errL, hn]
   have HN := hide hn
   clear hn
   go_enter Tryz.func43, Tryz.ntmps43
   go_wp2_with (go_at_call 66; refine (isName_any _ _).mono ?_; rintro e w' ⟨rfl, rfl⟩; rw [HN.out])
   go_ret
   exact ⟨ret_int hz.out, (Below.refl _ _).alloc (Nat.le_refl _) _⟩
  | true =>
   have HN := hide hn
   have hpos := name_pos hn
   by_cases hvl : varB s = true ∧ 0 < l.length
   ·obtain ⟨hv, hlp⟩ := hvl
    have hz : Hid (2 = errL [(⟨s, l⟩ : Tm)]) := by simp [Hid, errL, hn, hv, hlp]
    have HV := hide hv
    clear hn hv
    go_enter Tryz.func43, Tryz.ntmps43
    go_wp2_with (first | (go_at_call 66; refine (isName_any _ _).mono ?_; rintro e w' ⟨rfl, rfl⟩; rw [HN.out]) | (go_at_call 52; refine (isVariable_any _ _ hpos).mono ?_; rintro e w' ⟨rfl, rfl⟩; rw [HV.out]))
    go_ret
    exact ⟨ret_int hz.out, (Below.refl _ _).alloc (Nat.le_refl _) _⟩
   ·have hz : Hid (errL [(⟨s, l⟩ : Tm)] = errL l) := by
     have : (varB s && decide (0 < l.length)) = false := by
      rw [Bool.eq_false_iff]; intro h; simp at h; exact hvl ⟨h.1, by omega⟩
     simp only [Hid, errL, hn, this]
     by_cases h0 : errL l = 0 <;> simp [h0]
    have hcase : (varB s = true ∧ l.length < 1) ∨ varB s = false := by
     cases hv : varB s with
     | true => exact Or.inl ⟨rfl, by apply Classical.byContradiction; intro h; exact hvl ⟨hv, by omega⟩⟩
     | false => exact Or.inr rfl
    clear hn hvl
    rcases hcase with ⟨hv, hl0⟩ | hv
    ·have e0 : l = [] := List.length_eq_zero_iff.1 (by omega)
     subst e0
     have HV := hide hv
     clear hv
     go_enter Tryz.func43, Tryz.ntmps43
     go_wp2_with (first | (go_at_call 66; refine (isName_any _ _).mono ?_; rintro e w' ⟨rfl, rfl⟩; rw [HN.out]) | (go_at_call 52; refine (isVariable_any _ _ hpos).mono ?_; rintro e w' ⟨rfl, rfl⟩; rw [HV.out]))
     go_loop [22] (fun i => i = .int .i64 0) (fun i => 0)
     case atStart => rfl
     case round =>
      subst hrel
      have HZ : Hid (0 = errL [(⟨s, []⟩ : Tm)]) := by unfold Hid; rw [hz.out]; simp [errL]
      go_wp2_with fail
      go_ret
      exact ⟨ret_int HZ.out, (Below.refl _ _).alloc (Nat.le_refl _) _⟩
    ·have HV := hide hv
     clear hv
     go_enter Tryz.func43, Tryz.ntmps43
     go_wp2_with (first | (go_at_call 66; refine (isName_any _ _).mono ?_; rintro e w' ⟨rfl, rfl⟩; rw [HN.out]) | (go_at_call 52; refine (isVariable_any _ _ hpos).mono ?_; rintro e w' ⟨rfl, rfl⟩; rw [HV.out]))
     go_loopw [22] (fun i wr => ∃ k : Nat, k ≤ l.length ∧ i = .int .i64 k ∧ errL (l.take k) = 0 ∧ Below (w.heap.size + 1) (w.alloc (Obj.cells #[Value.string s, Value.slice a l.length c] 26)) wr) (fun i wr => l.length - (intOf i).toNat)
     case atStart => exact ⟨0, Nat.zero_le _, rfl, by simp [errL], Below.refl _ _⟩
     case round =>
      obtain ⟨k, hk, rfl, he, hb⟩ := hrel
      have HE := hide he
      clear he
      have hsz : w.heap.size + 1 ≤ wr.heap.size := by have := hb.size; simpa using this
      by_cases hlt : k < l.length
      ·obtain ⟨b, o, a', c', rfl, d0, d1, hx⟩ := hs.get (below_box hb) (fun _ _ h => h) k hlt
       have HT := hide (errL_take l k hlt)
       go_wp2_with fail
       refine (IH.out _ (List.getElem_mem hlt) _ _ X (hx.alloc _)).mono ?_
       rintro e w1 ⟨rfl, hb1⟩
       by_cases hez : errL [l[k]] = 0
       ·have HZ := hide hez
        rw [hez]
        clear hez
        go_wp2_with fail
        go_roundw
        case rel => exact ⟨k + 1, by omega, by go_num, by rw [HT.out, HE.out, HZ.out]; rfl, (hb.alloc hsz _).trans (hb1.mono (by simp; omega))⟩
        case measure => simp [intOf]; omega
       ·have hez' : (errL [l[k]] == 0) = false := by simpa using hez
        have HZ : Hid (errL [l[k]] = errL [(⟨s, l⟩ : Tm)]) := by
         have h1 : errL (l.take (k + 1)) = errL [l[k]] := by rw [HT.out, HE.out]; rfl
         unfold Hid
         rw [hz.out, errL_of_take (l := l) (k := k + 1) (by rw [h1]; exact hez), h1]
        go_wp2_with fail
        go_ret
        exact ⟨ret_int HZ.out, ((below_box hb).alloc (by omega) _).trans (hb1.mono (by simp; omega))⟩
      ·have htk : l.take k = l := List.take_of_length_le (by omega)
       have HZ : Hid (0 = errL [(⟨s, l⟩ : Tm)]) := by unfold Hid; rw [hz.out, ← htk, HE.out]
       go_wp2_with fail
       go_ret
       exact ⟨ret_int HZ.out, below_box hb⟩
def mayE (t : Tm) : Int := if 200 < sizeL [t] then 3 else errL [t]
set_option maxHeartbeats 400000 in
theorem check_any (t : Tm) (v : Value) (w : World) (X : Nat → Prop) (hv : TV w X v t) :
  Calls Tryz.prog 23 #[v] w fun e w' => e = .returned (.int .i64 (mayE t)) ∧ Below w.heap.size w w' := by
 obtain ⟨a, c, rfl, hs⟩ := hv
 have hv : TV w X (.agg #[.string t.name, .slice a t.args.length c]) t := ⟨a, c, rfl, hs⟩
 go_enter Tryz.func23, Tryz.ntmps23
 go_wp2_with fail
 refine (count_any 200 (by omega) (by omega) t _ _ X (hv.alloc _)).mono ?_
 rintro e w1 ⟨rfl, hb1⟩
 have c0 : w1.cell? ⟨w.heap.size, 0, none⟩ = some (.string t.name) := by rw [hb1.cell (p := ⟨_, _, none⟩) (by simp)]; simp
 have c1 : w1.cell? ⟨w.heap.size, 1, none⟩ = some (.slice a t.args.length c) := by rw [hb1.cell (p := ⟨_, _, none⟩) (by simp)]; simp
 have hb2 : Below w.heap.size w w1 := ((Below.refl _ _).alloc (Nat.le_refl _) _).trans (hb1.mono (by simp))
 by_cases h : 200 < sizeL [t]
 ·have hm : Hid (3 = mayE t) := by simp [Hid, mayE, h]
  have e : min (sizeL [t] : Int) (200 + 1) = 201 := by omega
  rw [e]
  go_wp2_with fail
  go_ret
  exact ⟨ret_int hm.out, hb2⟩
 ·have hm : Hid (errL [t] = mayE t) := by simp [Hid, mayE, h]
  have e : min (sizeL [t] : Int) (200 + 1) = sizeL [t] := by omega
  rw [e]
  go_wp2_with fail
  refine (checkKnots_any t _ _ X (hv.later hb2)).mono ?_
  rintro e w2 ⟨rfl, hb3⟩
  go_wp2_with fail
  go_ret
  exact ⟨ret_int hm.out, hb2.trans (hb3.mono hb2.size)⟩
def RowT (w : World) (X : Nat → Prop) : List Tm → List Value → Prop
 | [], xs => xs = []
 | t :: l, xs => ∃ a c r, xs = .string t.name :: .slice a t.args.length c :: r ∧ Sl w X a t.args ∧ RowT w X l r
theorem RowT.len {w : World} {X : Nat → Prop} : ∀ {l : List Tm} {xs : List Value}, RowT w X l xs → xs.length = l.length * 2
 | [], xs, h => by simp [RowT] at h; simp [h]
 | t :: l, xs, h => by
  obtain ⟨a, c, r, rfl, _, h⟩ := h
  simp only [List.length_cons]
  rw [RowT.len h]; omega
theorem RowT.append {w : World} {X : Nat → Prop} : ∀ {l k : List Tm} {xs ys : List Value}, RowT w X l xs → RowT w X k ys → RowT w X (l ++ k) (xs ++ ys)
 | [], k, xs, ys, h, h' => by simp [RowT] at h; subst h; simpa using h'
 | t :: l, k, xs, ys, h, h' => by
  obtain ⟨a, c, r, rfl, hs, h⟩ := h
  exact ⟨a, c, r ++ ys, rfl, hs, RowT.append h h'⟩
theorem RowT.one {w : World} {X : Nat → Prop} : ∀ {l : List Tm} {xs : List Value}, RowT w X l xs → ∀ u ∈ xs, u.oneCell' = true
 | [], xs, h, u, hu => by simp [RowT] at h; subst h; cases hu
 | t :: l, xs, h, u, hu => by
  obtain ⟨a, c, r, rfl, _, h⟩ := h
  rcases List.mem_cons.1 hu with e | hu
  ·subst e; rfl
  ·rcases List.mem_cons.1 hu with e | hu
   ·subst e; rfl
   ·exact RowT.one h u hu
theorem RowT.imp {w w' : World} {X Y : Nat → Prop} (hs : ∀ a l, Sl w X a l → Sl w' Y a l) : ∀ {l : List Tm} {xs : List Value}, RowT w X l xs → RowT w' Y l xs
 | [], xs, h => h
 | t :: l, xs, h => by
  obtain ⟨a, c, r, e, h1, h⟩ := h
  exact ⟨a, c, r, e, hs _ _ h1, RowT.imp hs h⟩
theorem RowT.get {w : World} {X : Nat → Prop} : ∀ {l : List Tm} {xs : List Value}, RowT w X l xs → ∀ i (h : i < l.length),
  xs[i * 2]? = some (.string l[i].name) ∧ ∃ a c, xs[i * 2 + 1]? = some (.slice a l[i].args.length c) ∧ Sl w X a l[i].args
 | [], xs, h, i, hi => by simp at hi
 | t :: l, xs, h, i, hi => by
  obtain ⟨a, c, r, rfl, h1, h⟩ := h
  cases i with
  | zero => exact ⟨rfl, a, c, rfl, h1⟩
  | succ i =>
   have := RowT.get h i (by simpa using hi)
   rw [show (i + 1) * 2 = i * 2 + 2 by omega, show i * 2 + 2 + 1 = (i * 2 + 1) + 2 by omega]
   simpa using this
theorem sizeL_len (l : List Tm) : l.length ≤ sizeL l := by
 induction l with
 | nil => simp
 | cons t r ih => obtain ⟨s, k⟩ := t; simp only [List.length_cons, sizeL]; omega
theorem lies_of_rowT {w w' : World} {X Y : Nat → Prop} (b : Nat) (hb : Y b) : ∀ (l : List Tm) (xs : List Value) (o : Nat), RowT w X l xs → (∀ a k, Sl w X a k → Sl w' Y a k) → (∀ j u, xs[j]? = some u → w'.cell? ⟨b, o + j, none⟩ = some u) → Lies w' Y b o l := by
 intro l
 induction l with
 | nil => intro xs o _ _ _; simp [Lies]
 | cons t r ih =>
  intro xs o h hs hc
  obtain ⟨s, k⟩ := t
  obtain ⟨a, c, r', rfl, h1, h2⟩ := h
  simp only [Lies]
  obtain ⟨h3, h4⟩ := hs _ _ h1
  refine ⟨hb, hc 0 _ rfl, ⟨a, c, hc 1 _ rfl, h3, h4⟩, ih r' (o + 2) h2 hs fun j u hj => ?_⟩
  have := hc (j + 2) u (by simpa using hj)
  rwa [show o + (j + 2) = o + 2 + j by omega] at this
def preL : List Tm → List Tm
 | [] => []
 | ⟨s, l⟩ :: r => ⟨s, l⟩ :: (preL l ++ preL r)
theorem preL_append (a b : List Tm) : preL (a ++ b) = preL a ++ preL b := by
 induction a with
 | nil => simp [preL]
 | cons t r ih => obtain ⟨s, l⟩ := t; simp [preL, ih]
theorem preL_take (l : List Tm) (k : Nat) (h : k < l.length) : preL (l.take (k + 1)) = preL (l.take k) ++ preL [l[k]] := by
 rw [List.take_succ_eq_append_getElem h, preL_append]
theorem preL_length (l : List Tm) : (preL l).length = sizeL l := by
 induction l using Tm.indL with
 | h0 => simp [preL, sizeL]
 | h s l r ihl ihr => simp [preL, sizeL, ihl, ihr]; omega
theorem Sl.back {w w' : World} {X : Nat → Prop} {a : Option Addr} {l : List Tm} {B : Nat} (h : Sl w' X a l) (hb : Below B w w') (hX : ∀ b, X b → b < B) : Sl w X a l :=
 h.kept fun b hx => (hb.block b (hX b hx)).symm
theorem owned_val {w : World} {base e size : Nat} {v : Value} {n : Nat} {xs : List Value} (h : w.ownsRow base e size v n xs) (hn : 0 < n) :
  ∃ g cap, v = .slice (some ⟨g, 0, none⟩) n cap ∧ base ≤ g ∧ g < w.heap.size ∧ ∀ j u, xs[j]? = some u → w.cell? ⟨g, j, none⟩ = some u := by
 have h' := h
 obtain ⟨hl, h1⟩ := h
 rcases h1 with ⟨_, h0⟩ | ⟨g, cap, cur, hv, hg, hh, _⟩
 ·omega
 ·subst hv
  have hlt := (h'.lt g rfl).2
  refine ⟨g, cap, rfl, hg, hlt, fun j u hj => ?_⟩
  have := h'.cells (g := g) rfl j u hj
  by_cases h0 : j = 0
  ·subst h0; simpa [Addr.add] using this
  ·simpa [Addr.add, h0] using this
theorem wpList_append_eq {P : Program} {ops : Array Oper} {rest : List Oper} {o : Oper} {a : Act} {Q : Exit → Act → World → Prop} {w w' : World} {v u v' : Value} (hgd : o.guard = none) (s x : Operand) (t t' : TypeId)
  (ho : o.op = .call { callee := .builtin .append, args := #[s, x], argTypes := #[t, t'] }) (hs : a.eval s = v) (hx : a.eval x = u)
  (hr : (Builtin.append_ #[t, t'] o.type #[v, u]).run P w = .ok v' w') (h : wpList P ops Q rest (a.put o.dst v') w') : wpList P ops Q (o :: rest) a w :=
 wpList_plain hgd fun K hK => by
  unfold Oper.wp execOp
  simp only [ho, resolve, invoke, builtin, Sem.run_bind, Sem.run_pure, Result.andThen_ok, List.map_toArray, List.map_cons, List.map_nil, hs, hx, hr]
  exact hK _ _ h
theorem Tryz.infoTerm : (Tryz.prog.info? 26).map (fun i => (i.zero, i.size, i.bytes)) = some (some (.agg #[.string ByteArray.empty, .slice none 0 0]), 2, 40) := by kernel_rfl
def twoE (t x : Tm) : Int := if mayE t = 0 then mayE x else mayE t
def PV (w : World) (X : Nat → Prop) (v : Value) (zs : List Int) : Prop :=
 ∃ a c, v = .slice a zs.length c ∧ (zs.length ≤ 9223372036854775807 ∧ zs.length ≤ c) ∧ (zs = [] ∨ ∃ b o, a = some ⟨b, o, none⟩ ∧ X b ∧ ∀ i (h : i < zs.length), w.cell? ⟨b, o + i, none⟩ = some (.int .i64 zs[i]))
theorem PV.kept {w w' : World} {X : Nat → Prop} {v : Value} {zs : List Int} (h : PV w X v zs) (hk : ∀ b, X b → w'.heap[b]? = w.heap[b]?) : PV w' X v zs := by
 obtain ⟨a, c, e, hl, h⟩ := h
 refine ⟨a, c, e, hl, ?_⟩
 rcases h with h | ⟨b, o, e, hx, h⟩
 ·exact Or.inl h
 ·exact Or.inr ⟨b, o, e, hx, fun i hi => by rw [World.cell?_of_block (hk b hx)]; exact h i hi⟩
theorem PV.mono {w : World} {X Y : Nat → Prop} {v : Value} {zs : List Int} (h : PV w X v zs) (hk : ∀ b, X b → b < w.heap.size → Y b) : PV w Y v zs := by
 obtain ⟨a, c, e, hl, h⟩ := h
 refine ⟨a, c, e, hl, ?_⟩
 rcases h with h | ⟨b, o, e, hx, h⟩
 ·exact Or.inl h
 ·by_cases h0 : zs = []
  ·exact Or.inl h0
  ·have hp : 0 < zs.length := List.length_pos_iff.2 h0
   exact Or.inr ⟨b, o, e, hk b hx (World.block_lt_of_cell? w _ (h 0 hp)), h⟩
theorem PV.below {w w' : World} {X : Nat → Prop} {v : Value} {zs : List Int} {B : Nat} (h : PV w X v zs) (hb : Below B w w') (hX : ∀ b, X b → b < w.heap.size → b < B) : PV w' X v zs := by
 have h1 : PV w (fun b => X b ∧ b < B) v zs := h.mono fun b hx hs => ⟨hx, hX b hx hs⟩
 have h2 : PV w' (fun b => X b ∧ b < B) v zs := h1.kept fun b hx => hb.block b hx.2
 exact h2.mono fun b hx _ => hx.1
theorem PV.later {w w' : World} {X : Nat → Prop} {v : Value} {zs : List Int} (h : PV w X v zs) (hb : Below w.heap.size w w') : PV w' X v zs := h.below hb (fun _ _ h => h)
theorem PV.alloc {w : World} {X : Nat → Prop} {v : Value} {zs : List Int} (h : PV w X v zs) (o : Obj) : PV (w.alloc o) X v zs := h.later ((Below.refl _ _).alloc (Nat.le_refl _) o)
theorem below2 {w : World} (o1 o2 : Obj) : Below w.heap.size w ((w.alloc o1).alloc o2) := ((Below.refl _ _).alloc (Nat.le_refl _) _).alloc (by simp) _
theorem TV.back {w w' : World} {X : Nat → Prop} {v : Value} {t : Tm} {B : Nat} (h : TV w' X v t) (hb : Below B w w') (hX : ∀ b, X b → b < B) : TV w X v t := by
 obtain ⟨a, c, e, h⟩ := h
 exact ⟨a, c, e, h.back hb hX⟩
theorem same_cells {w w1 : World} {n : Nat} {p1 p2 p3 p4 p5 p6 : Addr} {v1 v2 v3 v4 v5 v6 : Value} (hb : Below (w.drewN n).heap.size (w.drewN n) w1)
  (h : w.cell? p1 = some v1 ∧ w.cell? p2 = some v2 ∧ w.cell? p3 = some v3 ∧ w.cell? p4 = some v4 ∧ w.cell? p5 = some v5 ∧ w.cell? p6 = some v6) :
  w1.cell? p1 = some v1 ∧ w1.cell? p2 = some v2 ∧ w1.cell? p3 = some v3 ∧ w1.cell? p4 = some v4 ∧ w1.cell? p5 = some v5 ∧ w1.cell? p6 = some v6 := by
 have hb' : Below w.heap.size w w1 := (below_drewN (Below.refl _ _) n).trans (hb.mono (by simp))
 exact ⟨cell_later hb' h.1, cell_later hb' h.2.1, cell_later hb' h.2.2.1, cell_later hb' h.2.2.2.1, cell_later hb' h.2.2.2.2.1, cell_later hb' h.2.2.2.2.2⟩
structure Bd where
 nm : ByteArray
 t : Tm
def BV (w : World) (X : Nat → Prop) (v : Value) (l : List Bd) : Prop :=
 ∃ a c, v = .slice a l.length c ∧ (l.length ≤ 9223372036854775807 ∧ l.length ≤ c) ∧ (l = [] ∨ ∃ b o, a = some ⟨b, o, none⟩ ∧ X b ∧ ∀ i (h : i < l.length), w.cell? ⟨b, o + i * 3, none⟩ = some (.string l[i].nm) ∧ w.cell? ⟨b, o + i * 3 + 1, none⟩ = some (.string l[i].t.name) ∧ ∃ a' c', w.cell? ⟨b, o + i * 3 + 2, none⟩ = some (.slice a' l[i].t.args.length c') ∧ Sl w X a' l[i].t.args)
theorem BV.kept {w w' : World} {X : Nat → Prop} {v : Value} {l : List Bd} (h : BV w X v l) (hk : ∀ b, X b → w'.heap[b]? = w.heap[b]?) : BV w' X v l := by
 obtain ⟨a, c, e, hl, h⟩ := h
 refine ⟨a, c, e, hl, ?_⟩
 rcases h with h | ⟨b, o, ea, hX, h⟩
 ·exact Or.inl h
 ·refine Or.inr ⟨b, o, ea, hX, fun i hi => ?_⟩
  obtain ⟨h1, h2, a', c', h3, h4⟩ := h i hi
  have hb := hk b hX
  exact ⟨by simpa [World.cell?, hb] using h1, by simpa [World.cell?, hb] using h2, a', c', by simpa [World.cell?, hb] using h3, h4.kept hk⟩
theorem cell_lt {w : World} {b o : Nat} {v : Value} (h : w.cell? ⟨b, o, none⟩ = some v) : b < w.heap.size := by
 rcases Nat.lt_or_ge b w.heap.size with h' | h'
 ·exact h'
 ·simp [World.cell?, Array.getElem?_eq_none h'] at h
theorem BV.mono {w : World} {X Y : Nat → Prop} {v : Value} {l : List Bd} (h : BV w X v l) (hk : ∀ b, X b → b < w.heap.size → Y b) : BV w Y v l := by
 obtain ⟨a, c, e, hl, h⟩ := h
 refine ⟨a, c, e, hl, ?_⟩
 rcases h with h | ⟨b, o, ea, hX, h⟩
 ·exact Or.inl h
 ·by_cases h0 : l = []
  ·exact Or.inl h0
  ·have hp : 0 < l.length := List.length_pos_iff.2 h0
   refine Or.inr ⟨b, o, ea, hk b hX (cell_lt (h 0 hp).1), fun i hi => ?_⟩
   obtain ⟨h1, h2, a', c', h3, h4⟩ := h i hi
   exact ⟨h1, h2, a', c', h3, h4.mono hk⟩
theorem BV.later {w w' : World} {X : Nat → Prop} {v : Value} {l : List Bd} (h : BV w X v l) (hb : Below w.heap.size w w') : BV w' X v l :=
 ((h.mono (Y := fun b => X b ∧ b < w.heap.size) fun b h1 h2 => ⟨h1, h2⟩).kept fun b hx => hb.block b hx.2).mono fun b hx _ => hx.1
theorem BV.alloc {w : World} {X : Nat → Prop} {v : Value} {l : List Bd} (h : BV w X v l) (o : Obj) : BV (w.alloc o) X v l := h.later ((Below.refl _ _).alloc (Nat.le_refl _) o)
theorem BV.get {w : World} {X : Nat → Prop} {a : Option Addr} {n c : Nat} {l : List Bd} (h : BV w X (.slice a n c) l) (i : Nat) (hi : i < l.length) :
  ∃ b o a' c', a = some ⟨b, o, none⟩ ∧ w.cell? ⟨b, o + i * 3, none⟩ = some (.string l[i].nm) ∧ w.cell? ⟨b, o + i * 3 + 1, none⟩ = some (.string l[i].t.name) ∧ w.cell? ⟨b, o + i * 3 + 2, none⟩ = some (.slice a' l[i].t.args.length c') ∧ Sl w X a' l[i].t.args := by
 obtain ⟨a2, c2, e, hl, h⟩ := h
 simp at e
 obtain ⟨rfl, rfl, rfl⟩ := e
 rcases h with h | ⟨b, o, ea, hX, h⟩
 ·subst h; simp at hi
 ·obtain ⟨h1, h2, a', c', h3, h4⟩ := h i hi
  exact ⟨b, o, a', c', ea, h1, h2, h3, h4⟩
theorem bytes_inj {a b : ByteArray} (h : a.toList = b.toList) : a = b := by
 rw [ByteArray.toList_eq, ByteArray.toList_eq] at h
 cases a with
 | mk x =>
  cases b with
  | mk y => congr 1; exact Array.toList_inj.1 h
theorem bytes_yes {a b : ByteArray} (h : a = b) : (a.toList == b.toList) = true := by rw [h]; simp
theorem bytes_no {a b : ByteArray} (h : a ≠ b) : (a.toList == b.toList) = false := beq_eq_false_iff_ne.2 fun e => h (bytes_inj e)
def forT : List Bd → ByteArray → Option Tm
 | [], _ => none
 | d :: r, n => if d.nm = n then some d.t else forT r n
set_option maxRecDepth 8000
def eqL : List Tm → List Tm → Bool
 | [], [] => true
 | ⟨s, a⟩ :: r, t :: ts => ((s.toList == t.name.toList) && ((a.length == t.args.length) && eqL a t.args)) && eqL r ts
 | _, _ => false
def sameB (a b : Tm) : Bool := (a.name.toList == b.name.toList) && ((a.args.length == b.args.length) && eqL a.args b.args)
theorem eqL_cons (x t : Tm) (r ts : List Tm) : eqL (x :: r) (t :: ts) = (sameB x t && eqL r ts) := by obtain ⟨s, a⟩ := x; simp only [eqL, sameB]
theorem eqL_append : ∀ (a b c d : List Tm), a.length = b.length → eqL (a ++ c) (b ++ d) = (eqL a b && eqL c d)
 | [], [], c, d, _ => by simp [eqL]
 | [], _ :: _, _, _, h => by simp at h
 | _ :: _, [], _, _, h => by simp at h
 | x :: r, t :: ts, c, d, h => by rw [List.cons_append, List.cons_append, eqL_cons, eqL_cons, eqL_append r ts c d (by simpa using h), Bool.and_assoc]
theorem eqL_take {l m : List Tm} {k : Nat} (h : k < l.length) (h2 : k < m.length) : eqL (l.take (k + 1)) (m.take (k + 1)) = (eqL (l.take k) (m.take k) && sameB l[k] m[k]) := by
 rw [List.take_succ_eq_append_getElem h, List.take_succ_eq_append_getElem h2, eqL_append _ _ _ _ (by simp; omega), eqL_cons]
 simp [eqL]
theorem eqL_no {l m : List Tm} {k : Nat} (h : k < l.length) (hlm : l.length = m.length) (h0 : sameB l[k] (m[k]'(by omega)) = false) : eqL l m = false := by
 have e1 : l = l.take (k + 1) ++ l.drop (k + 1) := (List.take_append_drop _ _).symm
 have e2 : m = m.take (k + 1) ++ m.drop (k + 1) := (List.take_append_drop _ _).symm
 rw [e1, e2, eqL_append _ _ _ _ (by simp; omega), eqL_take h (by omega), h0]
 simp
def SaInv (w : World) (l m : List Tm) (a a2 : Option Addr) (c c2 : Nat) (i : Value) (wr : World) : Prop :=
 ∃ (k : Nat), k ≤ l.length ∧ i = .int .i64 k ∧ eqL (l.take k) (m.take k) = true ∧ Below w.heap.size w wr ∧ wr.cell? ⟨w.heap.size, 1, none⟩ = some (.slice a l.length c) ∧ wr.cell? ⟨w.heap.size + 1, 1, none⟩ = some (.slice a2 l.length c2) ∧ w.heap.size + 2 ≤ wr.heap.size
def Blk (w : World) (b : Nat) (cs : Array Value) (T : Nat) : Prop := w.heap[b]? = some (.cells cs T (0, 0))
theorem Blk.lt {w : World} {b : Nat} {cs : Array Value} {T : Nat} (h : Blk w b cs T) : b < w.heap.size := by
 apply Classical.byContradiction
 intro hn
 have e : w.heap[b]? = none := Array.getElem?_eq_none (by omega)
 rw [Blk, e] at h; cases h
theorem Blk.cell {w : World} {b : Nat} {cs : Array Value} {T : Nat} (h : Blk w b cs T) (i : Nat) : w.cell? ⟨b, i, none⟩ = cs[i]? := by
 unfold Blk at h; simp [World.cell?, h]
theorem Blk.c0 {w : World} {b : Nat} {v : Value} {l : List Value} {T : Nat} (h : Blk w b (List.toArray (v :: l)) T) : w.cell? ⟨b, 0, none⟩ = some v := h.cell 0
theorem Blk.c1 {w : World} {b : Nat} {v0 v : Value} {l : List Value} {T : Nat} (h : Blk w b (List.toArray (v0 :: v :: l)) T) : w.cell? ⟨b, 1, none⟩ = some v := h.cell 1
theorem Blk.c2 {w : World} {b : Nat} {v0 v1 v : Value} {l : List Value} {T : Nat} (h : Blk w b (List.toArray (v0 :: v1 :: v :: l)) T) : w.cell? ⟨b, 2, none⟩ = some v := h.cell 2
theorem Blk.c3 {w : World} {b : Nat} {v0 v1 v2 v : Value} {l : List Value} {T : Nat} (h : Blk w b (List.toArray (v0 :: v1 :: v2 :: v :: l)) T) : w.cell? ⟨b, 3, none⟩ = some v := h.cell 3
theorem Blk.frozen {w : World} {b : Nat} {cs : Array Value} {T : Nat} (h : Blk w b cs T) (i : Nat) : w.frozen? ⟨b, i, none⟩ = false := by
 unfold Blk at h; simp [World.frozen?, h]
theorem Blk.new (w : World) (cs : Array Value) (T : Nat) : Blk (w.alloc (.cells cs T)) w.heap.size cs T := heap_alloc_new w _
theorem Blk.alloc {w : World} {b : Nat} {cs : Array Value} {T : Nat} (h : Blk w b cs T) (o : Obj) : Blk (w.alloc o) b cs T := by
 unfold Blk at *; rw [Below.heap_alloc w o b (Blk.lt h)]; exact h
theorem Blk.below {w w' : World} {b B : Nat} {cs : Array Value} {T : Nat} (h : Blk w b cs T) (hb : Below B w w') (hB : b < B) : Blk w' b cs T := by
 unfold Blk at *; rw [hb.block b hB]; exact h
theorem Blk.drewN {w : World} {b : Nat} {cs : Array Value} {T : Nat} (h : Blk w b cs T) (n : Nat) : Blk (w.drewN n) b cs T := h
theorem Blk.grown {w w' : World} {b : Nat} {cs : Array Value} {T : Nat} {row : Option Nat} (h : Blk w b cs T) (hg : w.grownBy w' row) (hr : some b ≠ row) : Blk w' b cs T := by
 unfold Blk at *; rw [hg.block b (Blk.lt h) hr]; exact h
theorem Blk.set {w : World} {b : Nat} {cs : Array Value} {T : Nat} (h : Blk w b cs T) (i : Nat) (v : Value) : Blk (w.setCell ⟨b, i, none⟩ v) b (cs.setIfInBounds i v) T := by
 unfold Blk at *
 simp [World.setCell, Array.getElem?_modify, h]
theorem Blk.setOther {w : World} {b b' : Nat} {cs : Array Value} {T : Nat} (h : Blk w b cs T) (i : Nat) (v : Value) (hne : b ≠ b') : Blk (w.setCell ⟨b', i, none⟩ v) b cs T := by
 unfold Blk at *; rw [Below.heap_setCell _ _ _ _ (by simpa using hne)]; exact h
structure Row (w : World) (N : Nat) (T : Nat) (Y : Nat → Prop) (v : Value) (l : List Tm) (xs : List Value) : Prop where
 own : w.ownsRow N T 2 v l.length xs
 row : RowT w (fun b => Y b ∨ (N ≤ b ∧ some b ≠ v.ownBlock)) l xs
theorem Row.start (w : World) (N T : Nat) (Y : Nat → Prop) : Row w N T Y (.slice none 0 0) [] [] := ⟨World.ownsRow_nil w N T 2, rfl⟩
theorem Row.below {w w' : World} {N T : Nat} {Y : Nat → Prop} {v : Value} {l : List Tm} {xs : List Value} (h : Row w N T Y v l xs) (hb : Below w.heap.size w w') : Row w' N T Y v l xs :=
 ⟨h.own.kept (w' := w') (row := none) ⟨hb.os, hb.tape, hb.output, hb.size, fun j hj _ => hb.block j hj⟩ (by rcases Option.eq_none_or_eq_some (Value.ownBlock v) with h | ⟨x, h⟩; exact Or.inl h; exact Or.inr (by rw [h]; simp)),
  h.row.imp fun a l h => h.later hb⟩
theorem Row.ne {w : World} {N T : Nat} {Y : Nat → Prop} {v : Value} {l : List Tm} {xs : List Value} (h : Row w N T Y v l xs) {b : Nat} (hb : b < N) : some b ≠ v.ownBlock := fun e => by
 have := (h.own.lt b e.symm).1; omega
theorem Row.push {w w1 w2 w3 : World} {N T : Nat} {Y : Nat → Prop} {v : Value} {l : List Tm} {xs : List Value} (h : Row w N T Y v l xs) (hN : N ≤ w.heap.size) (hY : ∀ b, Y b → b < N) (hb : Below w.heap.size w w1) {s : ByteArray} {a : Option Addr} {n c : Nat} {t : Tm}
  (ht : TV w1 (fun b => Y b ∨ w.heap.size ≤ b) (.agg #[.string s, .slice a n c]) t) (o : Obj) (hw2 : w2 = w1.alloc o) {g cap : Nat}
  (hown : w3.ownsRow N T 2 (.slice (some ⟨g, 0, none⟩) (l.length + 1) cap) (l.length + 1) (xs ++ [.string s, .slice a n c])) (hg : w2.grownBy w3 v.ownBlock) (hg1 : v.ownBlock = some g ∨ g = w2.heap.size) :
  Row w3 N T Y (.slice (some ⟨g, 0, none⟩) (l.length + 1) cap) (l ++ [t]) (xs ++ [.string s, .slice a n c]) := by
 subst hw2
 have hlt := h.own.lt
 refine ⟨by simpa using hown, ?_⟩
 have hsz : w1.heap.size ≤ (w1.alloc o).heap.size := by simp
 have hbs := hb.size
 have hgN : N ≤ g := by
  rcases hg1 with e | e
  ·exact (hlt g e).1
  ·simp at e; omega
 refine RowT.append (h.row.imp fun a' k' hs => ?_) ?_
 ·have h1 : Sl w (fun b => (Y b ∨ (N ≤ b ∧ some b ≠ v.ownBlock)) ∧ b < w.heap.size) a' k' := hs.mono fun b h1 h2 => ⟨h1, h2⟩
  have h2 : Sl w3 (fun b => (Y b ∨ (N ≤ b ∧ some b ≠ v.ownBlock)) ∧ b < w.heap.size) a' k' := h1.kept fun b hx => by
   have hne : some b ≠ v.ownBlock := by
    rcases hx.1 with hy | hy
    ·exact h.ne (hY b hy)
    ·exact hy.2
   rw [hg.block b (by simp; omega) hne, Below.heap_alloc _ _ _ (by omega), hb.block b hx.2]
  refine h2.mono fun b hx _ => ?_
  rcases hx.1 with hy | hy
  ·exact Or.inl hy
  ·refine Or.inr ⟨hy.1, fun e => ?_⟩
   simp [Value.ownBlock] at e
   rcases hg1 with e' | e'
   ·exact hy.2 (by rw [e', e])
   ·simp at e'; omega
 ·obtain ⟨a2, c2, e, hs⟩ := ht
  simp at e
  obtain ⟨rfl, rfl, rfl, rfl⟩ := e
  refine ⟨a, c, [], rfl, ?_, rfl⟩
  have h1 : Sl w1 (fun b => (Y b ∨ w.heap.size ≤ b) ∧ b < w1.heap.size) a t.args := hs.mono fun b h1 h2 => ⟨h1, h2⟩
  have h2 : Sl w3 (fun b => (Y b ∨ w.heap.size ≤ b) ∧ b < w1.heap.size) a t.args := h1.kept fun b hx => by
   have hne : some b ≠ v.ownBlock := by
    rcases hx.1 with hy | hy
    ·exact h.ne (hY b hy)
    ·intro e; have := (hlt b e.symm).2; omega
   rw [hg.block b (by simp; omega) hne, Below.heap_alloc _ _ _ hx.2]
  refine h2.mono fun b hx _ => ?_
  rcases hx.1 with hy | hy
  ·exact Or.inl hy
  ·refine Or.inr ⟨by omega, fun e => ?_⟩
   simp [Value.ownBlock] at e
   rcases hg1 with e' | e'
   ·have := (hlt g e').2; omega
   ·simp at e'; omega
theorem Row.setCell {w : World} {N T : Nat} {Y : Nat → Prop} {v : Value} {l : List Tm} {xs : List Value} (h : Row w N T Y v l xs) {b i : Nat} (hb : b < N) (hY : ¬ Y b) (u : Value) : Row (w.setCell ⟨b, i, none⟩ u) N T Y v l xs :=
 ⟨ownsRow_setCell_below h.own (by simpa using hb) u, h.row.imp fun a k hs => hs.kept fun c hc => Below.heap_setCell _ _ _ _ (by
  simp
  rcases hc with hc | hc
  ·intro e; subst e; exact hY hc
  ·omega)⟩
theorem Row.sl {w : World} {N T : Nat} {Y : Nat → Prop} {v : Value} {l : List Tm} {xs : List Value} (h : Row w N T Y v l xs) : ∃ a c, v = .slice a l.length c ∧ Sl w (fun b => Y b ∨ N ≤ b) a l := by
 have hml : l.length ≤ 9223372036854775807 := by
  rcases h.own.2 with ⟨_, h0⟩ | ⟨g, cap, cur, _, _, _, h1, h2, _⟩
  ·omega
  ·unfold maxLen at h2; omega
 by_cases h0 : 0 < l.length
 ·obtain ⟨g, cap, rfl, hg, hlt, hc⟩ := owned_val h.own h0
  exact ⟨_, _, rfl, hml, Or.inr ⟨g, 0, rfl, lies_of_rowT g (Or.inr hg) l xs 0 h.row (fun a k hs => hs.mono fun b hb _ => hb.imp id (fun h => h.1)) (fun j u hj => by simpa using hc j u hj)⟩⟩
 ·have e : l = [] := List.length_eq_zero_iff.1 (by omega)
  subst e
  rcases h.own.2 with ⟨hv, _⟩ | ⟨g, cap, cur, hv, _⟩
  ·exact ⟨none, 0, hv, hml, Or.inl rfl⟩
  ·exact ⟨_, _, hv, hml, Or.inl rfl⟩
theorem copy_blk {wr w1 w3 : World} {o1 o2 : Obj} {b T : Nat} {cs : Array Value} {row : Option Nat} (h : Blk wr b cs T) (hb1 : Below (wr.alloc o1).drew.heap.size (wr.alloc o1).drew w1) (hg : (w1.alloc o2).grownBy w3 row) (hr : some b ≠ row) : Blk w3 b cs T :=
 (((((h.alloc o1).drewN 1).below hb1 (by have := h.lt; simp; omega)).alloc o2).grown hg hr)
abbrev Bc := Bd × Option Addr × Nat
instance : Inhabited Bc := ⟨(⟨⟨#[]⟩, ⟨⟨#[]⟩, []⟩⟩, none, 0)⟩
def enc3 (x : Bc) : List Value := [.string x.1.nm, .string x.1.t.name, .slice x.2.1 x.1.t.args.length x.2.2]
def flat3 : List Bc → List Value
 | [] => []
 | x :: r => enc3 x ++ flat3 r
theorem flat3_append (b : List Bc) : ∀ a, flat3 (a ++ b) = flat3 a ++ flat3 b
 | [] => rfl
 | x :: r => by rw [List.cons_append, flat3, flat3, flat3_append b r, List.append_assoc]
theorem flat3_length : ∀ a : List Bc, (flat3 a).length = a.length * 3
 | [] => rfl
 | x :: r => by rw [flat3, List.length_append, flat3_length r]; simp [enc3]; omega
theorem flat3_get : ∀ (a : List Bc) (i : Nat) (h : i < a.length) (j : Nat), j < 3 → (flat3 a)[i * 3 + j]? = (enc3 a[i])[j]?
 | [], i, h, j, hj => by simp at h
 | x :: r, 0, h, j, hj => by
  rw [flat3, List.getElem?_append_left (by simp [enc3]; omega)]; simp
 | x :: r, i + 1, h, j, hj => by
  rw [flat3, List.getElem?_append_right (by simp [enc3]; omega)]
  have e : (i + 1) * 3 + j - (enc3 x).length = i * 3 + j := by simp [enc3]; omega
  rw [e, flat3_get r i (by simpa using h) j hj]
  simp
structure BRow (w : World) (N : Nat) (Y : Nat → Prop) (v : Value) (cs : List Bc) : Prop where
 own : w.ownsRow N 82 3 v cs.length (flat3 cs)
 row : ∀ x ∈ cs, Sl w (fun b => Y b ∨ (N ≤ b ∧ some b ≠ v.ownBlock)) x.2.1 x.1.t.args
theorem BRow.start (w : World) (N : Nat) (Y : Nat → Prop) : BRow w N Y (.slice none 0 0) [] := ⟨World.ownsRow_nil w N _ 3, by simp⟩
theorem BRow.below {w w' : World} {N : Nat} {Y : Nat → Prop} {v : Value} {cs : List Bc} (h : BRow w N Y v cs) (hb : Below w.heap.size w w') : BRow w' N Y v cs :=
 ⟨h.own.kept (w' := w') (row := none) ⟨hb.os, hb.tape, hb.output, hb.size, fun j hj _ => hb.block j hj⟩ (by rcases Option.eq_none_or_eq_some (Value.ownBlock v) with h | ⟨x, h⟩; exact Or.inl h; exact Or.inr (by rw [h]; simp)),
  fun x hx => (h.row x hx).later hb⟩
theorem BRow.ne {w : World} {N : Nat} {Y : Nat → Prop} {v : Value} {cs : List Bc} (h : BRow w N Y v cs) {b : Nat} (hb : b < N) : some b ≠ v.ownBlock := fun e => by
 have := (h.own.lt b e.symm).1; omega
theorem BRow.kept {w w' : World} {N : Nat} {Y : Nat → Prop} {v : Value} {cs : List Bc} {r : Nat} (h : BRow w N Y v cs) (hr : r < N) (hY : ¬ Y r) (ho : w'.os = w.os) (ht : w'.tape = w.tape) (hu : w'.output = w.output) (hz : w.heap.size ≤ w'.heap.size) (hk : ∀ j, j ≠ r → j < w.heap.size → w'.heap[j]? = w.heap[j]?) : BRow w' N Y v cs :=
 ⟨h.own.kept (w' := w') (row := some r) ⟨ho, ht, hu, hz, fun j hj hne => hk j (fun e => hne (by rw [e])) hj⟩ (Or.inr (fun e => h.ne hr e.symm)),
  fun x hx => by
  have h1 := (h.row x hx).mono (Y := fun b => (Y b ∨ (N ≤ b ∧ some b ≠ v.ownBlock)) ∧ b < w.heap.size) fun b h1 h2 => ⟨h1, h2⟩
  refine (h1.kept fun b hb => hk b (fun e => ?_) hb.2).mono fun b hb _ => hb.1
  rcases hb.1 with h2 | h2
  ·exact hY (e ▸ h2)
  ·omega⟩
theorem BRow.push {w w1 w2 w3 : World} {N : Nat} {Y : Nat → Prop} {v : Value} {cs : List Bc} (h : BRow w N Y v cs) (hN : N ≤ w.heap.size) (hY : ∀ b, Y b → b < N) (hb : Below w.heap.size w w1) {x : Bc}
  (ht : Sl w1 (fun b => Y b ∨ w.heap.size ≤ b) x.2.1 x.1.t.args) (o : Obj) (hw2 : w2 = w1.alloc o) {g cap : Nat}
  (hown : w3.ownsRow N 82 3 (.slice (some ⟨g, 0, none⟩) (cs.length + 1) cap) (cs.length + 1) (flat3 cs ++ enc3 x)) (hg : w2.grownBy w3 v.ownBlock) (hg1 : v.ownBlock = some g ∨ g = w2.heap.size) :
  BRow w3 N Y (.slice (some ⟨g, 0, none⟩) (cs.length + 1) cap) (cs ++ [x]) := by
 subst hw2
 have hlt := h.own.lt
 refine ⟨by rw [flat3_append]; simpa [flat3] using hown, fun y hy => ?_⟩
 have hsz : w1.heap.size ≤ (w1.alloc o).heap.size := by simp
 have hbs := hb.size
 have hgN : N ≤ g := by
  rcases hg1 with e | e
  ·exact (hlt g e).1
  ·simp at e; omega
 rcases List.mem_append.1 hy with hy | hy
 ·have h1 : Sl w (fun b => (Y b ∨ (N ≤ b ∧ some b ≠ v.ownBlock)) ∧ b < w.heap.size) y.2.1 y.1.t.args := (h.row y hy).mono fun b h1 h2 => ⟨h1, h2⟩
  have h2 : Sl w3 (fun b => (Y b ∨ (N ≤ b ∧ some b ≠ v.ownBlock)) ∧ b < w.heap.size) y.2.1 y.1.t.args := h1.kept fun b hx => by
   have hne : some b ≠ v.ownBlock := by
    rcases hx.1 with hy | hy
    ·exact h.ne (hY b hy)
    ·exact hy.2
   rw [hg.block b (by simp; omega) hne, Below.heap_alloc _ _ _ (by omega), hb.block b hx.2]
  refine h2.mono fun b hx _ => ?_
  rcases hx.1 with hy | hy
  ·exact Or.inl hy
  ·refine Or.inr ⟨hy.1, fun e => ?_⟩
   simp [Value.ownBlock] at e
   rcases hg1 with e' | e'
   ·exact hy.2 (by rw [e', e])
   ·simp at e'; omega
 ·have e : y = x := by simpa using hy
  subst e
  have h1 : Sl w1 (fun b => (Y b ∨ w.heap.size ≤ b) ∧ b < w1.heap.size) y.2.1 y.1.t.args := ht.mono fun b h1 h2 => ⟨h1, h2⟩
  have h2 : Sl w3 (fun b => (Y b ∨ w.heap.size ≤ b) ∧ b < w1.heap.size) y.2.1 y.1.t.args := h1.kept fun b hx => by
   have hne : some b ≠ v.ownBlock := by
    rcases hx.1 with hy | hy
    ·exact h.ne (hY b hy)
    ·intro e; have := (hlt b e.symm).2; omega
   rw [hg.block b (by simp; omega) hne, Below.heap_alloc _ _ _ hx.2]
  refine h2.mono fun b hx _ => ?_
  rcases hx.1 with hy | hy
  ·exact Or.inl hy
  ·refine Or.inr ⟨by omega, fun e => ?_⟩
   simp [Value.ownBlock] at e
   rcases hg1 with e' | e'
   ·have := (hlt g e').2; omega
   ·simp at e'; omega
theorem BRow.bv {w : World} {N : Nat} {Y : Nat → Prop} {v : Value} {cs : List Bc} (h : BRow w N Y v cs) : BV w (fun b => Y b ∨ N ≤ b) v (cs.map (·.1)) := by
 have hml : cs.length ≤ 9223372036854775807 := by
  rcases h.own.2 with ⟨_, h0⟩ | ⟨g, cap, cur, _, _, _, h1, h2, _⟩
  ·omega
  ·unfold maxLen at h2; omega
 by_cases h0 : 0 < cs.length
 ·obtain ⟨g, cap, rfl, hg, hlt, hc⟩ := owned_val h.own h0
  have hcap : cs.length ≤ cap := by
   rcases h.own.2 with ⟨e, _⟩ | ⟨g', cap', cur, e, _, _, h1, _⟩
   ·cases e
   ·simp at e; omega
  refine ⟨_, cap, by simp, ⟨by simpa using hml, by simpa using hcap⟩, Or.inr ⟨g, 0, rfl, Or.inr hg, fun i hi => ?_⟩⟩
  have hi' : i < cs.length := by simpa using hi
  have g0 := hc (i * 3 + 0) (.string cs[i].1.nm) (by rw [flat3_get cs i hi' 0 (by decide)]; rfl)
  have g1 := hc (i * 3 + 1) (.string cs[i].1.t.name) (by rw [flat3_get cs i hi' 1 (by decide)]; rfl)
  have g2 := hc (i * 3 + 2) (.slice cs[i].2.1 cs[i].1.t.args.length cs[i].2.2) (by rw [flat3_get cs i hi' 2 (by decide)]; rfl)
  simp only [List.getElem_map, Nat.zero_add]
  exact ⟨g0, g1, _, _, g2, (h.row cs[i] (List.getElem_mem hi')).mono fun b hb _ => hb.imp id (fun h => h.1)⟩
 ·have e : cs = [] := List.length_eq_zero_iff.1 (by omega)
  subst e
  rcases h.own.2 with ⟨hv, _⟩ | ⟨g, cap, cur, hv, _⟩
  ·exact ⟨none, 0, hv, by simp, Or.inl rfl⟩
  ·exact ⟨_, _, hv, by simp, Or.inl rfl⟩
def ltB (a b : ByteArray) : Bool := Op.bytesLess a.toList b.toList
theorem bl_irrefl : ∀ a : List UInt8, Op.bytesLess a a = false
 | [] => rfl
 | x :: r => by simp [Op.bytesLess, bl_irrefl r]
theorem bl_trans : ∀ a b c : List UInt8, Op.bytesLess a b = true → Op.bytesLess b c = true → Op.bytesLess a c = true
 | _, [], _, h, _ => by simp [Op.bytesLess] at h
 | _, _ :: _, [], _, h => by simp [Op.bytesLess] at h
 | [], _ :: _, _ :: _, _, _ => by simp [Op.bytesLess]
 | x :: a, y :: b, z :: c, h1, h2 => by
  simp only [Op.bytesLess, Bool.or_eq_true, Bool.and_eq_true, decide_eq_true_eq, beq_iff_eq] at h1 h2 ⊢
  rw [UInt8.lt_iff_toNat_lt] at h1 h2 ⊢
  rcases h1 with h1 | ⟨rfl, h1⟩ <;> rcases h2 with h2 | ⟨rfl, h2⟩
  ·left; omega
  ·left; exact h1
  ·left; exact h2
  ·right; exact ⟨rfl, bl_trans a b c h1 h2⟩
theorem bl_conn : ∀ a b : List UInt8, Op.bytesLess a b = false → Op.bytesLess b a = false → a = b
 | [], [], _, _ => rfl
 | [], _ :: _, h, _ => by simp [Op.bytesLess] at h
 | _ :: _, [], _, h => by simp [Op.bytesLess] at h
 | x :: a, y :: b, h1, h2 => by
  simp only [Op.bytesLess, Bool.or_eq_false_iff, decide_eq_false_iff_not] at h1 h2
  obtain ⟨h1, h3⟩ := h1
  obtain ⟨h2, h4⟩ := h2
  rw [UInt8.lt_iff_toNat_lt] at h1 h2
  have e : x = y := UInt8.toNat_inj.mp (by omega)
  subst e
  simp only [BEq.rfl, Bool.true_and] at h3 h4
  rw [bl_conn a b h3 h4]
theorem ltB_irrefl (a : ByteArray) : ltB a a = false := bl_irrefl _
theorem ltB_trans {a b c : ByteArray} (h1 : ltB a b = true) (h2 : ltB b c = true) : ltB a c = true := bl_trans _ _ _ h1 h2
theorem ltB_conn {a b : ByteArray} (h1 : ltB a b = false) (h2 : ltB b a = false) : a = b := bytes_inj (bl_conn _ _ h1 h2)
theorem ltB_asymm {a b : ByteArray} (h : ltB a b = true) : ltB b a = false := by
 cases hb : ltB b a with
 | false => rfl
 | true => have := ltB_trans h hb; rw [ltB_irrefl] at this; cases this
theorem ltB_ntrans {a b c : ByteArray} (h1 : ltB a b = false) (h2 : ltB b c = false) : ltB a c = false := by
 cases h : ltB a c with
 | false => rfl
 | true =>
  cases h3 : ltB b a with
  | true => rw [ltB_trans h3 h] at h2; cases h2
  | false =>
   have e := ltB_conn h1 h3
   subst e
   rw [h] at h2; cases h2
def SortedB (l : List Bd) : Prop := l.Pairwise fun a b => ltB a.nm b.nm = true
def ApartB (l : List Bd) : Prop := l.Pairwise fun a b => a.nm ≠ b.nm
theorem SortedB.apart {l : List Bd} (h : SortedB l) : ApartB l := h.imp fun {a b} h e => by rw [e, ltB_irrefl] at h; cases h
theorem ApartB.perm {l k : List Bd} (h : ApartB l) (hp : k.Perm l) : ApartB k := (hp.pairwise_iff (fun {_ _} hne => Ne.symm hne)).2 h
theorem sortedB_unique {l k : List Bd} (hp : l.Perm k) (h1 : SortedB l) (h2 : SortedB k) : l = k :=
 List.Perm.eq_of_pairwise (le := fun a b : Bd => ltB a.nm b.nm = true) (fun a b _ _ h3 h4 => by rw [ltB_asymm h3] at h4; cases h4) h1 h2 hp
theorem sortedB_of {l : List Bd} (ha : ApartB l) (h : l.Pairwise fun a b => ltB b.nm a.nm = false) : SortedB l := by
 unfold SortedB ApartB at *
 refine (List.pairwise_and_iff.2 ⟨ha, h⟩).imp fun {a b} ⟨h1, h2⟩ => ?_
 cases h3 : ltB a.nm b.nm with
 | true => rfl
 | false => exact absurd (ltB_conn h3 h2) h1
def toP (x : Bc) : ByteArray × Value := (x.1.nm, .agg #[.string x.1.t.name, .slice x.2.1 x.1.t.args.length x.2.2])
theorem perm_lift {α β : Type} (f : α → β) {l m : List β} (h : l.Perm m) : ∀ zs : List α, zs.map f = m → ∃ zs' : List α, zs'.Perm zs ∧ zs'.map f = l := by
 induction h with
 | nil => intro zs h; exact ⟨zs, List.Perm.refl _, h⟩
 | cons x h ih =>
  intro zs hz
  match zs, hz with
  | z :: zs, hz =>
   simp only [List.map_cons, List.cons.injEq] at hz
   obtain ⟨zs', h1, h2⟩ := ih zs hz.2
   exact ⟨z :: zs', h1.cons z, by simp [h2, hz.1]⟩
 | swap x y l =>
  intro zs hz
  match zs, hz with
  | a :: b :: zs, hz =>
   simp only [List.map_cons, List.cons.injEq] at hz
   exact ⟨b :: a :: zs, List.Perm.swap a b zs, by simp [hz.1, hz.2.1, hz.2.2]⟩
 | trans h1 h2 ih1 ih2 =>
  intro zs hz
  obtain ⟨zs', h3, h4⟩ := ih2 zs hz
  obtain ⟨zs'', h5, h6⟩ := ih1 zs' h4
  exact ⟨zs'', h5.trans h3, h6⟩
theorem next_lift {Zr : List Bc} {p : ByteArray × Value} {rem : List (ByteArray × Value)} (h : (Zr.map toP).Perm (p :: rem)) : ∃ x Z', Zr.Perm (x :: Z') ∧ p = toP x ∧ rem = Z'.map toP := by
 obtain ⟨zs, h1, h2⟩ := perm_lift toP h.symm Zr rfl
 match zs, h2 with
 | x :: Z', h2 =>
  simp only [List.map_cons, List.cons.injEq] at h2
  exact ⟨x, Z', h1.symm, h2.1.symm, h2.2.symm⟩
def mtL : List Tm → List Tm → List Bd → Option (List Bd)
 | [], _, h => some h
 | ⟨s, a⟩ :: r, ts, h => match ts with
  | [] => none
  | t :: ts' =>
   match (if varB s = true then (match forT h s with
     | some x => if sameB x t = true then some h else none
     | none => some (h ++ [⟨s, t⟩]))
    else if ((s.toList == t.name.toList) && (a.length == t.args.length)) = true then mtL a t.args h else none) with
   | some h' => mtL r ts' h'
   | none => none
def mtT (p t : Tm) (h : List Bd) : Option (List Bd) :=
 if varB p.name = true then (match forT h p.name with
   | some x => if sameB x t = true then some h else none
   | none => some (h ++ [⟨p.name, t⟩]))
  else if ((p.name.toList == t.name.toList) && (p.args.length == t.args.length)) = true then mtL p.args t.args h else none
theorem mtL_cons (p t : Tm) (r ts : List Tm) (h : List Bd) : mtL (p :: r) (t :: ts) h = (match mtT p t h with
   | some h' => mtL r ts h'
   | none => none) := by obtain ⟨s, a⟩ := p; simp only [mtL, mtT]
theorem mtL_append : ∀ (a b c d : List Tm) (h : List Bd), a.length = b.length → mtL (a ++ c) (b ++ d) h = (match mtL a b h with
   | some h' => mtL c d h'
   | none => none)
 | [], [], c, d, h, _ => by simp [mtL]
 | [], _ :: _, _, _, _, e => by simp at e
 | _ :: _, [], _, _, _, e => by simp at e
 | x :: r, t :: ts, c, d, h, e => by
  rw [List.cons_append, List.cons_append, mtL_cons, mtL_cons]
  cases mtT x t h with
  | none => rfl
  | some h' => exact mtL_append r ts c d h' (by simpa using e)
theorem mtL_take {l m : List Tm} {k : Nat} (h : k < l.length) (h2 : k < m.length) (hv : List Bd) : mtL (l.take (k + 1)) (m.take (k + 1)) hv = (match mtL (l.take k) (m.take k) hv with
   | some h' => mtT l[k] m[k] h'
   | none => none) := by
 rw [List.take_succ_eq_append_getElem h, List.take_succ_eq_append_getElem h2, mtL_append _ _ _ _ _ (by simp; omega)]
 cases mtL (l.take k) (m.take k) hv with
 | none => rfl
 | some h' =>
  show mtL [l[k]] [m[k]] h' = mtT l[k] m[k] h'
  rw [mtL_cons]
  cases mtT l[k] m[k] h' with
  | none => rfl
  | some h'' => simp [mtL]
theorem mtL_no {l m : List Tm} {k : Nat} {hv h' : List Bd} (h : k < l.length) (hlm : l.length = m.length) (h1 : mtL (l.take k) (m.take k) hv = some h') (h0 : mtT l[k] (m[k]'(by omega)) h' = none) : mtL l m hv = none := by
 have e1 : l = l.take (k + 1) ++ l.drop (k + 1) := (List.take_append_drop _ _).symm
 have e2 : m = m.take (k + 1) ++ m.drop (k + 1) := (List.take_append_drop _ _).symm
 rw [e1, e2, mtL_append _ _ _ _ _ (by simp; omega), mtL_take h (by omega), h1]
 simp only [h0]
theorem mtL_next {l m : List Tm} {k : Nat} {hv h' h'' : List Bd} (h : k < l.length) (h2 : k < m.length) (h1 : mtL (l.take k) (m.take k) hv = some h') (h0 : mtT l[k] m[k] h' = some h'') : mtL (l.take (k + 1)) (m.take (k + 1)) hv = some h'' := by
 rw [mtL_take h h2, h1]
 exact h0
theorem mtT_deep {s s2 : ByteArray} {l m : List Tm} {h : List Bd} (hv : varB s = false) (hn : (s.toList == s2.toList) = true) (hl : l.length = m.length) : mtT ⟨s, l⟩ ⟨s2, m⟩ h = mtL l m h := by
 simp [mtT, hv, hn, hl]
theorem mtT_off {s s2 : ByteArray} {l m : List Tm} {h : List Bd} (hv : varB s = false) (hn : ((s.toList == s2.toList) && (l.length == m.length)) = false) : mtT ⟨s, l⟩ ⟨s2, m⟩ h = none := by
 unfold mtT
 rw [if_neg (by rw [hv]; simp), if_neg (by simp only [hn]; simp)]
theorem mtT_new {s : ByteArray} {l : List Tm} {t : Tm} {h : List Bd} (hv : varB s = true) (hf : forT h s = none) : mtT ⟨s, l⟩ t h = some (h ++ [⟨s, t⟩]) := by simp [mtT, hv, hf]
theorem mtT_old {s : ByteArray} {l : List Tm} {t x : Tm} {h : List Bd} (hv : varB s = true) (hf : forT h s = some x) : mtT ⟨s, l⟩ t h = if sameB x t = true then some h else none := by simp [mtT, hv, hf]
theorem forT_none {h : List Bd} {s : ByteArray} (hf : forT h s = none) : ∀ d ∈ h, d.nm ≠ s := by
 induction h with
 | nil => intro d hd; cases hd
 | cons a r ih =>
  intro d hd
  rw [forT] at hf
  split at hf
  ·cases hf
  ·rename_i hne
   rcases List.mem_cons.1 hd with rfl | hd
   ·exact hne
   ·exact ih hf d hd
theorem mtT_apart_one {p t : Tm} {h h' : List Bd} (ih : ∀ ts g g', mtL p.args ts g = some g' → ApartB g → ApartB g' ∧ g'.length ≤ g.length + sizeL p.args) (he : mtT p t h = some h') (ha : ApartB h) : ApartB h' ∧ h'.length ≤ h.length + (1 + sizeL p.args) := by
 unfold mtT at he
 split at he
 ·split at he
  ·split at he
   ·cases he; exact ⟨ha, by omega⟩
   ·cases he
  ·rename_i hf
   cases he
   refine ⟨List.pairwise_append.2 ⟨ha, by simp, fun a h1 b h2 => ?_⟩, by simp⟩
   have e : b = ⟨p.name, t⟩ := by simpa using h2
   rw [e]
   exact forT_none hf a h1
 ·split at he
  ·obtain ⟨h1, h2⟩ := ih _ _ _ he ha
   exact ⟨h1, by omega⟩
  ·cases he
theorem mtL_apart : ∀ (l ts : List Tm) (h h' : List Bd), mtL l ts h = some h' → ApartB h → ApartB h' ∧ h'.length ≤ h.length + sizeL l := by
 intro l
 induction l using Tm.indL with
 | h0 => intro ts h h' he ha; simp [mtL] at he; subst he; exact ⟨ha, by simp⟩
 | h s l r ihl ihr =>
  intro ts h h' he ha
  cases ts with
  | nil => simp [mtL] at he
  | cons t ts =>
   rw [mtL_cons] at he
   cases hm : mtT ⟨s, l⟩ t h with
   | none => rw [hm] at he; cases he
   | some g =>
    rw [hm] at he
    obtain ⟨h1, h2⟩ := mtT_apart_one (p := ⟨s, l⟩) (fun ts g g' h3 h4 => ihl ts g g' h3 h4) hm ha
    obtain ⟨h3, h4⟩ := ihr ts g h' he h1
    refine ⟨h3, ?_⟩
    simp only [sizeL]
    simp only at h2
    omega
theorem mtT_apart {p t : Tm} {h h' : List Bd} (he : mtT p t h = some h') (ha : ApartB h) : ApartB h' ∧ h'.length ≤ h.length + sizeL [p] := by
 obtain ⟨h1, h2⟩ := mtT_apart_one (fun ts g g' h3 h4 => mtL_apart p.args ts g g' h3 h4) he ha
 refine ⟨h1, ?_⟩
 obtain ⟨s, a⟩ := p
 simp [sizeL] at h2 ⊢
 omega
structure Pr where
 l : Tm
 r : Tm
def QV (w : World) (X : Nat → Prop) (v : Value) (l : List Pr) : Prop :=
 ∃ a c, v = .slice a l.length c ∧ (l.length ≤ 9223372036854775807 ∧ l.length ≤ c) ∧ (l = [] ∨ ∃ b o, a = some ⟨b, o, none⟩ ∧ X b ∧ ∀ i (h : i < l.length), ∃ a1 c1 a2 c2, w.cell? ⟨b, o + i * 4, none⟩ = some (.string l[i].l.name) ∧ w.cell? ⟨b, o + i * 4 + 1, none⟩ = some (.slice a1 l[i].l.args.length c1) ∧ w.cell? ⟨b, o + i * 4 + 2, none⟩ = some (.string l[i].r.name) ∧ w.cell? ⟨b, o + i * 4 + 3, none⟩ = some (.slice a2 l[i].r.args.length c2) ∧ Sl w X a1 l[i].l.args ∧ Sl w X a2 l[i].r.args)
theorem QV.kept {w w' : World} {X : Nat → Prop} {v : Value} {l : List Pr} (h : QV w X v l) (hk : ∀ b, X b → w'.heap[b]? = w.heap[b]?) : QV w' X v l := by
 obtain ⟨a, c, e, hl, h⟩ := h
 refine ⟨a, c, e, hl, ?_⟩
 rcases h with h | ⟨b, o, ea, hX, h⟩
 ·exact Or.inl h
 ·refine Or.inr ⟨b, o, ea, hX, fun i hi => ?_⟩
  obtain ⟨a1, c1, a2, c2, h1, h2, h3, h4, h5, h6⟩ := h i hi
  have hb := hk b hX
  exact ⟨a1, c1, a2, c2, by simpa [World.cell?, hb] using h1, by simpa [World.cell?, hb] using h2, by simpa [World.cell?, hb] using h3, by simpa [World.cell?, hb] using h4, h5.kept hk, h6.kept hk⟩
theorem QV.mono {w : World} {X Y : Nat → Prop} {v : Value} {l : List Pr} (h : QV w X v l) (hk : ∀ b, X b → b < w.heap.size → Y b) : QV w Y v l := by
 obtain ⟨a, c, e, hl, h⟩ := h
 refine ⟨a, c, e, hl, ?_⟩
 rcases h with h | ⟨b, o, ea, hX, h⟩
 ·exact Or.inl h
 ·by_cases h0 : l = []
  ·exact Or.inl h0
  ·have hp : 0 < l.length := List.length_pos_iff.2 h0
   obtain ⟨_, _, _, _, g, _⟩ := h 0 hp
   refine Or.inr ⟨b, o, ea, hk b hX (cell_lt g), fun i hi => ?_⟩
   obtain ⟨a1, c1, a2, c2, h1, h2, h3, h4, h5, h6⟩ := h i hi
   exact ⟨a1, c1, a2, c2, h1, h2, h3, h4, h5.mono hk, h6.mono hk⟩
theorem QV.later {w w' : World} {X : Nat → Prop} {v : Value} {l : List Pr} (h : QV w X v l) (hb : Below w.heap.size w w') : QV w' X v l :=
 ((h.mono (Y := fun b => X b ∧ b < w.heap.size) fun b h1 h2 => ⟨h1, h2⟩).kept fun b hx => hb.block b hx.2).mono fun b hx _ => hx.1
theorem QV.alloc {w : World} {X : Nat → Prop} {v : Value} {l : List Pr} (h : QV w X v l) (o : Obj) : QV (w.alloc o) X v l := h.later ((Below.refl _ _).alloc (Nat.le_refl _) o)
theorem QV.get {w : World} {X : Nat → Prop} {a : Option Addr} {n c : Nat} {l : List Pr} (h : QV w X (.slice a n c) l) (i : Nat) (hi : i < l.length) :
  ∃ b o a1 c1 a2 c2, a = some ⟨b, o, none⟩ ∧ w.cell? ⟨b, o + i * 4, none⟩ = some (.string l[i].l.name) ∧ w.cell? ⟨b, o + i * 4 + 1, none⟩ = some (.slice a1 l[i].l.args.length c1) ∧ w.cell? ⟨b, o + i * 4 + 2, none⟩ = some (.string l[i].r.name) ∧ w.cell? ⟨b, o + i * 4 + 3, none⟩ = some (.slice a2 l[i].r.args.length c2) ∧ Sl w X a1 l[i].l.args ∧ Sl w X a2 l[i].r.args := by
 obtain ⟨a2, c2, e, hl, h⟩ := h
 simp at e
 obtain ⟨rfl, rfl, rfl⟩ := e
 rcases h with h | ⟨b, o, ea, hX, h⟩
 ·subst h; simp at hi
 ·obtain ⟨a1, c1, a2, c2, h1, h2, h3, h4, h5, h6⟩ := h i hi
  exact ⟨b, o, a1, c1, a2, c2, ea, h1, h2, h3, h4, h5, h6⟩
def pmT (ls : List Pr) : Nat → Int
 | 0 => 0
 | k + 1 => if pmT ls k = 0 then (match ls[k]? with | some p => twoE p.l p.r | none => 0) else pmT ls k
def pairsE (ls : List Pr) : Int := if 40 < ls.length then 3 else pmT ls ls.length
theorem pmT_stays {ls : List Pr} {k : Nat} (h : pmT ls k ≠ 0) : ∀ n, k ≤ n → pmT ls n = pmT ls k
 | 0, hn => by
  have : k = 0 := by omega
  subst this; rfl
 | n + 1, hn => by
  by_cases e : k = n + 1
  ·subst e; rfl
  ·have ih := pmT_stays h n (by omega)
   rw [pmT, if_neg (by rw [ih]; exact h)]
   exact ih
theorem pmT_next {ls : List Pr} {k : Nat} (hk : k < ls.length) (h0 : pmT ls k = 0) : pmT ls (k + 1) = twoE ls[k].l ls[k].r := by rw [pmT, if_pos h0, List.getElem?_eq_getElem hk]
theorem pmT_err {ls : List Pr} {k : Nat} (hk : k < ls.length) (h40 : ¬ 40 < ls.length) (h0 : pmT ls k = 0) (hne : twoE ls[k].l ls[k].r ≠ 0) : pairsE ls = twoE ls[k].l ls[k].r := by
 unfold pairsE
 rw [if_neg h40]
 have h1 := pmT_next hk h0
 rw [← h1]
 exact pmT_stays (by rw [h1]; exact hne) _ (by omega)
theorem pairsE_len {ls : List Pr} (h : pairsE ls = 0) : ls.length ≤ 40 := by
 unfold pairsE at h
 split at h
 ·cases h
 ·omega
theorem pairsE_all {ls : List Pr} (h : pairsE ls = 0) : ∀ p ∈ ls, mayE p.l = 0 ∧ mayE p.r = 0 := by
 intro p hp
 obtain ⟨k, hk, rfl⟩ := List.getElem_of_mem hp
 have h40 := pairsE_len h
 unfold pairsE at h
 rw [if_neg (by omega)] at h
 have h0 : ∀ n, n ≤ ls.length → pmT ls n = 0 := fun n hn => by
  by_cases e : pmT ls n = 0
  ·exact e
  ·have := pmT_stays e _ hn
   rw [this] at h
   exact absurd h e
 have h1 := pmT_next hk (h0 k (by omega))
 rw [h0 (k + 1) (by omega)] at h1
 have h2 := h1.symm
 unfold twoE at h2
 by_cases e : mayE ls[k].l = 0
 ·rw [if_pos e] at h2; exact ⟨e, h2⟩
 ·rw [if_neg e] at h2; exact absurd h2 e
def onN (l : List Bd) (s : ByteArray) (es0 bs : List Tm) : Tm :=
 match forT l s with
 | some x => if es0.isEmpty = true then x else ⟨s, bs⟩
 | none => ⟨s, bs⟩
def onL (l : List Bd) : List Tm → List Tm
 | [] => []
 | ⟨s, es0⟩ :: r => onN l s es0 (onL l es0) :: onL l r
def onT (l : List Bd) (t : Tm) : Tm := onN l t.name t.args (onL l t.args)
theorem onL_cons (l : List Bd) (t : Tm) (r : List Tm) : onL l (t :: r) = onT l t :: onL l r := by
 obtain ⟨s, es0⟩ := t
 simp only [onL, onT]
theorem onL_length (l : List Bd) : ∀ es0, (onL l es0).length = es0.length
 | [] => by simp [onL]
 | t :: r => by rw [onL_cons]; simp [onL_length l r]
theorem onL_append (l : List Bd) (b : List Tm) : ∀ a, onL l (a ++ b) = onL l a ++ onL l b
 | [] => by simp [onL]
 | t :: r => by rw [List.cons_append, onL_cons, onL_cons, onL_append l b r]; rfl
theorem onT_some {l : List Bd} {s : ByteArray} {x : Tm} (h : forT l s = some x) : onT l ⟨s, []⟩ = x := by simp [onT, onN, h]
theorem onT_deep {l : List Bd} {s : ByteArray} {es0 : List Tm} (h : es0 ≠ [] ∨ forT l s = none) : onT l ⟨s, es0⟩ = ⟨s, onL l es0⟩ := by
 unfold onT onN
 rcases h with h | h
 ·cases forT l s with
  | none => rfl
  | some x => simp [h]
 ·rw [h]
def LV {α : Type} (f : α → Value) (w : World) (X : Nat → Prop) (v : Value) (l : List α) : Prop :=
 ∃ a c, v = .slice a l.length c ∧ (l.length ≤ 9223372036854775807 ∧ l.length ≤ c) ∧ (l = [] ∨ ∃ b o, a = some ⟨b, o, none⟩ ∧ X b ∧ ∀ i (h : i < l.length), w.cell? ⟨b, o + i, none⟩ = some (f l[i]))
theorem LV.kept {α : Type} {f : α → Value} {w w' : World} {X : Nat → Prop} {v : Value} {l : List α} (h : LV f w X v l) (hk : ∀ b, X b → w'.heap[b]? = w.heap[b]?) : LV f w' X v l := by
 obtain ⟨a, c, e, hl, h⟩ := h
 refine ⟨a, c, e, hl, ?_⟩
 rcases h with h | ⟨b, o, e, hx, h⟩
 ·exact Or.inl h
 ·exact Or.inr ⟨b, o, e, hx, fun i hi => by rw [World.cell?_of_block (hk b hx)]; exact h i hi⟩
theorem LV.mono {α : Type} {f : α → Value} {w : World} {X Y : Nat → Prop} {v : Value} {l : List α} (h : LV f w X v l) (hk : ∀ b, X b → b < w.heap.size → Y b) : LV f w Y v l := by
 obtain ⟨a, c, e, hl, h⟩ := h
 refine ⟨a, c, e, hl, ?_⟩
 rcases h with h | ⟨b, o, e, hx, h⟩
 ·exact Or.inl h
 ·by_cases h0 : l = []
  ·exact Or.inl h0
  ·have hp : 0 < l.length := List.length_pos_iff.2 h0
   exact Or.inr ⟨b, o, e, hk b hx (World.block_lt_of_cell? w _ (h 0 hp)), h⟩
theorem LV.below {α : Type} {f : α → Value} {w w' : World} {X : Nat → Prop} {v : Value} {l : List α} {B : Nat} (h : LV f w X v l) (hb : Below B w w') (hX : ∀ b, X b → b < w.heap.size → b < B) : LV f w' X v l := by
 have h1 : LV f w (fun b => X b ∧ b < B) v l := h.mono fun b hx hs => ⟨hx, hX b hx hs⟩
 have h2 : LV f w' (fun b => X b ∧ b < B) v l := h1.kept fun b hx => hb.block b hx.2
 exact h2.mono fun b hx _ => hx.1
theorem LV.later {α : Type} {f : α → Value} {w w' : World} {X : Nat → Prop} {v : Value} {l : List α} (h : LV f w X v l) (hb : Below w.heap.size w w') : LV f w' X v l := h.below hb (fun _ _ h => h)
theorem LV.alloc {α : Type} {f : α → Value} {w : World} {X : Nat → Prop} {v : Value} {l : List α} (h : LV f w X v l) (o : Obj) : LV f (w.alloc o) X v l := h.later ((Below.refl _ _).alloc (Nat.le_refl _) o)
theorem LV.of_own {α : Type} {f : α → Value} {w : World} {N T : Nat} {v : Value} {l : List α} (h : w.ownsRow N T 1 v l.length (l.map f)) : LV f w (fun b => N ≤ b) v l := by
 have h' := h
 obtain ⟨_, h1⟩ := h
 rcases h1 with ⟨rfl, h0⟩ | ⟨g, cap, cur, hv, hg, hh, hnc, hcm, _⟩
 ·have e : l = [] := List.length_eq_zero_iff.1 h0
  subst e
  exact ⟨none, 0, rfl, by simp, Or.inl rfl⟩
 ·unfold maxLen at hcm
  refine ⟨some ⟨g, 0, none⟩, cap, hv, ⟨by omega, hnc⟩, ?_⟩
  by_cases h0 : l = []
  ·exact Or.inl h0
  ·have hp : 0 < l.length := List.length_pos_iff.2 h0
   obtain ⟨g2, cap2, hv2, _, _, hc⟩ := owned_val h' hp
   rw [hv] at hv2
   simp at hv2
   obtain ⟨rfl, rfl⟩ := hv2
   exact Or.inr ⟨g, 0, rfl, hg, fun i hi => by rw [Nat.zero_add]; exact hc i _ (by simp [hi])⟩
def inB (x : ByteArray) (l : List ByteArray) : Bool := l.any fun y => y.toList == x.toList
def addV (acc : List ByteArray) (s : ByteArray) : List ByteArray := if (varB s && !inB s acc) = true then acc ++ [s] else acc
def varsP (acc : List ByteArray) (ks : List Tm) : List ByteArray := ks.foldl (fun acc k => addV acc k.name) acc
theorem addV_yes {acc : List ByteArray} {s : ByteArray} (h : varB s = true) (h2 : inB s acc = false) : addV acc s = acc ++ [s] := by simp [addV, h, h2]
theorem addV_in {acc : List ByteArray} {s : ByteArray} (h : varB s = true) (h2 : inB s acc = true) : addV acc s = acc := by simp [addV, h, h2]
theorem addV_no {acc : List ByteArray} {s : ByteArray} (h : varB s = false) : addV acc s = acc := by simp [addV, h]
theorem grown_trans {w w1 w2 : World} {r r1 : Option Nat} (h : w.grownBy w1 r) (h1 : w1.grownBy w2 r1) (hr : ∀ k, r1 = some k → r = some k ∨ w.heap.size ≤ k) : w.grownBy w2 r :=
 ⟨h1.os.trans h.os, h1.tape.trans h.tape, h1.output.trans h.output, Nat.le_trans h.size h1.size, fun k hk hne => (h1.block k (Nat.lt_of_lt_of_le hk h.size) (fun e => by
  rcases hr k e.symm with h2 | h2
  ·exact hne h2.symm
  ·omega)).trans (h.block k hk hne)⟩
theorem grown_of_below {w w' : World} (hb : Below w.heap.size w w') (r : Option Nat) : w.grownBy w' r := ⟨hb.os, hb.tape, hb.output, hb.size, fun k hk _ => hb.block k hk⟩
theorem TV.grown {w w' : World} {X : Nat → Prop} {v : Value} {t : Tm} {r : Option Nat} (h : TV w X v t) (hg : w.grownBy w' r) (hX : ∀ b, X b → some b ≠ r) : TV w' X v t := by
 have h1 : TV w (fun b => X b ∧ b < w.heap.size) v t := h.mono fun b h1 h2 => ⟨h1, h2⟩
 have h2 : TV w' (fun b => X b ∧ b < w.heap.size) v t := h1.kept fun b hx => hg.block b hx.2 (hX b hx.1)
 exact h2.mono fun b hx _ => hx.1
def NamesAt (w0 : World) (B : Nat) (q0 : Value) (acc : List ByteArray) (q : Value) (wr : World) : Prop :=
 wr.ownsRow B 9 1 q acc.length (acc.map Value.string) ∧ w0.grownBy wr q0.ownBlock ∧ (∀ k, q.ownBlock = some k → q0.ownBlock = some k ∨ w0.heap.size ≤ k)
theorem NamesAt.step {w0 w1 w2 : World} {B : Nat} {q0 q1 q2 : Value} {acc1 acc2 : List ByteArray} (h1 : NamesAt w0 B q0 acc1 q1 w1) (h2 : NamesAt w1 B q1 acc2 q2 w2) : NamesAt w0 B q0 acc2 q2 w2 := by
 refine ⟨h2.1, grown_trans h1.2.1 h2.2.1 h1.2.2, fun k hk => ?_⟩
 rcases h2.2.2 k hk with h | h
 ·exact h1.2.2 k h
 ·exact Or.inr (Nat.le_trans h1.2.1.size h)
theorem NamesAt.below {w0 w1 w2 : World} {B : Nat} {q0 q1 : Value} {acc1 : List ByteArray} (h1 : NamesAt w0 B q0 acc1 q1 w1) (hb : Below w1.heap.size w1 w2) : NamesAt w0 B q0 acc1 q1 w2 :=
 ⟨h1.1.kept (w' := w2) (row := none) ⟨hb.os, hb.tape, hb.output, hb.size, fun j hj _ => hb.block j hj⟩ (by rcases Option.eq_none_or_eq_some (Value.ownBlock q1) with h | ⟨x, h⟩; exact Or.inl h; exact Or.inr (by rw [h]; simp)),
  grown_trans h1.2.1 (grown_of_below hb q1.ownBlock) h1.2.2, h1.2.2⟩
def insB (d : Bd) : List Bd → List Bd
 | [] => [d]
 | e :: r => if ltB d.nm e.nm = true then d :: e :: r else e :: insB d r
def srtB : List Bd → List Bd
 | [] => []
 | d :: r => insB d (srtB r)
theorem insB_perm (d : Bd) : ∀ l, (insB d l).Perm (d :: l)
 | [] => List.Perm.refl _
 | e :: r => by
  rw [insB]
  split
  ·exact List.Perm.refl _
  ·exact ((insB_perm d r).cons e).trans (List.Perm.swap d e r)
theorem srtB_perm : ∀ l, (srtB l).Perm l
 | [] => List.Perm.refl _
 | d :: r => (insB_perm d _).trans ((srtB_perm r).cons d)
theorem insB_sorted (d : Bd) : ∀ l, SortedB l → (∀ e ∈ l, d.nm ≠ e.nm) → SortedB (insB d l)
 | [], _, _ => by simp [insB, SortedB]
 | e :: r, h, hn => by
  obtain ⟨h1, h2⟩ := List.pairwise_cons.1 h
  rw [insB]
  split
  ·rename_i hlt
   refine List.pairwise_cons.2 ⟨fun x hx => ?_, h⟩
   rcases List.mem_cons.1 hx with rfl | hx
   ·exact hlt
   ·exact ltB_trans hlt (h1 x hx)
  ·rename_i hlt
   refine List.pairwise_cons.2 ⟨fun x hx => ?_, insB_sorted d r h2 fun e he => hn e (by simp [he])⟩
   rcases List.mem_cons.1 ((insB_perm d r).subset hx) with rfl | hx
   ·cases h3 : ltB e.nm x.nm with
    | true => rfl
    | false => exact absurd (ltB_conn (by simpa using hlt) h3) (hn e (by simp))
   ·exact h1 x hx
theorem srtB_sorted : ∀ l, ApartB l → SortedB (srtB l)
 | [], _ => by simp [srtB, SortedB]
 | d :: r, h => by
  obtain ⟨h1, h2⟩ := List.pairwise_cons.1 h
  exact insB_sorted d _ (srtB_sorted r h2) fun e he => h1 e ((srtB_perm r).subset he)
inductive UO where
 | go (s : List Bd) (l : List Pr)
 | stop (e : Int) (s : List Bd)
def zipP : List Tm → List Tm → List Pr
 | a :: r, b :: q => ⟨a, b⟩ :: zipP r q
 | _, _ => []
def putB (x : ByteArray) (t : Tm) (d : Bd) : Bd := ⟨d.nm, onT [⟨x, t⟩] d.t⟩
def grtB (s : List Bd) : Bool := s.any fun d => decide (2000 < sizeL [d.t])
def uBind (lim : Bool) (s : List Bd) (l : List Pr) (x : ByteArray) (t : Tm) : UO :=
 if inB x (varsP [] (preL [t])) = true then .stop 6 s
 else if (lim && grtB (s.map (putB x t))) = true then .stop 8 s
 else .go (srtB (s.map (putB x t) ++ [⟨x, t⟩])) l
def uPair (lim : Bool) (s : List Bd) (l : List Pr) (a b : Tm) : UO :=
 if 2000 < sizeL [a] ∨ 2000 < sizeL [b] then .stop 8 s
 else if varB a.name = true then (if a.name = b.name then .go s l else uBind lim s l a.name b)
 else if varB b.name = true then uBind lim s l b.name a
 else if a.name = b.name ∧ a.args.length = b.args.length then .go s (zipP a.args b.args ++ l)
 else .stop 5 s
def uNext (lim : Bool) (s : List Bd) : List Pr → UO
 | [] => .stop 0 s
 | p :: l => uPair lim s l (onT s p.l) (onT s p.r)
theorem uNext_cons (lim : Bool) (s : List Bd) (p : Pr) (l : List Pr) : uNext lim s (p :: l) = uPair lim s l (onT s p.l) (onT s p.r) := rfl
def uRun (lim : Bool) : Nat → List Bd → List Pr → Option (Int × List Bd)
 | 0, _, _ => none
 | n + 1, s, l => match uNext lim s l with
  | .stop e s' => some (e, s')
  | .go s' l' => uRun lim n s' l'
theorem sizeL_pos (t : Tm) : 1 ≤ sizeL [t] := by
 obtain ⟨s, l⟩ := t
 simp [sizeL]
theorem onL_grow (ls : List Bd) : ∀ l : List Tm, sizeL l ≤ sizeL (onL ls l) := by
 intro l
 induction l using Tm.indL with
 | h0 => simp [onL, sizeL]
 | h s l r ihl ihr =>
  have e1 : sizeL (onL ls (⟨s, l⟩ :: r)) = sizeL [onT ls ⟨s, l⟩] + sizeL (onL ls r) := by
   rw [onL_cons]
   generalize onT ls ⟨s, l⟩ = x
   obtain ⟨s2, m⟩ := x
   simp [sizeL]
  have e2 : sizeL (⟨s, l⟩ :: r) = (1 + sizeL l) + sizeL r := by simp [sizeL]
  have h1 : 1 + sizeL l ≤ sizeL [onT ls ⟨s, l⟩] := by
   by_cases hl : l = []
   ·subst hl
    have := sizeL_pos (onT ls ⟨s, []⟩)
    simpa [sizeL] using this
   ·rw [onT_deep (Or.inl hl)]
    simp only [sizeL]
    omega
  rw [e1, e2]
  omega
theorem onT_grow (ls : List Bd) (t : Tm) : sizeL [t] ≤ sizeL [onT ls t] := by
 have h := onL_grow ls [t]
 rw [onL_cons] at h
 simpa [onL] using h
theorem grtB_perm {l k : List Bd} (h : l.Perm k) : grtB l = grtB k := by
 unfold grtB
 rw [Bool.eq_iff_iff, List.any_eq_true, List.any_eq_true]
 exact ⟨fun ⟨d, hd, e⟩ => ⟨d, h.subset hd, e⟩, fun ⟨d, hd, e⟩ => ⟨d, h.symm.subset hd, e⟩⟩
theorem grtB_put {s : List Bd} (x : ByteArray) (t : Tm) (h : grtB s = true) : grtB (s.map (putB x t)) = true := by
 unfold grtB at *
 rw [List.any_eq_true] at *
 obtain ⟨d, hd, e⟩ := h
 refine ⟨putB x t d, List.mem_map.2 ⟨d, hd, rfl⟩, ?_⟩
 have h1 := onT_grow [⟨x, t⟩] d.t
 simp only [decide_eq_true_eq] at e ⊢
 exact Nat.lt_of_lt_of_le e h1
theorem grtB_new {s : List Bd} (x : ByteArray) (t : Tm) : grtB (srtB (s.map (putB x t) ++ [⟨x, t⟩])) = (grtB (s.map (putB x t)) || decide (2000 < sizeL [t])) := by
 rw [grtB_perm (srtB_perm _)]
 unfold grtB
 rw [List.any_append]
 simp
theorem uNext_great {lim : Bool} {s s' : List Bd} {l l' : List Pr} (h : uNext lim s l = .go s' l') (hg : grtB s = true) : grtB s' = true := by
 cases l with
 | nil => cases h
 | cons p l =>
  have bind : ∀ x t, uBind lim s l x t = .go s' l' → grtB s' = true := fun x t h => by
   unfold uBind at h
   split at h
   ·cases h
   ·split at h
    ·cases h
    ·cases h
     rw [grtB_new, grtB_put x t hg]
     rfl
  rw [uNext_cons] at h
  unfold uPair at h
  generalize onT s p.l = a at h
  generalize onT s p.r = b at h
  split at h
  ·cases h
  ·split at h
   ·split at h
    ·cases h; exact hg
    ·exact bind _ _ h
   ·split at h
    ·exact bind _ _ h
    ·split at h
     ·cases h; exact hg
     ·cases h
theorem uNext_stop {lim : Bool} {s s' : List Bd} {l : List Pr} {e : Int} (h : uNext lim s l = .stop e s') : s' = s := by
 cases l with
 | nil => cases h; rfl
 | cons p l =>
  have bind : ∀ x t, uBind lim s l x t = .stop e s' → s' = s := fun x t h => by
   unfold uBind at h
   split at h
   ·cases h; rfl
   ·split at h
    ·cases h; rfl
    ·cases h
  rw [uNext_cons] at h
  unfold uPair at h
  generalize onT s p.l = a at h
  generalize onT s p.r = b at h
  split at h
  ·cases h; rfl
  ·split at h
   ·split at h
    ·cases h
    ·exact bind _ _ h
   ·split at h
    ·exact bind _ _ h
    ·split at h
     ·cases h
     ·cases h; rfl
theorem uRun_great {lim : Bool} : ∀ (n : Nat) (s : List Bd) (l : List Pr) (e : Int) (sf : List Bd), uRun lim n s l = some (e, sf) → grtB s = true → grtB sf = true
 | 0, _, _, _, _, h, _ => by cases h
 | n + 1, s, l, e, sf, h, hg => by
  rw [uRun] at h
  cases hn : uNext lim s l with
  | stop e' s' =>
   rw [hn] at h
   cases h
   rw [uNext_stop hn]; exact hg
  | go s' l' =>
   rw [hn] at h
   exact uRun_great n s' l' e sf h (uNext_great hn hg)
theorem uNext_lim {s : List Bd} {l : List Pr} : uNext true s l = uNext false s l ∨ (uNext true s l = .stop 8 s ∧ ∃ s' l', uNext false s l = .go s' l' ∧ grtB s' = true) := by
 cases l with
 | nil => exact Or.inl rfl
 | cons p l =>
  have bind : ∀ x t, uBind true s l x t = uBind false s l x t ∨ (uBind true s l x t = .stop 8 s ∧ ∃ s' l', uBind false s l x t = .go s' l' ∧ grtB s' = true) := fun x t => by
   unfold uBind
   by_cases h1 : inB x (varsP [] (preL [t])) = true
   ·rw [if_pos h1, if_pos h1]; exact Or.inl rfl
   ·rw [if_neg h1, if_neg h1]
    cases h2 : grtB (s.map (putB x t)) with
    | true => exact Or.inr ⟨rfl, _, _, rfl, by rw [grtB_new, h2]; rfl⟩
    | false => exact Or.inl rfl
  rw [uNext_cons, uNext_cons]
  unfold uPair
  generalize onT s p.l = a
  generalize onT s p.r = b
  by_cases h1 : 2000 < sizeL [a] ∨ 2000 < sizeL [b]
  ·rw [if_pos h1, if_pos h1]; exact Or.inl rfl
  ·rw [if_neg h1, if_neg h1]
   by_cases h2 : varB a.name = true
   ·rw [if_pos h2, if_pos h2]
    by_cases h3 : a.name = b.name
    ·rw [if_pos h3, if_pos h3]; exact Or.inl rfl
    ·rw [if_neg h3, if_neg h3]; exact bind _ _
   ·rw [if_neg h2, if_neg h2]
    by_cases h3 : varB b.name = true
    ·rw [if_pos h3, if_pos h3]; exact bind _ _
    ·rw [if_neg h3, if_neg h3]; exact Or.inl rfl
theorem uRun_lim : ∀ (n : Nat) (s : List Bd) (l : List Pr) (e : Int) (sf : List Bd), uRun false n s l = some (e, sf) → grtB s = false → ∃ e' sf', uRun true n s l = some (e', sf') ∧ (grtB sf = true → e' = 8) ∧ (grtB sf = false → e' = e ∧ sf' = sf)
 | 0, _, _, _, _, h, _ => by cases h
 | n + 1, s, l, e, sf, h, hg => by
  rw [uRun] at h
  rcases uNext_lim (s := s) (l := l) with h1 | ⟨h1, s', l', h2, h3⟩
  ·rw [uRun, h1]
   cases hn : uNext false s l with
   | stop e' s' =>
    rw [hn] at h
    cases h
    refine ⟨e, sf, rfl, fun h4 => ?_, fun _ => ⟨rfl, rfl⟩⟩
    rw [uNext_stop hn, hg] at h4
    cases h4
   | go s' l' =>
    rw [hn] at h
    cases h4 : grtB s' with
    | false => exact uRun_lim n s' l' e sf h h4
    | true =>
     exfalso
     rw [hn] at h1
     have h5 : grtB s' = false := by
      cases l with
      | nil => cases hn
      | cons p l =>
       have bind : ∀ x t, sizeL [t] ≤ 2000 → uBind true s l x t = .go s' l' → grtB s' = false := fun x t ht h => by
        unfold uBind at h
        split at h
        ·cases h
        ·split at h
         ·cases h
         ·rename_i h6
          cases h
          rw [grtB_new]
          simp only [Bool.true_and, Bool.not_eq_true] at h6
          rw [h6]
          simp; omega
       rw [uNext_cons] at h1
       unfold uPair at h1
       generalize onT s p.l = a at h1
       generalize onT s p.r = b at h1
       split at h1
       ·cases h1
       ·rename_i h7
        split at h1
        ·split at h1
         ·cases h1; exact hg
         ·exact bind _ _ (by omega) h1
        ·split at h1
         ·exact bind _ _ (by omega) h1
         ·split at h1
          ·cases h1; exact hg
          ·cases h1
     rw [h5] at h4
     cases h4
  ·rw [h2] at h
   have h4 := uRun_great n s' l' e sf h h3
   refine ⟨8, s, by rw [uRun, h1], fun _ => rfl, fun h5 => ?_⟩
   rw [h4] at h5
   cases h5
structure Ex (B : Nat) (w w' : World) : Prop where
 os : w'.os = w.os
 tape : w'.tape = w.tape
 output : w'.output = w.output
 size : w.heap.size ≤ w'.heap.size
 block : ∀ k, k < w.heap.size → k ≠ B → w'.heap[k]? = w.heap[k]?
theorem Ex.refl (B : Nat) (w : World) : Ex B w w := ⟨rfl, rfl, rfl, Nat.le_refl _, fun _ _ _ => rfl⟩
theorem Ex.trans {B : Nat} {a b c : World} (h : Ex B a b) (k : Ex B b c) : Ex B a c :=
 ⟨k.os.trans h.os, k.tape.trans h.tape, k.output.trans h.output, Nat.le_trans h.size k.size, fun i hi hn => (k.block i (Nat.lt_of_lt_of_le hi h.size) hn).trans (h.block i hi hn)⟩
theorem Ex.drewN {B : Nat} {a w : World} (h : Ex B a w) (n : Nat) : Ex B a (w.drewN n) := ⟨h.os, h.tape, h.output, h.size, h.block⟩
theorem Ex.drew {B : Nat} {a w : World} (h : Ex B a w) : Ex B a w.drew := ⟨h.os, h.tape, h.output, h.size, h.block⟩
theorem Ex.set {B : Nat} {a w : World} (h : Ex B a w) (i : Nat) (v : Value) : Ex B a (w.setCell ⟨B, i, none⟩ v) :=
 ⟨h.os, h.tape, h.output, by simpa [World.setCell] using h.size, fun k hk hn => (Below.heap_setCell _ _ _ _ (by simpa using hn)).trans (h.block k hk hn)⟩
theorem Ex.alloc {B : Nat} {a w : World} (h : Ex B a w) (o : Obj) : Ex B a (w.alloc o) :=
 ⟨h.os, h.tape, h.output, by have := h.size; simp; omega, fun k hk hn => (Below.heap_alloc _ _ _ (Nat.lt_of_lt_of_le hk h.size)).trans (h.block k hk hn)⟩
theorem Blk.ex {w w' : World} {B b T : Nat} {cs : Array Value} (h : Blk w b cs T) (he : Ex B w w') (hne : b ≠ B) : Blk w' b cs T := by
 unfold Blk at *
 rw [he.block b (Blk.lt h) hne]; exact h
theorem Ex.mid {B : Nat} {w w1 : World} (h : Ex B w w1) : ∃ wm, Below wm.heap.size wm w1 ∧ wm.heap.size = w.heap.size ∧ Ex B w wm := by
 by_cases hB : B < w.heap.size
 ·have hB1 : B < w1.heap.size := Nat.lt_of_lt_of_le hB h.size
  refine ⟨{ w with heap := w.heap.setIfInBounds B w1.heap[B] }, ⟨h.os, h.tape, h.output, by simpa using h.size, fun k hk => ?_⟩, by simp, ⟨rfl, rfl, rfl, by simp, fun k hk hn => ?_⟩⟩
  ·simp at hk
   by_cases e : k = B
   ·subst e
    simp [Array.getElem?_setIfInBounds, hB, hB1]
   ·rw [h.block k hk e]
    simp [Array.getElem?_setIfInBounds, Ne.symm e]
  ·simp [Array.getElem?_setIfInBounds, Ne.symm hn]
 ·exact ⟨w, ⟨h.os, h.tape, h.output, h.size, fun k hk => h.block k hk (by omega)⟩, rfl, Ex.refl _ _⟩
theorem Row.ex {w w' : World} {B N T : Nat} {Y : Nat → Prop} {v : Value} {l : List Tm} {xs : List Value} (h : Row w N T Y v l xs) (he : Ex B w w') (hB : B < N) (hY : ¬ Y B) : Row w' N T Y v l xs :=
 ⟨h.own.kept (w' := w') (row := some B) ⟨he.os, he.tape, he.output, he.size, fun j hj hn => he.block j hj (fun e => hn (by rw [e]))⟩ (Or.inr (fun e => by have := (h.own.lt B e).1; omega)),
  h.row.imp fun a l hs => ((hs.mono (Y := fun b => (Y b ∨ (N ≤ b ∧ some b ≠ v.ownBlock)) ∧ b < w.heap.size) fun b h1 h2 => ⟨h1, h2⟩).kept fun b hb => he.block b hb.2 (fun e => by
   rcases hb.1 with h1 | h1
   ·rw [e] at h1; exact hY h1
   ·omega)).mono fun b hb _ => hb.1⟩
theorem Ex.grown {B : Nat} {a w w' : World} {row : Option Nat} (h : Ex B a w) (hg : w.grownBy w' row) (hr : ∀ k, row = some k → a.heap.size ≤ k) : Ex B a w' :=
 ⟨hg.os.trans h.os, hg.tape.trans h.tape, hg.output.trans h.output, Nat.le_trans h.size hg.size, fun k hk hn => (hg.block k (Nat.lt_of_lt_of_le hk h.size) (fun e => by have := hr k e.symm; omega)).trans (h.block k hk hn)⟩
theorem Ex.setNew {B : Nat} {a w : World} (h : Ex B a w) {b : Nat} (hb : a.heap.size ≤ b) (i : Nat) (v : Value) : Ex B a (w.setCell ⟨b, i, none⟩ v) :=
 ⟨h.os, h.tape, h.output, by simpa [World.setCell] using h.size, fun k hk hn => (Below.heap_setCell _ _ _ _ (by simp; omega)).trans (h.block k hk hn)⟩
theorem below3 {w : World} (o1 o2 o3 : Obj) : Below w.heap.size w (((w.alloc o1).alloc o2).alloc o3) := (below2 o1 o2).alloc (by simp; omega) o3
theorem copy_step {w wr w1 w3 : World} {T k : Nat} {u : Value} {l : List Tm} {xs : List Value} {o1 o2 : Obj} {s s' : ByteArray} {a1 : Option Addr} {n1 c1 g cap : Nat} {c0 : Array Value} (hrow : Row wr (w.heap.size + 3) T (fun _ => False) u (l.take k) xs) (hb : Below w.heap.size w wr)
  (h1 : Blk wr (w.heap.size + 1) c0 T) (h2 : Blk wr (w.heap.size + 1 + 1) #[.string s, u] T) (hsz : w.heap.size + 3 ≤ wr.heap.size) (hlt : k < l.length)
  (hb1 : Below (wr.alloc o1).drew.heap.size (wr.alloc o1).drew w1) (ht : TV w1 (fun b => (wr.alloc o1).drew.heap.size ≤ b) (.agg #[.string s', .slice a1 n1 c1]) l[k])
  (hown : w3.ownsRow (w.heap.size + 3) T 2 (.slice (some ⟨g, 0, none⟩) ((l.take k).length + 1) cap) ((l.take k).length + 1) (xs ++ [.string s', .slice a1 n1 c1])) (hg : (w1.alloc o2).grownBy w3 u.ownBlock) (hat : u.ownBlock = some g ∨ g = (w1.alloc o2).heap.size) :
  let w4 := w3.setCell ⟨w.heap.size + 1 + 1, 1, none⟩ (.slice (some ⟨g, 0, none⟩) ((l.take k).length + 1) cap)
  Row w4 (w.heap.size + 3) T (fun _ => False) (.slice (some ⟨g, 0, none⟩) ((l.take k).length + 1) cap) (l.take (k + 1)) (xs ++ [.string s', .slice a1 n1 c1]) ∧ Below w.heap.size w w4 ∧ Blk w4 (w.heap.size + 1) c0 T ∧ Blk w4 (w.heap.size + 1 + 1) #[.string s, .slice (some ⟨g, 0, none⟩) ((l.take k).length + 1) cap] T ∧ w.heap.size + 3 ≤ w4.heap.size := by
 intro w4
 have hbb : Below wr.heap.size wr (wr.alloc o1).drew := ((Below.refl _ _).alloc (Nat.le_refl _) o1).drew
 have hr1 := hrow.below hbb
 have hlt' := hrow.own.lt
 have hs1 := hb1.size
 have hsg := hg.size
 simp at hs1 hsg
 have hp := hr1.push (w1 := w1) (w2 := w1.alloc o2) (w3 := w3) (by simp; omega) (fun _ h => h.elim) hb1 (ht.mono fun b h _ => Or.inr h) o2 rfl hown hg hat
 have hw3 : Below w.heap.size w w3 := (((hb.trans (hbb.mono (by omega))).trans (hb1.mono (by simp; omega))).alloc (by omega) o2).grown hg (by simp; omega) (fun j hj => by have := (hlt' j hj).1; omega)
 have hA : Below w.heap.size w w4 := hw3.setCell (p := ⟨w.heap.size + 1 + 1, 1, none⟩) (by simp; omega) _
 refine ⟨?_, hA, (copy_blk h1 hb1 hg (fun e => by have := (hlt' _ e.symm).1; omega)).setOther _ _ (by omega), ?_, by simp [w4, World.setCell]; omega⟩
 ·rw [List.take_succ_eq_append_getElem hlt]
  exact hp.setCell (by omega) (fun h => h) _
 ·exact (copy_blk h2 hb1 hg (fun e => by have := (hlt' _ e.symm).1; omega)).set 1 _
set_option maxHeartbeats 1000000 in
theorem copyOf_any (t : Tm) : ∀ (v : Value) (w : World) (X : Nat → Prop), TV w X v t → sizeL [t] ≤ 1000000 →
  Calls Tryz.prog 24 #[v] w fun e w' => ∃ v', e = .returned v' ∧ TV w' (fun b => w.heap.size ≤ b) v' t ∧ Below w.heap.size w w' := by
 induction t using Tm.ind with
 | h s l ih =>
  intro v w X hv hsm
  have IH := hide ih
  clear ih
  obtain ⟨a, c, rfl, hs⟩ := hv
  have hl := hs.1
  have hz : sizeL [(⟨s, l⟩ : Tm)] = 1 + sizeL l := by simp [sizeL]
  rw [hz] at hsm
  clear hz
  have hlen := sizeL_len l
  obtain ⟨i0, hi, hz0, hz1, hz2⟩ := info_parts Tryz.infoTerm
  go_enter Tryz.func24, Tryz.ntmps24
  go_wp2_with fail
  go_loopw [12] (fun i wr => ∃ (k : Nat) (u : Value) (xs : List Value), k ≤ l.length ∧ i = .int .i64 k ∧ Row wr (w.heap.size + 3) 26 (fun _ => False) u (l.take k) xs ∧ Below w.heap.size w wr ∧ Blk wr (w.heap.size + 1) #[.string ⟨#[]⟩, .slice none 0 0] 26 ∧ Blk wr (w.heap.size + 1 + 1) #[.string s, u] 26 ∧ w.heap.size + 3 ≤ wr.heap.size) (fun i wr => l.length - (intOf i).toNat)
  case atStart =>
   refine ⟨0, .slice none 0 0, [], Nat.zero_le _, rfl, Row.start _ _ _ _, below3 _ _ _, ?_, ?_, by simp⟩
   ·have := ((Blk.new (w.alloc (.cells #[.string s, .slice a l.length c] 26)) #[.string ⟨#[]⟩, .slice none 0 0] 26)).alloc (.cells #[.string s, .slice none 0 0] 26)
    simpa using this
   ·have := Blk.new ((w.alloc (.cells #[.string s, .slice a l.length c] 26)).alloc (.cells #[.string ⟨#[]⟩, .slice none 0 0] 26)) #[.string s, .slice none 0 0] 26
    simpa using this
  case round =>
   obtain ⟨k, u, xs, hk, rfl, hrow, hb, hbl1, hbl2, hsz⟩ := hrel
   have HROW := hide hrow
   have HBL1 := hide hbl1
   have HBL2 := hide hbl2
   have HB := hide hb
   clear hrow hbl1
   by_cases hlt : k < l.length
   ·obtain ⟨b, o, a', c', rfl, d0, d1, hx⟩ := hs.get hb (fun _ _ h => h) k hlt
    have hc2 : ∀ o, (wr.alloc o).cell? ⟨w.heap.size + 1 + 1, 1, none⟩ = some u := fun o => (hbl2.alloc o).cell 1
    have HX := hide hx
    have hszk : sizeL [l[k]] ≤ 1000000 := by
     have := sizeL_take l k hlt; have := sizeL_take_le l (k + 1); omega
    clear hbl2 hb hx
    go_wp2_with fail
    go_region_law (first
     | (go_simp; go_at_call 24; refine (IH.out _ (List.getElem_mem hlt) _ _ X (by exact (HX.out.alloc _).later (below_drewN (Below.refl _ _) 1)) hszk).mono ?_; rintro e w1 ⟨v1, rfl, ht1, hb1⟩; obtain ⟨a1, c1, rfl, hs1⟩ := ht1; have hc3 : ∀ o, (w1.alloc o).cell? ⟨w.heap.size + 1 + 1, 1, none⟩ = some u := fun o => ((((HBL2.out.alloc _).drewN 1).below hb1 (by simp; omega)).alloc o).cell 1; have hc4 : w1.cell? ⟨w.heap.size + 1 + 1, 1, none⟩ = some u := (((HBL2.out.alloc _).drewN 1).below hb1 (by simp; omega)).cell 1)
     | (refine step_append_lies _ rfl _ _ 23 rfl (w.heap.size + 3) 26 i0 _ 2 40 Tryz.underlying23 hi hz0 hz1 hz2 rfl (by decide) u (l.take k).length xs rfl (by exact (((HROW.out.below ((Below.refl _ _).alloc (Nat.le_refl _) _)).below (below_drewN (Below.refl _ _) 1)).below hb1).own.alloc _) ⟨w1.heap.size, 0, none⟩ 1 1 [.string l[k].name, .slice a1 l[k].args.length c1] rfl rfl (cell_two_new _ _ _ _) (fun x hx => by simp at hx; rcases hx with rfl | rfl <;> rfl) (by decide) (by unfold maxLen; simp; omega) (by simp; omega) (by have := hb1.size; simp at this ⊢; omega) _ rfl ?_; intro g cap w3 hown3 hgrow3 hat3 hlt3; have hB3 := hide (copy_blk HBL2.out hb1 hgrow3 (HROW.out.ne (Nat.lt_succ_self _))); have hc5 : w3.cell? ⟨w.heap.size + 1 + 1, 1, none⟩ = some u := hB3.out.cell 1; have hf5 := hB3.out.frozen 1))
    all_goals
     have HFIN := hide (copy_step HROW.out HB.out HBL1.out HBL2.out hsz hlt hb1 ⟨a1, c1, rfl, hs1⟩ hown3 hgrow3 hat3)
     clear hown3 hgrow3 hat3 hc2 hc3 hc4
     go_wp2_with fail
     go_roundw
     case rel =>
      have hkl : (l.take k).length = k := by simp; omega
      obtain ⟨r1, r2, r3, r4, r5⟩ := HFIN.out
      simp only [hkl] at r1 r2 r3 r4 r5
      exact ⟨k + 1, _, _, by omega, by go_num, r1, r2, r3, r4, r5⟩
     case measure => simp [intOf]; omega
   ·have htk : l.take k = l := List.take_of_length_le (by omega)
    have hc0 := hbl2.cell 0
    have hc1 := hbl2.cell 1
    have hr0 := HBL1.out.cell 0
    have hr1 := HBL1.out.cell 1
    have hrf := HBL1.out.frozen
    obtain ⟨a9, c9, hu9, hsl9⟩ := HROW.out.sl
    rw [htk] at hu9 hsl9
    have HSL := hide hsl9
    subst hu9
    clear hsl9 htk hbl2
    go_wp2_with fail
    refine bodyPost_ret (v := .agg #[.string s, .slice a9 l.length c9]) (by simp [results, Tryz.results24, go_sem, hr0, hr1, World.cell?_setCell_same, World.cell?_setCell_other]) rfl ⟨_, rfl, ?_, ?_⟩
    ·refine ⟨a9, c9, rfl, ?_⟩
     have hk9 : Sl wr (fun b => w.heap.size + 3 ≤ b) a9 l := HSL.out.mono fun b h _ => h.elim False.elim id
     exact ((hk9.kept fun b hb => by rw [Below.heap_setCell _ _ _ _ (by simp; omega), Below.heap_setCell _ _ _ _ (by simp; omega)]).mono fun b hb _ => by omega)
    ·exact (HB.out.setCell (by simp) _).setCell (by simp) _
def CpPost (w : World) (F : Nat) (sv : Value) (t : Tm) (n : Nat) (e : Ending) (w' : World) : Prop :=
 ∃ (s' : ByteArray) (a' : Option Addr) (l' c' : Nat) (m : Int), e = .returned (.agg #[.string s', .slice a' l' c']) ∧ Blk w' F #[.int .i64 m, sv] 191 ∧ Ex F w w' ∧ (sizeL [t] ≤ n → m = (n : Int) - sizeL [t] ∧ s' = t.name ∧ l' = t.args.length ∧ Sl w' (fun b => w.heap.size ≤ b) a' t.args) ∧ (n < sizeL [t] → m = -1)
theorem fcopy_of (F : Nat) (sv : Value) (t : Tm) (n : Nat) (a : Option Addr) (c : Nat) (w : World) (hFl : F < w.heap.size) (h : Calls Tryz.prog 147 #[.pointer (some ⟨F, 0, none⟩), .agg #[.string t.name, .slice a t.args.length c], .func (.func 148) #[.pointer (some ⟨F, 0, none⟩)] #[]] ((w.alloc (.cells #[.string t.name, .slice a t.args.length c] 26)).alloc (.cells #[.string ⟨#[]⟩, .slice none 0 0] 26)) fun e w' => CpPost ((w.alloc (.cells #[.string t.name, .slice a t.args.length c] 26)).alloc (.cells #[.string ⟨#[]⟩, .slice none 0 0] 26)) F sv t n e w') :
  Calls Tryz.prog 148 #[.pointer (some ⟨F, 0, none⟩), .agg #[.string t.name, .slice a t.args.length c]] w fun e w' => CpPost w F sv t n e w' := by
 have hmf : ∀ (fn : Fn) (first cap : Array Value) (w : World), (Instr.makeFunc fn first cap).run Tryz.prog w = .ok (.func fn first cap) w := fun _ _ _ _ => rfl
 have H := hide h
 clear h
 go_enter Tryz.func148, Tryz.ntmps148
 go_wp2_with fail
 refine H.out.mono ?_
 rintro e w1 ⟨s', a', l', c', m, rfl, hF1, hx1, hy1, hn1⟩
 have R1 : Hid (Blk w1 (w.heap.size + 1) #[.string ⟨#[]⟩, .slice none 0 0] 26) := by
  have h := (Blk.new (w.alloc (.cells #[.string t.name, .slice a t.args.length c] 26)) #[.string ⟨#[]⟩, .slice none 0 0] 26).ex hx1 (by simp; omega)
  unfold Hid
  simpa using h
 have HX := hide ((((Ex.refl F w).alloc (.cells #[.string t.name, .slice a t.args.length c] 26)).alloc (.cells #[.string ⟨#[]⟩, .slice none 0 0] 26)).trans hx1)
 have HF := hide hF1
 have HY := hide hy1
 have HN := hide hn1
 clear hF1 hx1 hy1 hn1
 have r0 := R1.out.c0
 have r1 := R1.out.c1
 have rf := R1.out.frozen
 go_wp2_with fail
 refine bodyPost_ret (v := .agg #[.string s', .slice a' l' c']) (by simp [results, Tryz.results148, go_sem, World.cell?_setCell_same, World.cell?_setCell_other, r0, r1]) rfl ?_
 refine ⟨s', a', l', c', m, rfl, (HF.out.setOther _ _ (by omega)).setOther _ _ (by omega), (HX.out.setNew (by omega) _ _).setNew (by omega) _ _, fun h => ?_, HN.out⟩
 obtain ⟨h1, h2, h3, h4⟩ := HY.out h
 refine ⟨h1, h2, h3, (h4.kept fun b hb => ?_).mono fun b hb _ => by simp at hb; omega⟩
 simp at hb
 rw [Below.heap_setCell _ _ _ _ (by simp; omega), Below.heap_setCell _ _ _ _ (by simp; omega)]
theorem Sl.ex {w w' : World} {F : Nat} {X : Nat → Prop} {a : Option Addr} {l : List Tm} (h : Sl w X a l) (he : Ex F w w') (hX : ∀ b, X b → b ≠ F) : Sl w' X a l :=
 ((h.mono (Y := fun b => X b ∧ b < w.heap.size) fun b h1 h2 => ⟨h1, h2⟩).kept fun b hb => he.block b hb.2 (hX b hb.1)).mono fun b hb _ => hb.1
def KnSet (w : World) (F O : Nat) (s : ByteArray) (u : Value) (cF : Array Value) (wr : World) : Prop :=
 Ex F w wr ∧ Blk wr (w.heap.size + 1) #[.string ⟨#[]⟩, .slice none 0 0] 26 ∧ Blk wr O #[.string s, u] 26 ∧ Blk wr F cF 191 ∧ O < wr.heap.size
theorem kn_set {w wr w1 w3 : World} {F O : Nat} {s : ByteArray} {u v : Value} {cF cF' : Array Value} {o2 : Obj} (hFw : F < w.heap.size) (hO : w.heap.size + 2 ≤ O) (h : KnSet w F O s u cF wr) (hu : ∀ k, u.ownBlock = some k → O + 1 ≤ k)
  (he1 : Ex F wr w1) (hF1 : Blk w1 F cF' 191) (hg : (w1.alloc o2).grownBy w3 u.ownBlock) : KnSet w F O s v cF' (w3.setCell ⟨O, 1, none⟩ v) := by
 obtain ⟨h1, h2, h3, h4, h5⟩ := h
 have hne : ∀ b, b < O + 1 → some b ≠ u.ownBlock := fun b hb e => by have := hu b e.symm; omega
 have hs1 := he1.size
 have hs3 := hg.size
 simp at hs3
 refine ⟨(((h1.trans he1).alloc o2).grown hg (fun k hk => by have := hu k hk; omega)).setNew (by omega) _ _, ?_, ?_, ?_, by simp [World.setCell]; omega⟩
 ·exact (((h2.ex he1 (by omega)).alloc o2).grown hg (hne _ (by omega))).setOther _ _ (by omega)
 ·exact (((h3.ex he1 (by omega)).alloc o2).grown hg (hne _ (by omega))).set 1 _
 ·exact ((hF1.alloc o2).grown hg (hne _ (by omega))).setOther _ _ (by omega)
theorem kn_row {wr w1 w3 : World} {F O : Nat} {u : Value} {L : List Tm} {xs : List Value} {o2 : Obj} {s' : ByteArray} {a1 : Option Addr} {n1 c1 g cap : Nat} {t : Tm} (hFO : F < O) (hOr : O < wr.heap.size) (hrow : Row wr (O + 1) 26 (fun _ => False) u L xs)
  (he1 : Ex F wr w1) (ht : TV w1 (fun b => wr.heap.size ≤ b) (.agg #[.string s', .slice a1 n1 c1]) t)
  (hown : w3.ownsRow (O + 1) 26 2 (.slice (some ⟨g, 0, none⟩) (L.length + 1) cap) (L.length + 1) (xs ++ [.string s', .slice a1 n1 c1])) (hg : (w1.alloc o2).grownBy w3 u.ownBlock) (hat : u.ownBlock = some g ∨ g = (w1.alloc o2).heap.size) :
  Row (w3.setCell ⟨O, 1, none⟩ (.slice (some ⟨g, 0, none⟩) (L.length + 1) cap)) (O + 1) 26 (fun _ => False) (.slice (some ⟨g, 0, none⟩) (L.length + 1) cap) (L ++ [t]) (xs ++ [.string s', .slice a1 n1 c1]) := by
 obtain ⟨wm, hbm, hsm, hem⟩ := he1.mid
 have hrm := hrow.ex hem (by omega) (fun h => h)
 exact (hrm.push (w1 := w1) (w2 := w1.alloc o2) (w3 := w3) (by omega) (fun _ h => h.elim) hbm (ht.mono fun b h _ => Or.inr (by omega)) o2 rfl hown hg hat).setCell (by omega) (fun h => h) _
def KnInv (w : World) (F O : Nat) (s : ByteArray) (sv : Value) (l : List Tm) (n : Nat) (i : Value) (wr : World) : Prop :=
 ∃ (k : Nat) (u : Value), k ≤ l.length ∧ i = .int .i64 (k : Int) ∧
  ((∃ (m : Nat) (xs : List Value), (m : Int) = (n : Int) - 1 - sizeL (l.take k) ∧ KnSet w F O s u #[.int .i64 (m : Int), sv] wr ∧ Row wr (O + 1) 26 (fun _ => False) u (l.take k) xs) ∨
   (n < 1 + sizeL l ∧ KnSet w F O s u #[.int .i64 (-1), sv] wr ∧ ∃ a9 l9 c9, u = .slice a9 l9 c9))
set_option maxHeartbeats 1000000 in
theorem knotC_any (F : Nat) (sv : Value) (t : Tm) : ∀ (n : Nat) (v : Value) (w : World) (X : Nat → Prop), TV w X v t → (∀ b, X b → b ≠ F) → n ≤ 1000000 → Blk w F #[.int .i64 (n : Int), sv] 191 →
  Calls Tryz.prog 147 #[.pointer (some ⟨F, 0, none⟩), v, .func (.func 148) #[.pointer (some ⟨F, 0, none⟩)] #[]] w fun e w' => CpPost w F sv t n e w' := by
 induction t using Tm.ind with
 | h s l ih =>
  intro n v w X hv hXF hn hF
  obtain ⟨a, c, rfl, hs⟩ := hv
  have IH := hide ih
  clear ih
  obtain ⟨i0, hi0, hz0, hz1, hz2⟩ := info_parts Tryz.infoTerm
  have f0 : ∀ o, (w.alloc o).cell? ⟨F, 0, none⟩ = some (.int .i64 (n : Int)) := fun o => (hF.alloc o).cell 0
  have ff : ∀ o, (w.alloc o).frozen? ⟨F, 0, none⟩ = false := fun o => (hF.alloc o).frozen 0
  have hFl : F < w.heap.size := hF.lt
  go_enter Tryz.func147, Tryz.ntmps147
  go_wp2_with fail
  have E3 : Hid (KnSet w F (w.heap.size + 1 + 1) s (.slice none 0 0) #[.int .i64 ((n : Int) - 1), sv] ((((w.setCell ⟨F, 0, none⟩ (.int .i64 ((n : Int) - 1))).alloc (.cells #[.string s, .slice a l.length c] 26)).alloc (.cells #[.string ⟨#[]⟩, .slice none 0 0] 26)).alloc (.cells #[.string s, .slice none 0 0] 26))) := by
   refine ⟨((((Ex.refl F w).set 0 _).alloc _).alloc _).alloc _, ?_, ?_, (((hF.set 0 _).alloc _).alloc _).alloc _, by simp [World.setCell]⟩
   ·have h := (Blk.new ((w.setCell ⟨F, 0, none⟩ (.int .i64 ((n : Int) - 1))).alloc (.cells #[.string s, .slice a l.length c] 26)) #[.string ⟨#[]⟩, .slice none 0 0] 26).alloc (.cells #[.string s, .slice none 0 0] 26)
    simpa [World.setCell] using h
   ·have h := Blk.new (((w.setCell ⟨F, 0, none⟩ (.int .i64 ((n : Int) - 1))).alloc (.cells #[.string s, .slice a l.length c] 26)).alloc (.cells #[.string ⟨#[]⟩, .slice none 0 0] 26)) #[.string s, .slice none 0 0] 26
    simpa [World.setCell] using h
  generalize ((((w.setCell ⟨F, 0, none⟩ (.int .i64 ((n : Int) - 1))).alloc (.cells #[.string s, .slice a l.length c] 26)).alloc (.cells #[.string ⟨#[]⟩, .slice none 0 0] 26)).alloc (.cells #[.string s, .slice none 0 0] 26)) = w3 at *
  generalize hOe : w.heap.size + 1 + 1 = O at *
  have hO : w.heap.size + 2 ≤ O := by omega
  clear hOe
  clear f0 ff
  have HS := hide hs
  have hl := hs.1
  have HXF := hide hXF
  have hz : sizeL [(⟨s, l⟩ : Tm)] = 1 + sizeL l := by simp [sizeL]
  clear hs hXF
  go_loopw [23] (fun i wr => KnInv w F O s sv l n i wr) (fun i wr => l.length - (intOf i).toNat)
  case atStart =>
   refine ⟨0, .slice none 0 0, Nat.zero_le _, rfl, ?_⟩
   by_cases hn0 : n = 0
   ·subst hn0
    exact Or.inr ⟨by omega, E3.out, none, 0, 0, rfl⟩
   ·refine Or.inl ⟨n - 1, [], by simp [sizeL]; omega, ?_, Row.start _ _ _ _⟩
    rw [show ((n - 1 : Nat) : Int) = (n : Int) - 1 by omega]
    exact E3.out
  case round =>
   obtain ⟨k, u, hk, rfl, hcase⟩ := hrel
   rcases hcase with ⟨m, xs, hm, hset, hrow⟩ | ⟨hbig, hset, a9, l9, c9, rfl⟩
   ·have XS := hide hset
    have XW := hide hrow
    have HMM := hide hm
    clear hset hrow
    by_cases hlt : k < l.length
    ·obtain ⟨b, o, a', c', rfl, d0, d1, hx⟩ := (HS.out.ex XS.out.1 HXF.out).get (Below.refl _ _) (fun _ _ h => h) k hlt
     obtain ⟨av, cv, ev, hsx⟩ := hx
     simp at ev
     obtain ⟨rfl, rfl⟩ := ev
     have hmn : m ≤ 1000000 := by omega
     have HOF : Hid (O ≠ F) := by unfold Hid; omega
     have HFO1 : Hid (F < O + 1) := by unfold Hid; omega
     have hlen := sizeL_len l
     have hsk : (l.take k).length = k := by simp; omega
     have hkn : k ≤ 1000000 := by have h1 := sizeL_len (l.take k); rw [hsk] at h1; omega
     have HL1 : Hid ((l.take k).length + 1 ≤ maxLen ∧ ((l.take k).length + 1) * 40 ≤ 140737488355328) := by unfold Hid; rw [hsk]; exact ⟨by unfold maxLen; omega, by omega⟩
     clear hsk
     have IHQ : Hid (Calls Tryz.prog 148 #[.pointer (some ⟨F, 0, none⟩), .agg #[.string l[k].name, .slice a' l[k].args.length c']] (wr.alloc (.cells #[.string l[k].name, .slice a' l[k].args.length c'] 26)).drew fun e w'' => CpPost (wr.alloc (.cells #[.string l[k].name, .slice a' l[k].args.length c'] 26)).drew F sv l[k] m e w'') := fcopy_of F sv l[k] m a' c' _ (by have := XS.out.1.size; simp; omega) (IH.out l[k] (List.getElem_mem hlt) m _ _ X ⟨a', c', rfl, ((hsx.later ((Below.refl _ _).alloc (Nat.le_refl _) (.cells #[.string l[k].name, .slice a' l[k].args.length c'] 26))).later ((Below.refl _ _).drew)).later (((Below.refl _ _).alloc (Nat.le_refl _) _).alloc (by simp) _)⟩ HXF.out hmn (by exact ((((XS.out.2.2.2.1.alloc _).drewN 1).alloc _).alloc _)))
     have f0 : ∀ o, (wr.alloc o).cell? ⟨F, 0, none⟩ = some (.int .i64 (m : Int)) := fun o => (XS.out.2.2.2.1.alloc o).cell 0
     have o1 : ∀ o, (wr.alloc o).cell? ⟨O, 1, none⟩ = some u := fun o => (XS.out.2.2.1.alloc o).cell 1
     have hm0 : ¬ (m : Int) < 0 := by omega
     by_cases hle : sizeL [l[k]] ≤ m
     ·have IHG : Hid (Calls Tryz.prog 148 #[.pointer (some ⟨F, 0, none⟩), .agg #[.string l[k].name, .slice a' l[k].args.length c']] (wr.alloc (.cells #[.string l[k].name, .slice a' l[k].args.length c'] 26)).drew fun e w'' => ∃ a1 c1, e = .returned (.agg #[.string l[k].name, .slice a1 l[k].args.length c1]) ∧ Blk w'' F #[.int .i64 ((m : Int) - sizeL [l[k]]), sv] 191 ∧ Ex F wr w'' ∧ Sl w'' (fun b => wr.heap.size ≤ b) a1 l[k].args) := IHQ.out.mono fun e w'' hp => by
       obtain ⟨s1, a1, l1, c1, m1, h1, h2, h3, h4, _⟩ := hp
       obtain ⟨rfl, rfl, rfl, h5⟩ := h4 hle
       exact ⟨a1, c1, h1, h2, (((Ex.refl F wr).alloc _).drew).trans h3, h5.mono fun b hb _ => by simp at hb; omega⟩
      clear IHQ
      go_wp2_with fail
      go_region_law (first
       | (go_simp; go_at_call 148; refine IHG.out.mono ?_; rintro e w1 ⟨a1, c1, rfl, hF1, he1, hs1⟩; have hc3 : ∀ o, (w1.alloc o).cell? ⟨O, 1, none⟩ = some u := fun o => ((Blk.ex XS.out.2.2.1 he1 HOF.out).alloc o).cell 1; have hc4 : w1.cell? ⟨O, 1, none⟩ = some u := (Blk.ex XS.out.2.2.1 he1 HOF.out).cell 1)
       | (refine step_append_lies _ rfl _ _ 23 rfl (O + 1) 26 i0 _ 2 40 Tryz.underlying23 hi0 hz0 hz1 hz2 rfl (by decide) u (l.take k).length xs rfl (by exact (Row.ex (B := F) XW.out he1 HFO1.out (fun h => h)).own.alloc _) ⟨w1.heap.size, 0, none⟩ 1 1 [.string l[k].name, .slice a1 l[k].args.length c1] rfl rfl (cell_two_new _ _ _ _) (fun x hx => by simp at hx; rcases hx with rfl | rfl <;> rfl) (by decide) HL1.out.1 HL1.out.2 (by have := he1.size; have := XS.out.2.2.2.2; simp; omega) _ rfl ?_; intro g cap w3 hown3 hgrow3 hat3 hlt3; have hB3 := hide (((Blk.ex XS.out.2.2.1 he1 HOF.out).alloc _).grown hgrow3 (XW.out.ne (Nat.lt_succ_self _))); have hc5 : w3.cell? ⟨O, 1, none⟩ = some u := hB3.out.cell 1; have hf5 := hB3.out.frozen 1))
      all_goals
       have HK := hide (kn_set (v := .slice (some ⟨g, 0, none⟩) ((l.take k).length + 1) cap) hFl hO XS.out (fun j hj => (XW.out.own.lt j hj).1) he1 hF1 hgrow3)
       have HRW := hide (kn_row (by omega) XS.out.2.2.2.2 XW.out he1 ⟨a1, c1, rfl, hs1⟩ hown3 hgrow3 hat3)
       clear hown3 hgrow3 hat3 hc3 hc4 hc5 hf5 hB3 hF1 he1 hs1 hlt3
       go_wp2_with fail
       go_roundw
       case rel =>
        have hkl : (l.take k).length = k := by simp; omega
        have h1 := HK.out
        have h2 := HRW.out
        have hmm := HMM.out
        simp only [hkl] at h1 h2
        refine ⟨k + 1, .slice (some ⟨g, 0, none⟩) (k + 1) cap, by omega, by go_num, Or.inl ⟨m - sizeL [l[k]], xs ++ [.string l[k].name, .slice a1 l[k].args.length c1], by rw [sizeL_take l k hlt]; omega, ?_, ?_⟩⟩
        ·rw [show ((m - sizeL [l[k]] : Nat) : Int) = (m : Int) - sizeL [l[k]] by omega]
         exact h1
        ·rw [List.take_succ_eq_append_getElem hlt]
         exact h2
       case measure => simp [intOf]; omega
     ·have IHG : Hid (Calls Tryz.prog 148 #[.pointer (some ⟨F, 0, none⟩), .agg #[.string l[k].name, .slice a' l[k].args.length c']] (wr.alloc (.cells #[.string l[k].name, .slice a' l[k].args.length c'] 26)).drew fun e w'' => ∃ s1 a1 l1 c1, e = .returned (.agg #[.string s1, .slice a1 l1 c1]) ∧ Blk w'' F #[.int .i64 (-1), sv] 191 ∧ Ex F wr w'') := IHQ.out.mono fun e w'' hp => by
       obtain ⟨s1, a1, l1, c1, m1, h1, h2, h3, _, h4⟩ := hp
       obtain rfl := h4 (by omega)
       exact ⟨s1, a1, l1, c1, h1, h2, (((Ex.refl F wr).alloc _).drew).trans h3⟩
      clear IHQ
      go_wp2_with fail
      go_region_law (first
       | (go_simp; go_at_call 148; refine IHG.out.mono ?_; rintro e w1 ⟨s1, a1, l1, c1, rfl, hF1, he1⟩; have hc3 : ∀ o, (w1.alloc o).cell? ⟨O, 1, none⟩ = some u := fun o => ((Blk.ex XS.out.2.2.1 he1 HOF.out).alloc o).cell 1; have hc4 : w1.cell? ⟨O, 1, none⟩ = some u := (Blk.ex XS.out.2.2.1 he1 HOF.out).cell 1)
       | (refine step_append_lies _ rfl _ _ 23 rfl (O + 1) 26 i0 _ 2 40 Tryz.underlying23 hi0 hz0 hz1 hz2 rfl (by decide) u (l.take k).length xs rfl (by exact (Row.ex (B := F) XW.out he1 HFO1.out (fun h => h)).own.alloc _) ⟨w1.heap.size, 0, none⟩ 1 1 [.string s1, .slice a1 l1 c1] rfl rfl (cell_two_new _ _ _ _) (fun x hx => by simp at hx; rcases hx with rfl | rfl <;> rfl) (by decide) HL1.out.1 HL1.out.2 (by have := he1.size; have := XS.out.2.2.2.2; simp; omega) _ rfl ?_; intro g cap w3 hown3 hgrow3 hat3 hlt3; have hB3 := hide (((Blk.ex XS.out.2.2.1 he1 HOF.out).alloc _).grown hgrow3 (XW.out.ne (Nat.lt_succ_self _))); have hc5 : w3.cell? ⟨O, 1, none⟩ = some u := hB3.out.cell 1; have hf5 := hB3.out.frozen 1))
      all_goals
       have HK := hide (kn_set (v := .slice (some ⟨g, 0, none⟩) ((l.take k).length + 1) cap) hFl hO XS.out (fun j hj => (XW.out.own.lt j hj).1) he1 hF1 hgrow3)
       clear hown3 hgrow3 hat3 hc3 hc4 hc5 hf5 hB3 hF1 he1 hlt3
       go_wp2_with fail
       go_roundw
       case rel =>
        have hkl : (l.take k).length = k := by simp; omega
        have h0 := HK.out
        have hmm := HMM.out
        simp only [hkl] at h0
        refine ⟨k + 1, .slice (some ⟨g, 0, none⟩) (k + 1) cap, by omega, by go_num, Or.inr ⟨?_, h0, _, _, _, rfl⟩⟩
        have h1 := sizeL_take l k hlt
        have h2 := sizeL_take_le l (k + 1)
        omega
       case measure => simp [intOf]; omega
    ·have htk : l.take k = l := List.take_of_length_le (by omega)
     rw [htk] at XW HMM
     obtain ⟨a9, c9, hu9, hsl9⟩ := XW.out.sl
     subst hu9
     have S9 := hide hsl9
     clear hsl9
     have r0 := XS.out.2.1.c0
     have r1 := XS.out.2.1.c1
     have rf := XS.out.2.1.frozen
     have o0 := XS.out.2.2.1.c0
     have o1 := XS.out.2.2.1.c1
     go_wp2_with fail
     refine bodyPost_ret (v := .agg #[.string s, .slice a9 l.length c9]) (by simp [results, Tryz.results147, go_sem, World.cell?_setCell_same, World.cell?_setCell_other, r0, r1]) rfl ?_
     have hmm := HMM.out
     refine ⟨s, a9, l.length, c9, m, rfl, (XS.out.2.2.2.1.setOther _ _ (by omega)).setOther _ _ (by omega), (XS.out.1.setNew (by omega) _ _).setNew (by omega) _ _, fun h => ⟨by rw [hz]; omega, rfl, rfl, (S9.out.kept fun b hb => ?_).mono fun b hb _ => ?_⟩, fun h => by omega⟩
     ·have hb' : O + 1 ≤ b := hb.elim False.elim id
      rw [Below.heap_setCell _ _ _ _ (by simp; omega), Below.heap_setCell _ _ _ _ (by simp; omega)]
     ·have hb' : O + 1 ≤ b := hb.elim False.elim id
      omega
   ·have XS := hide hset
    clear hset
    have f0 : ∀ o, (wr.alloc o).cell? ⟨F, 0, none⟩ = some (.int .i64 (-1)) := fun o => (XS.out.2.2.2.1.alloc o).cell 0
    by_cases hlt : k < l.length
    ·obtain ⟨b, o, a', c', rfl, d0, d1, hx⟩ := (HS.out.ex XS.out.1 HXF.out).get (Below.refl _ _) (fun _ _ h => h) k hlt
     clear hx
     have o0 : ∀ o, (wr.alloc o).cell? ⟨O, 0, none⟩ = some (.string s) := fun o => (XS.out.2.2.1.alloc o).cell 0
     have o1 : ∀ o, (wr.alloc o).cell? ⟨O, 1, none⟩ = some (.slice a9 l9 c9) := fun o => (XS.out.2.2.1.alloc o).cell 1
     have r0 := XS.out.2.1.c0
     have r1 := XS.out.2.1.c1
     have rf := XS.out.2.1.frozen
     have hRl : w.heap.size + 1 < wr.heap.size := XS.out.2.1.lt
     go_wp2_with fail
     refine bodyPost_ret (v := .agg #[.string s, .slice a9 l9 c9]) (by simp [results, Tryz.results147, go_sem, World.cell?_setCell_same, World.cell?_setCell_other, r0, r1, hRl, World.cell?_alloc_old]) rfl ?_
     exact ⟨s, a9, l9, c9, -1, rfl, ((XS.out.2.2.2.1.setOther _ _ (by omega)).setOther _ _ (by omega)).alloc _, ((XS.out.1.setNew (by omega) _ _).setNew (by omega) _ _).alloc _, fun h => by omega, fun _ => rfl⟩
    ·have r0 := XS.out.2.1.c0
     have r1 := XS.out.2.1.c1
     have rf := XS.out.2.1.frozen
     have o0 := XS.out.2.2.1.c0
     have o1 := XS.out.2.2.1.c1
     go_wp2_with fail
     refine bodyPost_ret (v := .agg #[.string s, .slice a9 l9 c9]) (by simp [results, Tryz.results147, go_sem, World.cell?_setCell_same, World.cell?_setCell_other, r0, r1]) rfl ?_
     exact ⟨s, a9, l9, c9, -1, rfl, (XS.out.2.2.2.1.setOther _ _ (by omega)).setOther _ _ (by omega), (XS.out.1.setNew (by omega) _ _).setNew (by omega) _ _, fun h => by omega, fun _ => rfl⟩
def mapGet : List (ByteArray × Value) → ByteArray → Option Value
 | [], _ => none
 | p :: r, n => if p.1 = n then some p.2 else mapGet r n
def Stamps (es : Array MapEntry) (clk : Nat) : Prop := (∀ x ∈ es.toList, x.born < clk) ∧ (es.toList.map (·.born)).Nodup
def MapAt (w : World) (r : Nat) (L : List (ByteArray × Value)) : Prop :=
 ∃ es clk, w.heap[r]? = some (.map es clk) ∧ es.toList.map (fun e => (e.key, e.val)) = L.map (fun p => (Value.string p.1, p.2)) ∧ Stamps es clk
theorem Stamps.push {es : Array MapEntry} {clk : Nat} (h : Stamps es clk) (k v : Value) : Stamps (es.push { key := k, val := v, born := clk }) (clk + 1) := by
 obtain ⟨h1, h2⟩ := h
 refine ⟨fun x hx => ?_, ?_⟩
 ·rw [Array.toList_push, List.mem_append] at hx
  rcases hx with hx | hx
  ·have := h1 x hx; omega
  ·have e : x = { key := k, val := v, born := clk } := by simpa using hx
   subst e; exact Nat.lt_succ_self _
 ·rw [Array.toList_push, List.map_append, List.nodup_append]
  refine ⟨h2, by simp, fun a ha b hb => ?_⟩
  obtain ⟨x, hx, rfl⟩ := List.mem_map.1 ha
  have := h1 x hx
  have e : b = clk := by simpa using hb
  omega
theorem map_born_modify (j : Nat) (k v : Value) : ∀ l : List MapEntry, (l.modify j fun e => { e with key := k, val := v }).map (·.born) = l.map (·.born) := by
 induction j with
 | zero => intro l; cases l <;> simp
 | succ j ih => intro l; cases l with
  | nil => simp
  | cons a r => simp [List.modify_succ_cons, ih r]
theorem Stamps.modify {es : Array MapEntry} {clk : Nat} (h : Stamps es clk) (j : Nat) (k v : Value) : Stamps (es.modify j fun e => { e with key := k, val := v }) clk := by
 obtain ⟨h1, h2⟩ := h
 have e := map_born_modify j k v es.toList
 refine ⟨fun x hx => ?_, by rw [Array.toList_modify, e]; exact h2⟩
 rw [Array.toList_modify] at hx
 have : x.born ∈ es.toList.map (·.born) := by rw [← e]; exact List.mem_map.2 ⟨x, hx, rfl⟩
 obtain ⟨y, hy, hb⟩ := List.mem_map.1 this
 rw [← hb]; exact h1 y hy
theorem MapAt.new (w : World) : MapAt (w.alloc (.map #[] 0)) w.heap.size [] := ⟨#[], 0, heap_alloc_new w _, rfl, by simp [Stamps]⟩
theorem MapAt.lt {w : World} {r : Nat} {L : List (ByteArray × Value)} (h : MapAt w r L) : r < w.heap.size := by
 obtain ⟨es, clk, h, _⟩ := h
 exact (Array.getElem?_eq_some_iff.1 h).1
theorem MapAt.kept {w w' : World} {r : Nat} {L : List (ByteArray × Value)} (h : MapAt w r L) (hk : w'.heap[r]? = w.heap[r]?) : MapAt w' r L := by
 obtain ⟨es, clk, h1, h2⟩ := h
 exact ⟨es, clk, hk.trans h1, h2⟩
theorem MapAt.below {w w' : World} {r B : Nat} {L : List (ByteArray × Value)} (h : MapAt w r L) (hb : Below B w w') (hB : r < B) : MapAt w' r L := h.kept (hb.block r hB)
theorem findNow_map (n : ByteArray) : ∀ (l : List MapEntry) (L : List (ByteArray × Value)) (i : Nat), l.map (fun e => (e.key, e.val)) = L.map (fun p => (Value.string p.1, p.2)) →
  (mapGet L n = none → Instr.findNow .string (.string n) l i = some none) ∧ (∀ v, mapGet L n = some v → ∃ j, Instr.findNow .string (.string n) l i = some (some (j, v)))
 | [], [], i, h => ⟨fun _ => rfl, fun v h => by simp [mapGet] at h⟩
 | [], p :: L, i, h => by simp at h
 | e :: l, [], i, h => by simp at h
 | e :: l, p :: L, i, h => by
  simp only [List.map_cons, List.cons.injEq, Prod.mk.injEq] at h
  obtain ⟨⟨hk, hv⟩, ht⟩ := h
  obtain ⟨ih1, ih2⟩ := findNow_map n l L (i + 1) ht
  by_cases hn : p.1 = n
  ·have hs : Instr.sameNow .string (.string n) e.key = some true := by
    rw [hk, hn]
    show some (n == n) = some true
    rw [show (n == n) = true from (MapKept.bytes_beq _ _).2 rfl]
   refine ⟨fun h => by simp [mapGet, hn] at h, fun v h => ⟨i, ?_⟩⟩
   simp only [mapGet, hn, if_true, Option.some.injEq] at h
   simp [Instr.findNow, hs, hv, h]
  ·have hs : Instr.sameNow .string (.string n) e.key = some false := by
    rw [hk]
    show some (n == p.1) = some false
    have hb : (n == p.1) = false := by
     cases hh : (n == p.1) with
     | false => rfl
     | true => exact absurd ((MapKept.bytes_beq _ _).1 hh).symm hn
    rw [hb]
   refine ⟨fun h => ?_, fun v h => ?_⟩
   ·rw [mapGet, if_neg hn] at h
    simp [Instr.findNow, hs, ih1 h]
   ·rw [mapGet, if_neg hn] at h
    obtain ⟨j, hj⟩ := ih2 v h
    exact ⟨j, by simp [Instr.findNow, hs, hj]⟩
theorem run_look {P : Program} {w : World} {T kt et : TypeId} {r : Nat} {L : List (ByteArray × Value)} {z : Value} (hm : P.underlying T = some (.map kt et)) (hk : P.underlying kt = some .string) (hz : (zeroValue et).run P w = .ok z w) (h : MapAt w r L) (n : ByteArray) :
  (Instr.lookup T (.map (some r)) (.string n) true).run P w = .ok (.tuple #[(mapGet L n).getD z, .bool (mapGet L n).isSome]) w := by
 obtain ⟨es, clk, hb, he, hst⟩ := h
 obtain ⟨h1, h2⟩ := findNow_map n es.toList L 0 he
 have hc : ∀ b, (Instr.checkKey b 10000 kt (.string n)).run P w = .ok () w := fun b => MapKept.run_checkKey (k := .string n) hk (by simp [MapKept.IsKey]) b 9999
 cases hg : mapGet L n with
 | none => simp [Instr.lookup, run_underlying hm, MapKept.run_getObj_map hb, hc, MapKept.run_findKey hk (h1 hg), Result.andThen, hz]
 | some v =>
  obtain ⟨j, hj⟩ := h2 v hg
  simp [Instr.lookup, run_underlying hm, MapKept.run_getObj_map hb, hc, MapKept.run_findKey hk hj, Result.andThen]
theorem run_put {P : Program} {w : World} {T kt et : TypeId} {r : Nat} {L : List (ByteArray × Value)} (hm : P.underlying T = some (.map kt et)) (hk : P.underlying kt = some .string) (h : MapAt w r L) (n : ByteArray) (v : Value) (hn : mapGet L n = none) :
  ∃ w', (Instr.mapUpdate T (.map (some r)) (.string n) v).run P w = .ok () w' ∧ MapAt w' r (L ++ [(n, v)]) ∧ w'.heap.size = w.heap.size ∧ w'.os = w.os ∧ w'.tape = w.tape ∧ w'.output = w.output ∧ (∀ b, b ≠ r → w'.heap[b]? = w.heap[b]?) := by
 obtain ⟨es, clk, hb, he, hst⟩ := h
 obtain ⟨h1, h2⟩ := findNow_map n es.toList L 0 he
 have hc : (Instr.checkKey false 10000 kt (.string n)).run P w = .ok () w := MapKept.run_checkKey (k := .string n) hk (by simp [MapKept.IsKey]) false 9999
 have hlt : r < w.heap.size := (Array.getElem?_eq_some_iff.1 hb).1
 refine ⟨{ w with heap := w.heap.setIfInBounds r (.map (es.push { key := .string n, val := v, born := clk }) (clk + 1)) }, ?_, ⟨_, _, (MapKept.heap_set hb).1, by simp [he], hst.push _ _⟩, by simp, rfl, rfl, rfl, fun b hne => (MapKept.heap_set hb).2 b hne⟩
 simp [Instr.mapUpdate, run_underlying hm, MapKept.run_getObj_map hb, hc, MapKept.run_findKey hk (h1 hn), MapKept.run_setObj_map _ hb, Result.andThen]
def PairsL (w : World) (X : Nat → Prop) : List Bd → List (ByteArray × Value) → Prop
 | [], L => L = []
 | d :: r, L => ∃ a c L', L = (d.nm, .agg #[.string d.t.name, .slice a d.t.args.length c]) :: L' ∧ Sl w X a d.t.args ∧ PairsL w X r L'
theorem PairsL.imp {w w' : World} {X Y : Nat → Prop} (hs : ∀ a l, Sl w X a l → Sl w' Y a l) : ∀ {l : List Bd} {L : List (ByteArray × Value)}, PairsL w X l L → PairsL w' Y l L
 | [], L, h => h
 | d :: r, L, h => by obtain ⟨a, c, L', e, h1, h2⟩ := h; exact ⟨a, c, L', e, hs _ _ h1, PairsL.imp hs h2⟩
theorem PairsL.push {w : World} {X : Nat → Prop} {d : Bd} {a : Option Addr} {c : Nat} (hs : Sl w X a d.t.args) : ∀ {l : List Bd} {L : List (ByteArray × Value)}, PairsL w X l L → PairsL w X (l ++ [d]) (L ++ [(d.nm, .agg #[.string d.t.name, .slice a d.t.args.length c])])
 | [], L, h => by
  have e : L = [] := h
  subst e
  exact ⟨a, c, [], rfl, hs, rfl⟩
 | d' :: r, L, h => by obtain ⟨a', c', L', e, h1, h2⟩ := h; subst e; exact ⟨a', c', _, rfl, h1, PairsL.push hs h2⟩
theorem PairsL.get {w : World} {X : Nat → Prop} (n : ByteArray) : ∀ {l : List Bd} {L : List (ByteArray × Value)}, PairsL w X l L → (forT l n = none → mapGet L n = none) ∧ (∀ t, forT l n = some t → ∃ a c, mapGet L n = some (.agg #[.string t.name, .slice a t.args.length c]) ∧ Sl w X a t.args)
 | [], L, h => by
  have e : L = [] := h
  subst e
  exact ⟨fun _ => rfl, fun t h => by simp [forT] at h⟩
 | d :: r, L, h => by
  obtain ⟨a, c, L', rfl, h1, h2⟩ := h
  obtain ⟨g1, g2⟩ := PairsL.get n h2
  by_cases hd : d.nm = n
  ·refine ⟨fun h => by simp [forT, hd] at h, fun t h => ?_⟩
   rw [forT, if_pos hd] at h
   cases h
   exact ⟨a, c, by simp [mapGet, hd], h1⟩
  ·refine ⟨fun h => ?_, fun t h => ?_⟩
   ·rw [forT, if_neg hd] at h
    simp only [mapGet, hd, if_false]
    exact g1 h
   ·rw [forT, if_neg hd] at h
    simp only [mapGet, hd, if_false]
    exact g2 t h
def Env (w : World) (B r : Nat) (X : Nat → Prop) (ls : List Bd) (L : List (ByteArray × Value)) : Prop := Blk w B #[.map (some r)] 67 ∧ MapAt w r L ∧ PairsL w X ls L
theorem Env.ex {w w' : World} {B r F : Nat} {X : Nat → Prop} {ls : List Bd} {L : List (ByteArray × Value)} (h : Env w B r X ls L) (he : Ex F w w') (hB : B ≠ F) (hr : r ≠ F) (hX : ∀ b, X b → b ≠ F) : Env w' B r X ls L :=
 ⟨h.1.ex he hB, h.2.1.kept (he.block r h.2.1.lt hr), h.2.2.imp fun a l hs => hs.ex he hX⟩
theorem Env.later {w w' : World} {B r : Nat} {X : Nat → Prop} {ls : List Bd} {L : List (ByteArray × Value)} (h : Env w B r X ls L) (hb : Below w.heap.size w w') : Env w' B r X ls L :=
 ⟨h.1.below hb h.1.lt, h.2.1.below hb h.2.1.lt, h.2.2.imp fun a l hs => hs.later hb⟩
theorem Ex.ofBelow {B : Nat} {w w' : World} (h : Below w.heap.size w w') : Ex B w w' := ⟨h.os, h.tape, h.output, h.size, fun k hk _ => h.block k hk⟩
theorem two_keep {w : World} {F T b : Nat} {u v x : Value} {i j k : Nat} (h : w.cell? ⟨F, i, none⟩ = some u ∧ w.cell? ⟨T, j, none⟩ = some v) (h1 : b ≠ F) (h2 : b ≠ T) : (w.setCell ⟨b, k, none⟩ x).cell? ⟨F, i, none⟩ = some u ∧ (w.setCell ⟨b, k, none⟩ x).cell? ⟨T, j, none⟩ = some v :=
 ⟨(World.cell?_setCell_other _ _ _ _ (fun e => h1 (by injection e))).trans h.1, (World.cell?_setCell_other _ _ _ _ (fun e => h2 (by injection e))).trans h.2⟩
theorem forT_mem {s : ByteArray} {x : Tm} : ∀ {ls : List Bd}, forT ls s = some x → ∃ d, d ∈ ls ∧ d.nm = s ∧ d.t = x
 | [], h => by cases h
 | d :: r, h => by
  rw [forT] at h
  split at h
  ·rename_i e
   exact ⟨d, by simp, e, by simpa using h⟩
  ·obtain ⟨d', h1, h2, h3⟩ := forT_mem h
   exact ⟨d', by simp [h1], h2, h3⟩
theorem errL_parts {s : ByteArray} {a r : List Tm} (h : errL (⟨s, a⟩ :: r) = 0) : (varB s = true → a = []) ∧ errL a = 0 ∧ errL r = 0 := by
 rw [errL] at h
 split at h
 ·split at h
  ·cases h
  ·rename_i h1 h2
   split at h
   ·rename_i h3
    refine ⟨fun hv => ?_, h3, h⟩
    cases a with
    | nil => rfl
    | cons x y => simp [hv] at h2
   ·rename_i h3; exact absurd h h3
 ·cases h
theorem errL_name {s : ByteArray} {a r : List Tm} (h : errL (⟨s, a⟩ :: r) = 0) : nameB s = true := by
 rw [errL] at h
 split at h
 ·assumption
 ·cases h
theorem forT_of {l : List Bd} (ha : ApartB l) {d : Bd} (hd : d ∈ l) : forT l d.nm = some d.t := by
 induction l with
 | nil => cases hd
 | cons a r ih =>
  obtain ⟨h1, h2⟩ := List.pairwise_cons.1 ha
  rcases List.mem_cons.1 hd with rfl | hd
  ·simp [forT]
  ·rw [forT, if_neg (h1 d hd)]
   exact ih h2 hd
theorem forT_append (a b : List Bd) (n : ByteArray) : forT (a ++ b) n = (forT a n).or (forT b n) := by
 induction a with
 | nil => simp [forT]
 | cons d r ih =>
  rw [List.cons_append, forT, forT]
  split
  ·rfl
  ·exact ih
theorem onT_leaf (l : List Bd) (n : ByteArray) : onT l ⟨n, []⟩ = (forT l n).getD ⟨n, []⟩ := by
 cases h : forT l n with
 | none => rw [onT_deep (Or.inr h)]; simp [onL]
 | some t => rw [onT_some h]; rfl
theorem forT_some_of {ls : List Bd} {d : Bd} (h : d ∈ ls) : ∃ t, forT ls d.nm = some t := by
 induction ls with
 | nil => cases h
 | cons a r ih =>
  rw [forT]
  split
  ·exact ⟨_, rfl⟩
  ·rename_i hne
   rcases List.mem_cons.1 h with rfl | h
   ·exact absurd rfl hne
   ·exact ih h
theorem varsP_sub : ∀ (ks : List Tm) (acc : List ByteArray) (n : ByteArray), n ∈ varsP acc ks → n ∈ acc ∨ ∃ k ∈ ks, k.name = n ∧ varB n = true
 | [], acc, n, h => Or.inl (by simpa [varsP] using h)
 | k :: r, acc, n, h => by
  have e : varsP acc (k :: r) = varsP (addV acc k.name) r := rfl
  rw [e] at h
  rcases varsP_sub r _ n h with h1 | ⟨k', h1, h2⟩
  ·cases hv : varB k.name with
   | false => rw [addV_no hv] at h1; exact Or.inl h1
   | true =>
    cases hi : inB k.name acc with
    | true => rw [addV_in hv hi] at h1; exact Or.inl h1
    | false =>
     rw [addV_yes hv hi] at h1
     rcases List.mem_append.1 h1 with h1 | h1
     ·exact Or.inl h1
     ·have e2 : n = k.name := by simpa using h1
      exact Or.inr ⟨k, by simp, e2.symm, by rw [e2]; exact hv⟩
  ·exact Or.inr ⟨k', by simp [h1], h2⟩
theorem varsP_has : ∀ (ks : List Tm) (acc : List ByteArray), (∀ n ∈ acc, n ∈ varsP acc ks) ∧ ∀ k ∈ ks, varB k.name = true → k.name ∈ varsP acc ks
 | [], acc => ⟨fun n h => by simpa [varsP] using h, fun k h => by cases h⟩
 | k :: r, acc => by
  have e : varsP acc (k :: r) = varsP (addV acc k.name) r := rfl
  rw [e]
  obtain ⟨h1, h2⟩ := varsP_has r (addV acc k.name)
  have hsub : ∀ n ∈ acc, n ∈ addV acc k.name := fun n hn => by
   cases hv : varB k.name with
   | false => rw [addV_no hv]; exact hn
   | true =>
    cases hi : inB k.name acc with
    | true => rw [addV_in hv hi]; exact hn
    | false => rw [addV_yes hv hi]; simp [hn]
  refine ⟨fun n hn => h1 n (hsub n hn), fun k' hk' hv' => ?_⟩
  rcases List.mem_cons.1 hk' with rfl | hk'
  ·refine h1 _ ?_
   cases hi : inB k'.name acc with
   | true =>
    rw [addV_in hv' hi]
    unfold inB at hi
    obtain ⟨y, hy, e2⟩ := List.any_eq_true.1 hi
    have e3 : y = k'.name := bytes_inj (by simpa using e2)
    rw [← e3]; exact hy
   | false => rw [addV_yes hv' hi]; simp
  ·exact h2 k' hk' hv'
theorem mod_nat {x : Int} (hx : 0 ≤ x) {n : Nat} (hn : 0 < n) : ∃ k : Nat, x % (n : Int) = k ∧ k < n := by
 have h1 := Int.emod_nonneg x (b := (n : Int)) (by omega)
 have h2 := Int.emod_lt_of_pos x (b := (n : Int)) (by omega)
 exact ⟨(x % (n : Int)).toNat, by omega, by omega⟩
theorem pick_any (c : Int) (n : Nat) (hn : 0 < n) (hn2 : n ≤ 2000000) (hc : -9223372036854775808 ≤ c ∧ c ≤ 9223372036854775807) (w : World) :
  Calls Tryz.prog 5 #[.int .i64 c, .int .i64 (n : Int)] w fun e w' => ∃ k : Nat, e = .returned (.int .i64 (k : Int)) ∧ k < n ∧ w' = w := by
 go_enter Tryz.func5, Tryz.ntmps5
 by_cases h : c < 0
 ·go_wp2_with fail
  go_ret
  obtain ⟨k, hk, hkn⟩ := mod_nat (x := -(c + 1)) (by omega) hn
  refine ⟨k, ?_, hkn, rfl⟩
  have h1 : -(c + 1).tmod (n : Int) = k := by rw [← Int.neg_tmod, Int.tmod_eq_emod_of_nonneg (by omega)]; exact hk
  simp [h1]
 ·go_wp2_with fail
  go_ret
  obtain ⟨k, hk, hkn⟩ := mod_nat (x := c) (by omega) hn
  exact ⟨k, by simp [hk], hkn, rfl⟩
def pickN (c : Int) (n : Nat) : Nat := if c < 0 then (-(c + 1) % (n : Int)).toNat else (c % (n : Int)).toNat
theorem pickN_lt (c : Int) (n : Nat) (hn : 0 < n) : pickN c n < n := by
 unfold pickN
 split
 ·obtain ⟨k, hk, hkn⟩ := mod_nat (x := -(c + 1)) (by omega) hn
  rw [hk]; simpa using hkn
 ·obtain ⟨k, hk, hkn⟩ := mod_nat (x := c) (by omega) hn
  rw [hk]; simpa using hkn
theorem pick_eq (c : Int) (n : Nat) (hn : 0 < n) (hn2 : n ≤ 2000000) (hc : -9223372036854775808 ≤ c ∧ c ≤ 9223372036854775807) (w : World) :
  Calls Tryz.prog 5 #[.int .i64 c, .int .i64 (n : Int)] w fun e w' => e = .returned (.int .i64 (pickN c n : Int)) ∧ w' = w := by
 go_enter Tryz.func5, Tryz.ntmps5
 by_cases h : c < 0
 ·have HK : Hid (((pickN c n : Nat) : Int) = -(c + 1).tmod (n : Int)) := by
   obtain ⟨k, hk, hkn⟩ := mod_nat (x := -(c + 1)) (by omega) hn
   have h1 : -(c + 1).tmod (n : Int) = k := by rw [← Int.neg_tmod, Int.tmod_eq_emod_of_nonneg (by omega)]; exact hk
   unfold Hid pickN
   rw [h1, if_pos h, hk]; simp
  go_wp2_with fail
  go_ret
  exact ⟨by simp [HK.out], rfl⟩
 ·have HK : Hid (((pickN c n : Nat) : Int) = c % (n : Int)) := by
   obtain ⟨k, hk, hkn⟩ := mod_nat (x := c) (by omega) hn
   unfold Hid pickN
   rw [if_neg h, hk]; simp
  go_wp2_with fail
  go_ret
  exact ⟨by simp [HK.out], rfl⟩
theorem wrapI (x : Int) (h : -9223372036854775808 ≤ x ∧ x ≤ 9223372036854775807) : IntKind.i64.wrap x = x := by
 rw [IntKind.wrap_i64]; omega
def Rng (z : Int) : Prop := -9223372036854775808 ≤ z ∧ z ≤ 9223372036854775807
set_option maxHeartbeats 1000000 in
theorem raw_any (zs : List Int) (u : Value) (w : World) (X : Nat → Prop) (hu : PV w X u zs) (hr : ∀ z ∈ zs, Rng z) (i : Nat) (hi : i ≤ 1000000) (hzl : zs.length ≤ 1000000) :
  Calls Tryz.prog 17 #[u, .int .i64 (i : Int)] w fun e w' => ∃ k : Nat, e = .returned (.int .i64 (k : Int)) ∧ k ≤ 100000000000 ∧ Below w.heap.size w w' := by
 obtain ⟨a, c, rfl, hl, h⟩ := hu
 by_cases h0 : zs.length = 0
 ·go_enter Tryz.func17, Tryz.ntmps17
  go_wp2_with fail
  go_ret
  exact ⟨i * 31, by simp, by omega, Below.refl _ _⟩
 ·rcases h with h | ⟨b, o, rfl, hX, hc⟩
  ·subst h; simp at h0
  ·have hpos : 0 < zs.length := by omega
   obtain ⟨m, hm, hlt⟩ := mod_nat (x := (i : Int)) (by omega) hpos
   obtain ⟨d, hd, hdl⟩ : ∃ d : Nat, (i : Int) / (zs.length : Int) = d ∧ d ≤ i := ⟨i / zs.length, by simp, Nat.div_le_self _ _⟩
   have hm2 : (i : Int).tmod (zs.length : Int) = m := by rw [Int.tmod_eq_emod_of_nonneg (by omega)]; exact hm
   have hd2 : (i : Int).tdiv (zs.length : Int) = d := by rw [Int.tdiv_eq_ediv_of_nonneg (by omega)]; exact hd
   have hcc := hc m hlt
   have hrg := hr _ (List.getElem_mem hlt)
   generalize zs[m] = z at *
   have hm0 : (0 : Int) ≤ (m : Int) := by omega
   have hm1 : (m : Int) < (zs.length : Int) := by omega
   clear hc hr
   go_enter Tryz.func17, Tryz.ntmps17
   go_wp2_with fail
   go_region_held3 (fun w' => w'.cell? ⟨b, o + m, none⟩ = some (.int .i64 z)) (first | exact hcc | go_keep)
    ((go_at_call 5; refine (pick_any z 1000003 (by decide) (by decide) hrg _).mono ?_; rintro e w1 ⟨k, rfl, hk, rfl⟩))
   go_wp2_with fail
   go_ret
   refine ⟨k + d * 7919, by simp [wrapI (d : Int) (by omega), wrapI ((d : Int) * 7919) (by omega), wrapI ((k : Int) + (d : Int) * 7919) (by omega)], by omega, ?_⟩
   exact (Below.refl _ _).drew
theorem leaf_any (s : ByteArray) (w : World) :
  Calls Tryz.prog 13 #[.string s] w fun e w' => e = .returned (.agg #[.string s, .slice none 0 0]) ∧ Below w.heap.size w w' := by
 go_enter Tryz.func13, Tryz.ntmps13
 go_wp2_with fail
 have hb := Blk.new w #[.string s, .slice none 0 0] 26
 have c0 := hb.cell 0
 have c1 := hb.cell 1
 refine bodyPost_ret (v := .agg #[.string s, .slice none 0 0]) (by simp [results, Tryz.results13, go_sem, c0, c1]) rfl ⟨rfl, (Below.refl _ _).alloc (Nat.le_refl _) _⟩
def top (m : Nat) : Nat := if m < 3 then 1 else 2 * m - 1
def okV (nv : Nat) (l : List Tm) : Prop := errL l = 0 ∧ ∀ k ∈ preL l, varB k.name = true → k.name ∈ ([⟨#[88]⟩, ⟨#[89]⟩, ⟨#[90]⟩, ⟨#[85]⟩] : List ByteArray).take nv
theorem top_pos (m : Nat) : 1 ≤ top m := by unfold top; split <;> omega
theorem top_step {m : Nat} (h : 3 ≤ m + 1) : top m + 1 ≤ top (m + 1) := by unfold top; split <;> split <;> omega
theorem top_half {m h : Nat} (hm : 3 ≤ m + 1) (hh : h = (m + 1) / 2) : 2 * top h + 1 ≤ top (m + 1) := by unfold top; split <;> split <;> omega
theorem err_leaf {s : ByteArray} (h : nameB s = true) : errL [(⟨s, []⟩ : Tm)] = 0 := by simp [errL, h]
theorem err_node {s : ByteArray} {l : List Tm} (h : nameB s = true) (hv : varB s = false) (hl : errL l = 0) : errL [(⟨s, l⟩ : Tm)] = 0 := by simp [errL, h, hv, hl]
theorem ok_node {nv : Nat} {s : ByteArray} {l : List Tm} (h : nameB s = true) (hv : varB s = false) (hl : okV nv l) : okV nv [(⟨s, l⟩ : Tm)] := by
 refine ⟨err_node h hv hl.1, fun k hk hvk => ?_⟩
 simp only [preL, List.append_nil, List.mem_cons] at hk
 rcases hk with rfl | hk
 ·simp only at hvk
  rw [hv] at hvk; cases hvk
 ·exact hl.2 k hk hvk
theorem preL_cons2 (t : Tm) (r : List Tm) : preL (t :: r) = preL [t] ++ preL r := by
 obtain ⟨s, l⟩ := t
 simp [preL]
theorem ok_two {nv : Nat} {a b : Tm} (ha : okV nv [a]) (hb : okV nv [b]) : okV nv [a, b] := by
 refine ⟨by rw [errL_cons, if_pos ha.1]; exact hb.1, fun k hk hv => ?_⟩
 rw [preL_cons2] at hk
 rcases List.mem_append.1 hk with hk | hk
 ·exact ha.2 k hk hv
 ·exact hb.2 k hk hv
theorem pick_var (w : World) (T k nv : Nat) (hk : k < nv) (hnv : nv ≤ 4) : ∃ s, okV nv [(⟨s, []⟩ : Tm)] ∧ (w.alloc (.cells #[.string ⟨#[88]⟩, .string ⟨#[89]⟩, .string ⟨#[90]⟩, .string ⟨#[85]⟩] T)).cell? ⟨w.heap.size, k, none⟩ = some (.string s) := by
 have h := heap_alloc_new w (.cells (([⟨#[88]⟩, ⟨#[89]⟩, ⟨#[90]⟩, ⟨#[85]⟩] : List ByteArray).map Value.string).toArray T)
 have hk4 : k < ([⟨#[88]⟩, ⟨#[89]⟩, ⟨#[90]⟩, ⟨#[85]⟩] : List ByteArray).length := by simp; omega
 refine ⟨([⟨#[88]⟩, ⟨#[89]⟩, ⟨#[90]⟩, ⟨#[85]⟩] : List ByteArray)[k], ⟨err_leaf ((show ∀ s ∈ ([⟨#[88]⟩, ⟨#[89]⟩, ⟨#[90]⟩, ⟨#[85]⟩] : List ByteArray), nameB s = true by decide) _ (List.getElem_mem hk4)), fun x hx _ => ?_⟩, ?_⟩
 ·simp only [preL, List.append_nil, List.mem_cons, List.not_mem_nil, or_false] at hx
  rw [hx]
  rw [← List.getElem_take (h := by simp; omega) (j := nv)]
  exact List.getElem_mem _
 ·have h2 := Lib.cell_of_heap h k
  refine h2.trans ?_
  rw [List.getElem?_toArray, List.getElem?_map, List.getElem?_eq_getElem hk4]
  rfl
theorem pick_const (w : World) (T k nv : Nat) (hk : k < 3) : ∃ s, okV nv [(⟨s, []⟩ : Tm)] ∧ (w.alloc (.cells #[.string ⟨#[97]⟩, .string ⟨#[98]⟩, .string ⟨#[99]⟩] T)).cell? ⟨w.heap.size, k, none⟩ = some (.string s) := by
 have h := heap_alloc_new w (.cells (([⟨#[97]⟩, ⟨#[98]⟩, ⟨#[99]⟩] : List ByteArray).map Value.string).toArray T)
 have hk4 : k < ([⟨#[97]⟩, ⟨#[98]⟩, ⟨#[99]⟩] : List ByteArray).length := by simpa using hk
 refine ⟨([⟨#[97]⟩, ⟨#[98]⟩, ⟨#[99]⟩] : List ByteArray)[k], ⟨err_leaf ((show ∀ s ∈ ([⟨#[97]⟩, ⟨#[98]⟩, ⟨#[99]⟩] : List ByteArray), nameB s = true by decide) _ (List.getElem_mem hk4)), fun x hx hv => ?_⟩, ?_⟩
 ·simp only [preL, List.append_nil, List.mem_cons, List.not_mem_nil, or_false] at hx
  rw [hx] at hv
  have := (show ∀ s ∈ ([⟨#[97]⟩, ⟨#[98]⟩, ⟨#[99]⟩] : List ByteArray), varB s = false by decide) _ (List.getElem_mem hk4)
  rw [this] at hv; cases hv
 ·have h2 := Lib.cell_of_heap h k
  refine h2.trans ?_
  rw [List.getElem?_toArray, List.getElem?_map, List.getElem?_eq_getElem hk4]
  rfl
theorem sl_one {w : World} {X Z : Nat → Prop} {B : Nat} {t : Tm} {a : Option Addr} {c T : Nat} (hb : w.heap[B]? = some (.cells #[.string t.name, .slice a t.args.length c] T (0, 0))) (hB : X B) (hs : Sl w Z a t.args) (hZ : ∀ b, Z b → b < w.heap.size → X b) : Sl w X (some ⟨B, 0, none⟩) [t] := by
 refine ⟨by simp, Or.inr ⟨B, 0, rfl, lies_mk _ _ _ fun i hi => ?_⟩⟩
 simp at hi
 subst hi
 exact ⟨hB, by simp [World.cell?, hb], a, c, by simp [World.cell?, hb], hs.mono hZ⟩
section
variable {P : Program} {ops : Array Oper} {Q : Exit → Act → World → Prop} {md : Region.Mode}
theorem held_mono {S S' : World → Prop} (h : ∀ w, S' w → S w) : ∀ (fuel : Nat) (listed : Array Bool) (a : Act) (w : World), wpAnyH P md ops Q S' fuel listed a w → wpAnyH P md ops Q S fuel listed a w
 | 0, _, _, _, H => H
 | fuel + 1, listed, a, w, H => ⟨H.1, fun i hi => wpOp_mono (fun a' w' hh => ⟨h _ hh.1, held_mono h fuel _ a' w' hh.2⟩) (H.2 i hi)⟩
end
def TwoS (w5 w6 : World) (t5 t6 : Tm) (a5 a6 : Option Addr) (c5 c6 : Nat) (w' : World) : Prop :=
 Blk w' w5.heap.size #[.string t5.name, .slice a5 t5.args.length c5] 26 ∧ Blk w' w6.heap.size #[.string t6.name, .slice a6 t6.args.length c6] 26
def TwoF (w5 w6 : World) (t5 t6 : Tm) (a5 a6 : Option Addr) (c5 c6 : Nat) (b : Nat) (w' : World) : Prop :=
 TwoS w5 w6 t5 t6 a5 a6 c5 c6 w' ∧ Blk w' b #[.string ⟨#[102]⟩, .string ⟨#[103]⟩] 9
theorem TwoS.alloc {w5 w6 : World} {t5 t6 : Tm} {a5 a6 : Option Addr} {c5 c6 : Nat} {w' : World} (h : TwoS w5 w6 t5 t6 a5 a6 c5 c6 w') (o : Obj) : TwoS w5 w6 t5 t6 a5 a6 c5 c6 (w'.alloc o) := ⟨h.1.alloc o, h.2.alloc o⟩
theorem TwoF.alloc {w5 w6 : World} {t5 t6 : Tm} {a5 a6 : Option Addr} {c5 c6 b : Nat} {w' : World} (h : TwoF w5 w6 t5 t6 a5 a6 c5 c6 b w') (o : Obj) : TwoF w5 w6 t5 t6 a5 a6 c5 c6 b (w'.alloc o) := ⟨h.1.alloc o, h.2.alloc o⟩
theorem blk_at {w : World} {n : Nat} (h : w.heap.size = n) (cs : Array Value) (T : Nat) : Blk (w.alloc (.cells cs T)) n cs T := h ▸ Blk.new w cs T
theorem two_endA {w5 w6 : World} {t5 t6 : Tm} {a5 a6 : Option Addr} {c5 c6 b : Nat} (v0 v1 : Value) (A : Obj) (hX : Blk w6 w5.heap.size #[.string t5.name, .slice a5 t5.args.length c5] 26) (hne : w5.heap.size ≠ b) :
  TwoF w5 w6 t5 t6 a5 a6 c5 c6 (w6.heap.size + 1) (((((w6.setCell ⟨b, 0, none⟩ v0).setCell ⟨b, 1, none⟩ v1).alloc (.cells #[.string t6.name, .slice a6 t6.args.length c6] 26)).alloc (.cells #[.string ⟨#[102]⟩, .string ⟨#[103]⟩] 9)).alloc A) :=
 ⟨⟨(((((hX.setOther 0 v0 hne).setOther 1 v1 hne).alloc _).alloc _).alloc _), ((blk_at (by simp [World.setCell]) _ _).alloc _).alloc _⟩, (blk_at (by simp [World.setCell]) _ _).alloc _⟩
theorem two_endB {w5 w6 : World} {t5 t6 : Tm} {a5 a6 : Option Addr} {c5 c6 b : Nat} (v0 v1 : Value) (A : Obj) (hX : Blk w6 w5.heap.size #[.string t5.name, .slice a5 t5.args.length c5] 26) (hne : w5.heap.size ≠ b) :
  TwoF w5 w6 t5 t6 a5 a6 c5 c6 (w6.heap.size + 1 + 1) (((((w6.setCell ⟨b, 0, none⟩ v0).setCell ⟨b, 1, none⟩ v1).alloc (.cells #[.string t6.name, .slice a6 t6.args.length c6] 26)).alloc A).alloc (.cells #[.string ⟨#[102]⟩, .string ⟨#[103]⟩] 9)) :=
 ⟨⟨(((((hX.setOther 0 v0 hne).setOther 1 v1 hne).alloc _).alloc _).alloc _), ((blk_at (by simp [World.setCell]) _ _).alloc _).alloc _⟩, (blk_at (by simp [World.setCell]) _ _)⟩
theorem sl_two {w : World} {X Z5 Z6 : Nat → Prop} {B : Nat} {t5 t6 : Tm} {a5 a6 : Option Addr} {c5 c6 T : Nat} (hb : Blk w B #[.string t5.name, .slice a5 t5.args.length c5, .string t6.name, .slice a6 t6.args.length c6] T) (hB : X B) (h5 : Sl w Z5 a5 t5.args) (h6 : Sl w Z6 a6 t6.args) (hZ5 : ∀ b, Z5 b → b < w.heap.size → X b) (hZ6 : ∀ b, Z6 b → b < w.heap.size → X b) : Sl w X (some ⟨B, 0, none⟩) [t5, t6] := by
 refine ⟨by simp, Or.inr ⟨B, 0, rfl, lies_mk _ _ _ fun i hi => ?_⟩⟩
 have h01 : i = 0 ∨ i = 1 := by simp at hi; omega
 rcases h01 with rfl | rfl
 ·exact ⟨hB, hb.cell 0, a5, c5, hb.cell 1, h5.mono hZ5⟩
 ·exact ⟨hB, hb.cell 2, a6, c6, hb.cell 3, h6.mono hZ6⟩
theorem two_world {w w6 : World} {Z : Nat → Prop} {a : Option Addr} {l : List Tm} {v0 v1 : Value} {o1 o2 o3 : Obj} (hs : Sl w6 Z a l) (hZ : ∀ b, Z b → w.heap.size < b) : Sl (((((w6.setCell ⟨w.heap.size, 0, none⟩ v0).setCell ⟨w.heap.size, 1, none⟩ v1).alloc o1).alloc o2).alloc o3).drew (fun b => Z b ∧ b < w6.heap.size) a l := by
 refine (hs.mono (Y := fun b => Z b ∧ b < w6.heap.size) fun b h1 h2 => ⟨h1, h2⟩).kept fun b hb => ?_
 have := hZ b hb.1
 show ((((((w6.setCell ⟨w.heap.size, 0, none⟩ v0).setCell ⟨w.heap.size, 1, none⟩ v1).alloc o1).alloc o2).alloc o3)).heap[b]? = w6.heap[b]?
 rw [Below.heap_alloc _ _ _ (by simp [World.setCell]; omega), Below.heap_alloc _ _ _ (by simp [World.setCell]; omega), Below.heap_alloc _ _ _ (by simp [World.setCell]; omega), Below.heap_setCell _ _ _ _ (by simp; omega), Below.heap_setCell _ _ _ _ (by simp; omega)]
theorem two_up {w5 w6 : World} {t5 t6 : Tm} {a5 a6 : Option Addr} {c5 c6 b : Nat} {w' : World} (h : TwoS w5 w6 t5 t6 a5 a6 c5 c6 w') (hF : Blk w' b #[.string ⟨#[102]⟩, .string ⟨#[103]⟩] 9) : TwoF w5 w6 t5 t6 a5 a6 c5 c6 b w' := ⟨h, hF⟩
def occL (x : ByteArray) (l : List Tm) : Prop := ∃ k ∈ preL l, k.name = x
theorem occL_node {x s : ByteArray} {l r : List Tm} : occL x (⟨s, l⟩ :: r) ↔ s = x ∨ occL x l ∨ occL x r := by
 unfold occL
 rw [preL]
 constructor
 ·rintro ⟨k, hk, e⟩
  rcases List.mem_cons.1 hk with rfl | hk
  ·exact Or.inl e
  ·rcases List.mem_append.1 hk with hk | hk
   ·exact Or.inr (Or.inl ⟨k, hk, e⟩)
   ·exact Or.inr (Or.inr ⟨k, hk, e⟩)
 ·rintro (e | ⟨k, hk, e⟩ | ⟨k, hk, e⟩)
  ·exact ⟨⟨s, l⟩, by simp, e⟩
  ·exact ⟨k, by simp [hk], e⟩
  ·exact ⟨k, by simp [hk], e⟩
theorem occL_nil {x : ByteArray} : ¬ occL x [] := by
 rintro ⟨k, hk, _⟩
 simp [preL] at hk
theorem occL_cons {x : ByteArray} {t : Tm} {r : List Tm} : occL x (t :: r) ↔ occL x [t] ∨ occL x r := by
 obtain ⟨s, l⟩ := t
 rw [occL_node, occL_node]
 have h0 : ¬ occL x [] := occL_nil
 constructor
 ·rintro (h | h | h)
  ·exact Or.inl (Or.inl h)
  ·exact Or.inl (Or.inr (Or.inl h))
  ·exact Or.inr h
 ·rintro ((h | h | h) | h)
  ·exact Or.inl h
  ·exact Or.inr (Or.inl h)
  ·exact absurd h h0
  ·exact Or.inr (Or.inr h)
theorem occL_append {x : ByteArray} {a b : List Tm} : occL x (a ++ b) ↔ occL x a ∨ occL x b := by
 induction a with
 | nil =>
  have h0 : ¬ occL x [] := occL_nil
  simp [h0]
 | cons t r ih => rw [List.cons_append, occL_cons, occL_cons (r := r), ih, or_assoc]
def OkS (s : List Bd) : Prop := ApartB s ∧ (∀ d ∈ s, varB d.nm = true ∧ errL [d.t] = 0) ∧ ∀ d ∈ s, ∀ e ∈ s, ¬ occL e.nm [d.t]
theorem okS_nil : OkS [] := ⟨by simp [ApartB], by simp, by simp⟩
theorem onT_sym2 {s : List Bd} (h : ∀ d ∈ s, varB d.nm = true) {n : ByteArray} (hn : varB n = false) (l : List Tm) : onT s ⟨n, l⟩ = ⟨n, onL s l⟩ := by
 refine onT_deep (Or.inr ?_)
 cases hf : forT s n with
 | none => rfl
 | some x =>
  obtain ⟨d, hd, e, _⟩ := forT_mem hf
  have h1 := h d hd
  rw [e, hn] at h1
  cases h1
theorem onL_id {s : List Bd} : ∀ l : List Tm, (∀ e ∈ s, ¬ occL e.nm l) → onL s l = l := by
 intro l
 induction l using Tm.indL with
 | h0 => intro _; simp [onL]
 | h n l r ihl ihr =>
  intro h
  rw [onL_cons, ihr fun e he ho => h e he (occL_node.2 (Or.inr (Or.inr ho)))]
  congr 1
  rw [onT_deep (Or.inr ?_), ihl fun e he ho => h e he (occL_node.2 (Or.inr (Or.inl ho)))]
  cases hf : forT s n with
  | none => rfl
  | some x =>
   obtain ⟨d, hd, e, _⟩ := forT_mem hf
   exact absurd (occL_node.2 (Or.inl e.symm)) (h d hd)
theorem occ_on {s : List Bd} (hs : ∀ d ∈ s, varB d.nm = true) {y : ByteArray} (hy : varB y = true) : ∀ l : List Tm, errL l = 0 → occL y (onL s l) → (occL y l ∧ forT s y = none) ∨ ∃ d ∈ s, occL d.nm l ∧ occL y [d.t] := by
 intro l
 induction l using Tm.indL with
 | h0 => intro _ h; simp only [onL] at h; exact absurd h occL_nil
 | h n l r ihl ihr =>
  intro he h
  obtain ⟨g1, g2, g3⟩ := errL_parts he
  rw [onL_cons, occL_cons] at h
  rcases h with h | h
  ·cases hv : varB n with
   | false =>
    rw [onT_sym2 hs hv, occL_node] at h
    rcases h with h | h | h
    ·rw [h, hy] at hv; cases hv
    ·rcases ihl g2 h with ⟨h1, h2⟩ | ⟨d, hd, h1, h2⟩
     ·exact Or.inl ⟨occL_node.2 (Or.inr (Or.inl h1)), h2⟩
     ·exact Or.inr ⟨d, hd, occL_node.2 (Or.inr (Or.inl h1)), h2⟩
    ·exact absurd h occL_nil
   | true =>
    have e := g1 hv
    subst e
    rw [onT_leaf] at h
    cases hf : forT s n with
    | none =>
     rw [hf] at h
     rcases occL_node.1 h with h | h | h
     ·subst h; exact Or.inl ⟨occL_node.2 (Or.inl rfl), hf⟩
     ·exact absurd h occL_nil
     ·exact absurd h occL_nil
    | some x =>
     rw [hf] at h
     obtain ⟨d, hd, e1, e2⟩ := forT_mem hf
     refine Or.inr ⟨d, hd, occL_node.2 (Or.inl e1.symm), ?_⟩
     rw [e2]; exact h
  ·rcases ihr g3 h with ⟨h1, h2⟩ | ⟨d, hd, h1, h2⟩
   ·exact Or.inl ⟨occL_node.2 (Or.inr (Or.inr h1)), h2⟩
   ·exact Or.inr ⟨d, hd, occL_node.2 (Or.inr (Or.inr h1)), h2⟩
theorem OkS.vars {s : List Bd} (h : OkS s) : ∀ d ∈ s, varB d.nm = true := fun d hd => (h.2.1 d hd).1
theorem OkS.gone {s : List Bd} (h : OkS s) {l : List Tm} (he : errL l = 0) : ∀ e ∈ s, ¬ occL e.nm (onL s l) := by
 intro e hm ho
 rcases occ_on h.vars (h.vars e hm) l he ho with ⟨_, h2⟩ | ⟨d, hd, _, h2⟩
 ·obtain ⟨t, ht⟩ := forT_some_of hm
  rw [ht] at h2; cases h2
 ·exact h.2.2 d hd e hm h2
theorem OkS.idem {s : List Bd} (h : OkS s) {l : List Tm} (he : errL l = 0) : onL s (onL s l) = onL s l := onL_id _ (h.gone he)
theorem errL_on2 {s : List Bd} (h : OkS s) : ∀ l : List Tm, errL l = 0 → errL (onL s l) = 0 := by
 intro l
 induction l using Tm.indL with
 | h0 => intro _; simp [onL, errL]
 | h n l r ihl ihr =>
  intro he
  obtain ⟨g1, g2, g3⟩ := errL_parts he
  have hn := errL_name he
  rw [onL_cons]
  have key : errL [onT s ⟨n, l⟩] = 0 := by
   cases hv : varB n with
   | false => rw [onT_sym2 h.vars hv]; exact err_node hn hv (ihl g2)
   | true =>
    have e := g1 hv
    subst e
    rw [onT_leaf]
    cases hf : forT s n with
    | none => exact err_leaf hn
    | some x =>
     obtain ⟨d, hd, _, e2⟩ := forT_mem hf
     have h3 := (h.2.1 d hd).2
     rw [e2] at h3
     exact h3
  rw [errL_cons, if_pos key]
  exact ihr g3
theorem onT_of {P : List Tm → List Tm → Prop} {s : List Bd} {t : Tm} (h : P [t] (onL s [t])) : P [t] [onT s t] := by
 rw [onL_cons] at h
 simpa [onL] using h
theorem errL_onT2 {s : List Bd} (h : OkS s) {t : Tm} (he : errL [t] = 0) : errL [onT s t] = 0 := onT_of (P := fun _ b => errL b = 0) (errL_on2 h [t] he)
theorem OkS.goneT {s : List Bd} (h : OkS s) {t : Tm} (he : errL [t] = 0) : ∀ e ∈ s, ¬ occL e.nm [onT s t] := onT_of (P := fun _ b => ∀ e ∈ s, ¬ occL e.nm b) (h.gone he)
theorem forT_perm {a b : List Bd} (hp : a.Perm b) (ha : ApartB b) (n : ByteArray) : forT a n = forT b n := by
 have ha' : ApartB a := ha.perm hp
 cases h1 : forT b n with
 | some x =>
  obtain ⟨d, hd, e1, e2⟩ := forT_mem h1
  have h2 := forT_of ha' (hp.symm.subset hd)
  rw [e1, e2] at h2
  exact h2
 | none =>
  cases h2 : forT a n with
  | none => rfl
  | some x =>
   obtain ⟨d, hd, e1, e2⟩ := forT_mem h2
   have h3 := forT_of ha (hp.subset hd)
   rw [e1, h1] at h3
   cases h3
theorem forT_put (x : ByteArray) (t : Tm) (s : List Bd) (n : ByteArray) : forT (s.map (putB x t)) n = (forT s n).map (onT [⟨x, t⟩]) := by
 induction s with
 | nil => rfl
 | cons d r ih =>
  rw [List.map_cons, forT, forT]
  by_cases e : d.nm = n
  ·rw [if_pos e, if_pos (show (putB x t d).nm = n from e)]; rfl
  ·rw [if_neg e, if_neg (show ¬ (putB x t d).nm = n from e)]; exact ih
def addS (s : List Bd) (x : ByteArray) (t : Tm) : List Bd := srtB (s.map (putB x t) ++ [⟨x, t⟩])
theorem add_apart {s : List Bd} {x : ByteArray} {t : Tm} (h : ApartB s) (hx : ∀ d ∈ s, d.nm ≠ x) : ApartB (s.map (putB x t) ++ [⟨x, t⟩]) := by
 refine List.pairwise_append.2 ⟨List.pairwise_map.2 h, by simp, fun a ha b hb => ?_⟩
 obtain ⟨d, hd, rfl⟩ := List.mem_map.1 ha
 have e : b = ⟨x, t⟩ := by simpa using hb
 rw [e]
 exact hx d hd
theorem add_val {s : List Bd} {x : ByteArray} {t : Tm} (h : ApartB s) (hx : ∀ d ∈ s, d.nm ≠ x) (n : ByteArray) : onT (addS s x t) ⟨n, []⟩ = onT [⟨x, t⟩] (onT s ⟨n, []⟩) := by
 rw [onT_leaf (addS s x t)]
 unfold addS
 rw [forT_perm (srtB_perm _) (add_apart h hx), forT_append, forT_put, onT_leaf s]
 cases hf : forT s n with
 | some u => rfl
 | none =>
  show (forT [⟨x, t⟩] n).getD _ = onT [⟨x, t⟩] ⟨n, []⟩
  rw [onT_leaf]
theorem one_vars {x : ByteArray} {t : Tm} (hx : varB x = true) : ∀ d ∈ [(⟨x, t⟩ : Bd)], varB d.nm = true := fun d hd => by
 have e : d = ⟨x, t⟩ := by simpa using hd
 rw [e]; exact hx
theorem OkS.add {s : List Bd} (h : OkS s) {x : ByteArray} {t : Tm} (hx : varB x = true) (hn : ∀ d ∈ s, d.nm ≠ x) (he : errL [t] = 0) (ht : ∀ e ∈ s, ¬ occL e.nm [t]) (ho : ¬ occL x [t]) : OkS (addS s x t) := by
 have O1 : OkS [(⟨x, t⟩ : Bd)] := by
  refine ⟨by simp [ApartB], fun d hd => ?_, fun d hd e hm => ?_⟩
  ·have e : d = ⟨x, t⟩ := by simpa using hd
   rw [e]; exact ⟨hx, he⟩
  ·have e1 : d = ⟨x, t⟩ := by simpa using hd
   have e2 : e = ⟨x, t⟩ := by simpa using hm
   rw [e1, e2]; exact ho
 have hp := srtB_perm (s.map (putB x t) ++ [⟨x, t⟩])
 have hmem : ∀ d ∈ addS s x t, (∃ d0 ∈ s, d = putB x t d0) ∨ d = ⟨x, t⟩ := fun d hd => by
  rcases List.mem_append.1 (hp.subset hd) with hd | hd
  ·obtain ⟨d0, h0, rfl⟩ := List.mem_map.1 hd
   exact Or.inl ⟨d0, h0, rfl⟩
  ·exact Or.inr (by simpa using hd)
 have hnot : ∀ d0 ∈ s, ∀ y, varB y = true → (y = x ∨ ∃ e ∈ s, e.nm = y) → ¬ occL y [onT [⟨x, t⟩] d0.t] := fun d0 h0 y hy hyy hoc => by
  have h1 : occL y (onL [⟨x, t⟩] [d0.t]) := by rw [onL_cons]; simpa [onL] using hoc
  rcases occ_on O1.vars hy [d0.t] (h.2.1 d0 h0).2 h1 with ⟨h2, h3⟩ | ⟨d, hd, h2, h3⟩
  ·rcases hyy with rfl | ⟨e, hm, rfl⟩
   ·simp [forT] at h3
   ·exact h.2.2 d0 h0 e hm h2
  ·have e1 : d = ⟨x, t⟩ := by simpa using hd
   subst e1
   rcases hyy with rfl | ⟨e, hm, rfl⟩
   ·exact ho h3
   ·exact ht e hm h3
 refine ⟨(add_apart h.1 hn).perm hp, fun d hd => ?_, fun d hd e hm => ?_⟩
 ·rcases hmem d hd with ⟨d0, h0, rfl⟩ | rfl
  ·exact ⟨(h.2.1 d0 h0).1, errL_onT2 O1 (h.2.1 d0 h0).2⟩
  ·exact ⟨hx, he⟩
 ·have hy : e.nm = x ∨ ∃ e0 ∈ s, e0.nm = e.nm := by
   rcases hmem e hm with ⟨e0, h0, rfl⟩ | rfl
   ·exact Or.inr ⟨e0, h0, rfl⟩
   ·exact Or.inl rfl
  have hyv : varB e.nm = true := by
   rcases hy with h1 | ⟨e0, h0, h1⟩
   ·rw [h1]; exact hx
   ·rw [← h1]; exact (h.2.1 e0 h0).1
  rcases hmem d hd with ⟨d0, h0, rfl⟩ | rfl
  ·exact hnot d0 h0 e.nm hyv hy
  ·rcases hy with h1 | ⟨e0, h0, h1⟩
   ·rw [h1]; exact ho
   ·rw [← h1]; exact ht e0 h0
theorem add_on {s : List Bd} (h : OkS s) {x : ByteArray} {t : Tm} (hx : varB x = true) (hn : ∀ d ∈ s, d.nm ≠ x) (hs : OkS (addS s x t)) : ∀ l : List Tm, errL l = 0 → onL (addS s x t) l = onL [⟨x, t⟩] (onL s l) := by
 intro l
 induction l using Tm.indL with
 | h0 => intro _; simp [onL]
 | h n l r ihl ihr =>
  intro he
  obtain ⟨g1, g2, g3⟩ := errL_parts he
  rw [onL_cons, onL_cons, onL_cons, ihr g3]
  congr 1
  cases hv : varB n with
  | false => rw [onT_sym2 hs.vars hv, onT_sym2 h.vars hv, onT_sym2 (one_vars hx) hv, ihl g2]
  | true =>
   have e := g1 hv
   subst e
   exact add_val h.1 hn n
def flatP : List Pr → List Tm
 | [] => []
 | p :: l => p.l :: p.r :: flatP l
theorem flatP_append : ∀ a b : List Pr, flatP (a ++ b) = flatP a ++ flatP b
 | [], b => rfl
 | p :: a, b => by rw [List.cons_append, flatP, flatP, flatP_append a b]; rfl
theorem size_cons (t : Tm) (r : List Tm) : sizeL (t :: r) = sizeL [t] + sizeL r := by
 obtain ⟨s, l⟩ := t
 simp [sizeL]
theorem err_two {t : Tm} {r : List Tm} : errL (t :: r) = 0 ↔ errL [t] = 0 ∧ errL r = 0 := by
 rw [errL_cons]
 constructor
 ·intro h
  by_cases e : errL [t] = 0
  ·rw [if_pos e] at h; exact ⟨e, h⟩
  ·rw [if_neg e] at h; exact absurd h e
 ·rintro ⟨h1, h2⟩
  rw [if_pos h1]; exact h2
theorem err_append : ∀ {a b : List Tm}, errL (a ++ b) = 0 ↔ errL a = 0 ∧ errL b = 0
 | [], b => by simp [errL]
 | t :: a, b => by
  rw [List.cons_append, err_two, err_append, err_two (r := a), and_assoc]
theorem zip_occ {y : ByteArray} : ∀ {a b : List Tm}, occL y (flatP (zipP a b)) → occL y a ∨ occL y b
 | [], _, h => by simp only [zipP, flatP] at h; exact absurd h occL_nil
 | _ :: _, [], h => by simp only [zipP, flatP] at h; exact absurd h occL_nil
 | t :: a, u :: b, h => by
  rw [zipP, flatP, occL_cons, occL_cons (t := u)] at h
  rw [occL_cons, occL_cons (t := u)]
  rcases h with h | h | h
  ·exact Or.inl (Or.inl h)
  ·exact Or.inr (Or.inl h)
  ·rcases zip_occ h with h | h
   ·exact Or.inl (Or.inr h)
   ·exact Or.inr (Or.inr h)
theorem zip_size : ∀ {a b : List Tm}, sizeL (flatP (zipP a b)) ≤ sizeL a + sizeL b
 | [], _ => by simp [zipP, flatP, sizeL]
 | _ :: _, [] => by simp [zipP, flatP, sizeL]
 | t :: a, u :: b => by
  rw [zipP, flatP]
  have h0 := zip_size (a := a) (b := b)
  have h1 := size_cons t (u :: flatP (zipP a b))
  have h2 := size_cons u (flatP (zipP a b))
  have h3 := size_cons t a
  have h4 := size_cons u b
  simp only at h1 h2 ⊢
  omega
theorem zip_err : ∀ {a b : List Tm}, errL a = 0 → errL b = 0 → errL (flatP (zipP a b)) = 0
 | [], _, _, _ => by simp [zipP, flatP, errL]
 | _ :: _, [], _, _ => by simp [zipP, flatP, errL]
 | t :: a, u :: b, h1, h2 => by
  rw [zipP, flatP]
  obtain ⟨g1, g2⟩ := err_two.1 h1
  obtain ⟨g3, g4⟩ := err_two.1 h2
  exact err_two.2 ⟨g1, err_two.2 ⟨g3, zip_err g2 g4⟩⟩
def occB (y : ByteArray) (l : List Tm) : Bool := (preL l).any fun k => k.name.toList == y.toList
theorem occB_iff {y : ByteArray} {l : List Tm} : occB y l = true ↔ occL y l := by
 unfold occB occL
 rw [List.any_eq_true]
 constructor
 ·rintro ⟨k, hk, e⟩
  exact ⟨k, hk, bytes_inj (by simpa using e)⟩
 ·rintro ⟨k, hk, e⟩
  exact ⟨k, hk, bytes_yes e⟩
def cntV (V : List ByteArray) (l : List Tm) : Nat := (V.filter fun y => occB y l).length
theorem filter_le {α : Type} {p q : α → Bool} : ∀ V : List α, (∀ y ∈ V, q y = true → p y = true) → (V.filter q).length ≤ (V.filter p).length
 | [], _ => by simp
 | v :: V, h => by
  have ih := filter_le V fun y hy => h y (by simp [hy])
  cases hq : q v with
  | true =>
   rw [List.filter_cons_of_pos hq, List.filter_cons_of_pos (h v (by simp) hq)]
   simp only [List.length_cons]
   omega
  | false =>
   rw [List.filter_cons_of_neg (by rw [hq]; simp)]
   cases hp : p v with
   | true => rw [List.filter_cons_of_pos hp]; simp only [List.length_cons]; omega
   | false => rw [List.filter_cons_of_neg (by rw [hp]; simp)]; exact ih
theorem filter_lt {α : Type} {p q : α → Bool} : ∀ V : List α, (∀ y ∈ V, q y = true → p y = true) → (∃ x ∈ V, p x = true ∧ q x = false) → (V.filter q).length < (V.filter p).length
 | [], _, ⟨x, hx, _⟩ => by cases hx
 | v :: V, h, ⟨x, hx, h1, h2⟩ => by
  have hle := filter_le V fun y hy => h y (by simp [hy])
  rcases List.mem_cons.1 hx with rfl | hx
  ·rw [List.filter_cons_of_neg (by rw [h2]; simp), List.filter_cons_of_pos h1]
   simp only [List.length_cons]
   omega
  ·have ih := filter_lt V (fun y hy => h y (by simp [hy])) ⟨x, hx, h1, h2⟩
   cases hq : q v with
   | true =>
    rw [List.filter_cons_of_pos hq, List.filter_cons_of_pos (h v (by simp) hq)]
    simp only [List.length_cons]
    omega
   | false =>
    rw [List.filter_cons_of_neg (by rw [hq]; simp)]
    cases hp : p v with
    | true => rw [List.filter_cons_of_pos hp]; simp only [List.length_cons]; omega
    | false => rw [List.filter_cons_of_neg (by rw [hp]; simp)]; exact ih
theorem not_inB {x : ByteArray} {t : Tm} (hx : varB x = true) (h : ¬ inB x (varsP [] (preL [t])) = true) : ¬ occL x [t] := by
 rintro ⟨k, hk, e⟩
 have h1 := (varsP_has (preL [t]) []).2 k hk (by rw [e]; exact hx)
 refine h ?_
 unfold inB
 rw [List.any_eq_true]
 exact ⟨k.name, h1, bytes_yes e⟩
theorem bind_facts {s : List Bd} {L : List Tm} {x : ByteArray} {t : Tm} (h : OkS s) (hx : varB x = true) (hn : ∀ d ∈ s, d.nm ≠ x) (he : errL [t] = 0) (ht : ∀ e ∈ s, ¬ occL e.nm [t]) (ho : ¬ occL x [t]) (hL : errL L = 0) :
  OkS (addS s x t) ∧ (∀ y, varB y = true → occL y (onL (addS s x t) L) → occL y (onL s L) ∨ occL y [t]) ∧ ¬ occL x (onL (addS s x t) L) := by
 have h1 := h.add hx hn he ht ho
 have h2 := add_on h hx hn h1 L hL
 have key : ∀ y, varB y = true → occL y (onL (addS s x t) L) → (occL y (onL s L) ∧ forT [⟨x, t⟩] y = none) ∨ occL y [t] := fun y hy hoc => by
  rw [h2] at hoc
  rcases occ_on (one_vars hx) hy _ (errL_on2 h L hL) hoc with h3 | ⟨d, hd, _, h4⟩
  ·exact Or.inl h3
  ·have e : d = ⟨x, t⟩ := by simpa using hd
   rw [e] at h4
   exact Or.inr h4
 refine ⟨h1, fun y hy hoc => (key y hy hoc).imp (fun h => h.1) id, fun hoc => ?_⟩
 rcases key x hx hoc with ⟨_, h3⟩ | h3
 ·simp [forT] at h3
 ·exact ho h3
theorem u_ends (V : List ByteArray) : ∀ (c z : Nat) (s : List Bd) (l : List Pr), OkS s → errL (flatP l) = 0 → (∀ y, varB y = true → occL y (onL s (flatP l)) → y ∈ V) → cntV (V.filter varB) (onL s (flatP l)) ≤ c → sizeL (onL s (flatP l)) ≤ z → ∃ n r, uRun false n s l = some r := by
 intro c
 induction c using Nat.strongRecOn with
 | _ c ihc =>
  intro z
  induction z using Nat.strongRecOn with
  | _ z ihz =>
   intro s l hs he hV hc hz
   have stop : ∀ e s', uNext false s l = .stop e s' → ∃ n r, uRun false n s l = some r := fun e s' h => ⟨1, (e, s'), by rw [uRun, h]⟩
   have go : ∀ s' l', uNext false s l = .go s' l' → (∃ n r, uRun false n s' l' = some r) → ∃ n r, uRun false n s l = some r := fun s' l' h ⟨n, r, h2⟩ => ⟨n + 1, r, by rw [uRun, h]; exact h2⟩
   cases l with
   | nil => exact stop 0 s rfl
   | cons p l =>
    obtain ⟨e1, e2⟩ := err_two.1 he
    obtain ⟨e2, e3⟩ := err_two.1 e2
    have ea := errL_onT2 hs e1
    have eb := errL_onT2 hs e2
    have ga := hs.goneT e1
    have gb := hs.goneT e2
    rw [flatP, onL_cons, onL_cons] at hV hc hz
    rw [uNext_cons] at stop go
    generalize onT s p.l = a at *
    generalize onT s p.r = b at *
    have hself : ∀ u : Tm, occL u.name [u] := fun u => by obtain ⟨n, k⟩ := u; exact occL_node.2 (Or.inl rfl)
    have inA : ∀ y, occL y [a] → occL y (a :: b :: onL s (flatP l)) := fun y h => occL_cons.2 (Or.inl h)
    have inBb : ∀ y, occL y [b] → occL y (a :: b :: onL s (flatP l)) := fun y h => occL_cons.2 (Or.inr (occL_cons.2 (Or.inl h)))
    have inL : ∀ y, occL y (onL s (flatP l)) → occL y (a :: b :: onL s (flatP l)) := fun y h => occL_cons.2 (Or.inr (occL_cons.2 (Or.inr h)))
    have hsz : sizeL (a :: b :: onL s (flatP l)) = sizeL [a] + (sizeL [b] + sizeL (onL s (flatP l))) := by rw [size_cons, size_cons b]
    have pa := sizeL_pos a
    have pb := sizeL_pos b
    have same : ∀ l2, errL (flatP l2) = 0 → (∀ y, occL y (onL s (flatP l2)) → occL y (a :: b :: onL s (flatP l))) → sizeL (onL s (flatP l2)) < sizeL (a :: b :: onL s (flatP l)) → ∃ n r, uRun false n s l2 = some r := fun l2 h1 h2 h3 =>
     ihz _ (Nat.lt_of_lt_of_le h3 hz) s l2 hs h1 (fun y hy ho => hV y hy (h2 y ho)) (Nat.le_trans (filter_le _ fun y hy hq => occB_iff.2 (h2 y (occB_iff.1 hq))) hc) (Nat.le_refl _)
    have bind : ∀ x t, varB x = true → (∀ d ∈ s, d.nm ≠ x) → errL [t] = 0 → (∀ e ∈ s, ¬ occL e.nm [t]) → occL x (a :: b :: onL s (flatP l)) → (∀ y, occL y [t] → occL y (a :: b :: onL s (flatP l))) → uPair false s l a b = uBind false s l x t → ∃ n r, uRun false n s (p :: l) = some r := fun x t hx hn het ht hox hot h => by
     unfold uBind at h
     by_cases hin : inB x (varsP [] (preL [t])) = true
     ·rw [if_pos hin] at h
      exact stop 6 s h
     ·rw [if_neg hin, if_neg (by simp)] at h
      have ho := not_inB hx hin
      obtain ⟨f1, f2, f3⟩ := bind_facts (L := flatP l) hs hx hn het ht ho e3
      have f2' : ∀ y, varB y = true → occL y (onL (addS s x t) (flatP l)) → occL y (a :: b :: onL s (flatP l)) := fun y hy hoc => (f2 y hy hoc).elim (inL y) (hot y)
      have hlt : cntV (V.filter varB) (onL (addS s x t) (flatP l)) < c := by
       refine Nat.lt_of_lt_of_le (filter_lt _ (fun y hy hq => occB_iff.2 (f2' y (List.mem_filter.1 hy).2 (occB_iff.1 hq))) ⟨x, List.mem_filter.2 ⟨hV x hx hox, hx⟩, occB_iff.2 hox, ?_⟩) hc
       cases hq : occB x (onL (addS s x t) (flatP l)) with
       | false => rfl
       | true => exact absurd (occB_iff.1 hq) f3
      exact go _ l h (ihc _ hlt _ _ _ f1 e3 (fun y hy hoc => hV y hy (f2' y hy hoc)) (Nat.le_refl _) (Nat.le_refl _))
    by_cases h1 : 2000 < sizeL [a] ∨ 2000 < sizeL [b]
    ·exact stop 8 s (by unfold uPair; rw [if_pos h1])
    ·by_cases h2 : varB a.name = true
     ·by_cases h3 : a.name = b.name
      ·exact go s l (by unfold uPair; rw [if_neg h1, if_pos h2, if_pos h3]) (same l e3 inL (by omega))
      ·exact bind a.name b h2 (fun d hd e => ga d hd (by rw [e]; exact hself a)) eb gb (inA _ (hself a)) inBb (by unfold uPair; rw [if_neg h1, if_pos h2, if_neg h3])
     ·by_cases h3 : varB b.name = true
      ·exact bind b.name a h3 (fun d hd e => gb d hd (by rw [e]; exact hself b)) ea ga (inBb _ (hself b)) inA (by unfold uPair; rw [if_neg h1, if_neg h2, if_pos h3])
      ·by_cases h4 : a.name = b.name ∧ a.args.length = b.args.length
       ·refine go s (zipP a.args b.args ++ l) (by unfold uPair; rw [if_neg h1, if_neg h2, if_neg h3, if_pos h4]) ?_
        have sub : ∀ (u : Tm) y, occL y u.args → occL y [u] := fun u y h => by obtain ⟨n, k⟩ := u; exact occL_node.2 (Or.inr (Or.inl h))
        have erg : ∀ u : Tm, errL [u] = 0 → errL u.args = 0 := fun u h => by obtain ⟨n, k⟩ := u; exact (errL_parts h).2.1
        have szg : ∀ u : Tm, sizeL [u] = 1 + sizeL u.args := fun u => by obtain ⟨n, k⟩ := u; simp [sizeL]
        have hfl : onL s (flatP (zipP a.args b.args ++ l)) = flatP (zipP a.args b.args) ++ onL s (flatP l) := by
         rw [flatP_append, onL_append, onL_id]
         intro e hm hoc
         rcases zip_occ hoc with hoc | hoc
         ·exact ga e hm (sub a _ hoc)
         ·exact gb e hm (sub b _ hoc)
        refine same _ ?_ ?_ ?_
        ·rw [flatP_append]
         exact err_append.2 ⟨zip_err (erg a ea) (erg b eb), e3⟩
        ·intro y hoc
         rw [hfl] at hoc
         rcases occL_append.1 hoc with hoc | hoc
         ·rcases zip_occ hoc with hoc | hoc
          ·exact inA y (sub a y hoc)
          ·exact inBb y (sub b y hoc)
         ·exact inL y hoc
        ·rw [hfl, sizeL_append, hsz, szg a, szg b]
         have := zip_size (a := a.args) (b := b.args)
         omega
       ·exact stop 5 s (by unfold uPair; rw [if_neg h1, if_neg h2, if_neg h3, if_neg h4])
theorem u_ends0 (l : List Pr) (h : errL (flatP l) = 0) : ∃ n r, uRun false n [] l = some r := by
 refine u_ends ((preL (onL [] (flatP l))).map (·.name)) _ _ [] l okS_nil h (fun y _ hoc => ?_) (Nat.le_refl _) (Nat.le_refl _)
 obtain ⟨k, hk, e⟩ := hoc
 exact List.mem_map.2 ⟨k, hk, e⟩
def sAt (h : List (ByteArray × Tm)) : List Bd := h.foldl (fun s p => addS s p.1 p.2) []
theorem sAt_snoc (h : List (ByteArray × Tm)) (p : ByteArray × Tm) : sAt (h ++ [p]) = addS (sAt h) p.1 p.2 := by simp [sAt]
theorem sAt_take {h : List (ByteArray × Tm)} {j : Nat} (hj : j < h.length) : sAt (h.take (j + 1)) = addS (sAt (h.take j)) h[j].1 h[j].2 := by
 rw [List.take_succ_eq_append_getElem hj, sAt_snoc]
def MayAdd (s : List Bd) (x : ByteArray) (t : Tm) : Prop := varB x = true ∧ (∀ d ∈ s, d.nm ≠ x) ∧ errL [t] = 0 ∧ (∀ e ∈ s, ¬ occL e.nm [t]) ∧ ¬ occL x [t]
def GoodH (h : List (ByteArray × Tm)) : Prop := ∀ j (hj : j < h.length), MayAdd (sAt (h.take j)) h[j].1 h[j].2
theorem goodH_nil : GoodH [] := fun j hj => by simp at hj
theorem GoodH.snoc {h : List (ByteArray × Tm)} (g : GoodH h) {x : ByteArray} {t : Tm} (m : MayAdd (sAt h) x t) : GoodH (h ++ [(x, t)]) := by
 intro j hj
 by_cases e : j < h.length
 ·have h1 := g j e
  rw [List.take_append_of_le_length (by omega)]
  rw [List.getElem_append_left e]
  exact h1
 ·have e2 : j = h.length := by simp at hj; omega
  subst e2
  rw [List.take_append_of_le_length (by omega), List.take_length]
  simpa using m
theorem GoodH.ok {h : List (ByteArray × Tm)} (g : GoodH h) : ∀ j, j ≤ h.length → OkS (sAt (h.take j))
 | 0, _ => by simpa [sAt] using okS_nil
 | j + 1, hj => by
  rw [sAt_take (by omega)]
  obtain ⟨m1, m2, m3, m4, m5⟩ := g j (by omega)
  exact (g.ok j (by omega)).add m1 m2 m3 m4 m5
theorem GoodH.all {h : List (ByteArray × Tm)} (g : GoodH h) : OkS (sAt h) := by
 have := g.ok h.length (Nat.le_refl _)
 rwa [List.take_length] at this
theorem GoodH.absorb {h : List (ByteArray × Tm)} (g : GoodH h) {i : Nat} : ∀ j, i ≤ j → j ≤ h.length → ∀ L : List Tm, errL L = 0 → onL (sAt (h.take j)) (onL (sAt (h.take i)) L) = onL (sAt (h.take j)) L
 | 0, hi, _, L, he => by
  have e : i = 0 := by omega
  subst e
  exact (g.ok 0 (Nat.zero_le _)).idem he
 | j + 1, hi, hj, L, he => by
  by_cases e : i = j + 1
  ·subst e
   exact (g.ok _ hj).idem he
  ·have ih := g.absorb (i := i) j (by omega) (by omega) L he
   have o1 := g.ok j (by omega)
   have o2 := g.ok (j + 1) hj
   have hjl2 : j < h.length := by omega
   obtain ⟨m1, m2, _⟩ := g j hjl2
   rw [sAt_take (h := h) (j := j) (by omega)] at o2 ⊢
   rw [add_on o1 m1 m2 o2 _ (errL_on2 (g.ok i (by omega)) L he), add_on o1 m1 m2 o2 L he, ih]
theorem GoodH.bound {h : List (ByteArray × Tm)} (g : GoodH h) : ∀ j, j ≤ h.length → ∀ y, (∃ d ∈ sAt (h.take j), d.nm = y) ↔ ∃ i, ∃ hi : i < h.length, i < j ∧ h[i].1 = y
 | 0, _, y => by simp [sAt]
 | j + 1, hj, y => by
  have ih := g.bound j (by omega) y
  rw [sAt_take (by omega)]
  have hp := srtB_perm ((sAt (h.take j)).map (putB h[j].1 h[j].2) ++ [⟨h[j].1, h[j].2⟩])
  constructor
  ·rintro ⟨d, hd, e⟩
   rcases List.mem_append.1 (hp.subset hd) with hd | hd
   ·obtain ⟨d0, h0, rfl⟩ := List.mem_map.1 hd
    obtain ⟨i, hi, h1, h2⟩ := ih.1 ⟨d0, h0, e⟩
    exact ⟨i, hi, by omega, h2⟩
   ·have e2 : d = ⟨h[j].1, h[j].2⟩ := by simpa using hd
    rw [e2] at e
    exact ⟨j, by omega, by omega, e⟩
  ·rintro ⟨i, hi, h1, h2⟩
   by_cases e : i = j
   ·subst e
    exact ⟨⟨h[i].1, h[i].2⟩, hp.symm.subset (by simp), h2⟩
   ·obtain ⟨d0, h0, e0⟩ := ih.2 ⟨i, hi, by omega, h2⟩
    exact ⟨putB h[j].1 h[j].2 d0, hp.symm.subset (List.mem_append.2 (Or.inl (List.mem_map.2 ⟨d0, h0, rfl⟩))), e0⟩
theorem GoodH.once {h : List (ByteArray × Tm)} (g : GoodH h) {i j : Nat} (hi : i < h.length) (hj : j < h.length) (e : h[i].1 = h[j].1) : i = j := by
 have key : ∀ a b (ha : a < h.length) (hb : b < h.length), a < b → h[a].1 ≠ h[b].1 := fun a b ha hb hab e => by
  obtain ⟨d, hd, e1⟩ := (g.bound b (by omega) h[a].1).2 ⟨a, ha, hab, rfl⟩
  exact (g b hb).2.1 d hd (e1.trans e)
 rcases Nat.lt_trichotomy i j with h1 | h1 | h1
 ·exact absurd e (key i j hi hj h1)
 ·exact h1
 ·exact absurd e.symm (key j i hj hi h1)
def stood (h : List (ByteArray × Tm)) (i j : Nat) (hi : i < h.length) : Tm := onT (sAt (h.take j)) ⟨h[i].1, []⟩
theorem onT_absorb {h : List (ByteArray × Tm)} (g : GoodH h) {i j : Nat} (hij : i ≤ j) (hj : j ≤ h.length) {t : Tm} (he : errL [t] = 0) : onT (sAt (h.take j)) (onT (sAt (h.take i)) t) = onT (sAt (h.take j)) t := by
 have h1 := g.absorb j hij hj [t] he
 rw [onL_cons, onL_cons, onL_cons] at h1
 simpa [onL] using h1
theorem stood_on {h : List (ByteArray × Tm)} (g : GoodH h) {i j : Nat} (hi : i < h.length) (hj : j ≤ h.length) (hn : nameB h[i].1 = true) : onT (sAt h) (stood h i j hi) = stood h i h.length hi := by
 have h1 := onT_absorb g hj (Nat.le_refl _) (err_leaf hn)
 unfold stood
 rw [List.take_length] at h1 ⊢
 exact h1
theorem stood_later {h : List (ByteArray × Tm)} (g : GoodH h) {i j k : Nat} (hi : i < h.length) (hj : j ≤ h.length) (hn : nameB h[i].1 = true) (hk : k < h.length) (ho : occL h[k].1 [stood h i j hi]) : j ≤ k := by
 rcases Nat.lt_or_ge k j with h1 | h1
 ·obtain ⟨d, hd, e⟩ := (g.bound j hj h[k].1).2 ⟨k, hk, h1, rfl⟩
  have h2 := (g.ok j hj).goneT (err_leaf hn) d hd
  rw [e] at h2
  exact absurd ho h2
 ·exact h1
structure ExQ (Q : Nat → Prop) (w w' : World) : Prop where
 os : w'.os = w.os
 tape : w'.tape = w.tape
 output : w'.output = w.output
 size : w.heap.size ≤ w'.heap.size
 block : ∀ k, k < w.heap.size → ¬ Q k → w'.heap[k]? = w.heap[k]?
theorem ExQ.refl (Q : Nat → Prop) (w : World) : ExQ Q w w := ⟨rfl, rfl, rfl, Nat.le_refl _, fun _ _ _ => rfl⟩
theorem ExQ.trans {Q : Nat → Prop} {a b c : World} (h : ExQ Q a b) (k : ExQ Q b c) : ExQ Q a c :=
 ⟨k.os.trans h.os, k.tape.trans h.tape, k.output.trans h.output, Nat.le_trans h.size k.size, fun i hi hn => (k.block i (Nat.lt_of_lt_of_le hi h.size) hn).trans (h.block i hi hn)⟩
theorem ExQ.transN {Q R : Nat → Prop} {a b c : World} (h : ExQ Q a b) (k : ExQ R b c) (hR : ∀ i, R i → i < a.heap.size → Q i) : ExQ Q a c :=
 ⟨k.os.trans h.os, k.tape.trans h.tape, k.output.trans h.output, Nat.le_trans h.size k.size, fun i hi hn => (k.block i (Nat.lt_of_lt_of_le hi h.size) (fun hr => hn (hR i hr hi))).trans (h.block i hi hn)⟩
theorem ExQ.mono {Q R : Nat → Prop} {a b : World} (h : ExQ Q a b) (hR : ∀ i, Q i → i < a.heap.size → R i) : ExQ R a b := ⟨h.os, h.tape, h.output, h.size, fun i hi hn => h.block i hi (fun hq => hn (hR i hq hi))⟩
theorem ExQ.drewN {Q : Nat → Prop} {a w : World} (h : ExQ Q a w) (n : Nat) : ExQ Q a (w.drewN n) := ⟨h.os, h.tape, h.output, h.size, h.block⟩
theorem ExQ.drew {Q : Nat → Prop} {a w : World} (h : ExQ Q a w) : ExQ Q a w.drew := ⟨h.os, h.tape, h.output, h.size, h.block⟩
theorem ExQ.set {Q : Nat → Prop} {a w : World} (h : ExQ Q a w) {B : Nat} (hB : Q B) (i : Nat) (v : Value) : ExQ Q a (w.setCell ⟨B, i, none⟩ v) :=
 ⟨h.os, h.tape, h.output, by simpa [World.setCell] using h.size, fun k hk hn => (Below.heap_setCell _ _ _ _ (by simp; intro e; subst e; exact hn hB)).trans (h.block k hk hn)⟩
theorem ExQ.alloc {Q : Nat → Prop} {a w : World} (h : ExQ Q a w) (o : Obj) : ExQ Q a (w.alloc o) :=
 ⟨h.os, h.tape, h.output, by have := h.size; simp; omega, fun k hk hn => (Below.heap_alloc _ _ _ (Nat.lt_of_lt_of_le hk h.size)).trans (h.block k hk hn)⟩
theorem ExQ.grown {Q : Nat → Prop} {a w w' : World} {row : Option Nat} (h : ExQ Q a w) (hg : w.grownBy w' row) (hr : ∀ k, row = some k → a.heap.size ≤ k ∨ Q k) : ExQ Q a w' :=
 ⟨hg.os.trans h.os, hg.tape.trans h.tape, hg.output.trans h.output, Nat.le_trans h.size hg.size, fun k hk hn => (hg.block k (Nat.lt_of_lt_of_le hk h.size) (fun e => by rcases hr k e.symm with h1 | h1; omega; exact hn h1)).trans (h.block k hk hn)⟩
theorem ExQ.setNew {Q : Nat → Prop} {a w : World} (h : ExQ Q a w) {b : Nat} (hb : a.heap.size ≤ b) (i : Nat) (v : Value) : ExQ Q a (w.setCell ⟨b, i, none⟩ v) :=
 ⟨h.os, h.tape, h.output, by simpa [World.setCell] using h.size, fun k hk hn => (Below.heap_setCell _ _ _ _ (by simp; omega)).trans (h.block k hk hn)⟩
theorem ExQ.ofBelow {Q : Nat → Prop} {w w' : World} (h : Below w.heap.size w w') : ExQ Q w w' := ⟨h.os, h.tape, h.output, h.size, fun k hk _ => h.block k hk⟩
theorem ExQ.ofEx {Q : Nat → Prop} {B : Nat} {w w' : World} (h : Ex B w w') (hB : Q B) : ExQ Q w w' := ⟨h.os, h.tape, h.output, h.size, fun k hk hn => h.block k hk (fun e => hn (by rw [e]; exact hB))⟩
theorem ExQ.below {Q : Nat → Prop} {w w' : World} {B : Nat} (h : ExQ Q w w') (hB : B ≤ w.heap.size) (hQ : ∀ b, Q b → B ≤ b) : Below B w w' :=
 ⟨h.os, h.tape, h.output, h.size, fun k hk => h.block k (by omega) (fun hq => by have := hQ k hq; omega)⟩
theorem Blk.exq {w w' : World} {Q : Nat → Prop} {b T : Nat} {cs : Array Value} (h : Blk w b cs T) (he : ExQ Q w w') (hne : ¬ Q b) : Blk w' b cs T := by
 unfold Blk at *
 rw [he.block b (Blk.lt h) hne]; exact h
theorem Sl.exq {w w' : World} {Q X : Nat → Prop} {a : Option Addr} {l : List Tm} (h : Sl w X a l) (he : ExQ Q w w') (hX : ∀ b, X b → ¬ Q b) : Sl w' X a l :=
 ((h.mono (Y := fun b => X b ∧ b < w.heap.size) fun b h1 h2 => ⟨h1, h2⟩).kept fun b hb => he.block b hb.2 (hX b hb.1)).mono fun b hb _ => hb.1
theorem ExQ.mid {Q : Nat → Prop} {w w1 : World} (h : ExQ Q w w1) : ∃ wm, Below wm.heap.size wm w1 ∧ wm.heap.size = w.heap.size ∧ ExQ Q w wm := by
 have hs := h.size
 have hz : (w1.heap.extract 0 w.heap.size).size = w.heap.size := by simp; omega
 refine ⟨{ w1 with heap := w1.heap.extract 0 w.heap.size }, ⟨rfl, rfl, rfl, by simp; omega, fun k hk => ?_⟩, hz, ⟨h.os, h.tape, h.output, by simp [hz], fun k hk hn => ?_⟩⟩
 ·have hk2 : k < w.heap.size := by simp at hk; omega
  simp [Array.getElem?_extract, hk2]
  omega
 ·rw [← h.block k hk hn]
  simp [Array.getElem?_extract, hk]
  omega
theorem ownsRow_at {w w' : World} {base e size n : Nat} {v : Value} {xs : List Value} (h : w.ownsRow base e size v n xs) (hk : ∀ g, v.ownBlock = some g → w'.heap[g]? = w.heap[g]?) : w'.ownsRow base e size v n xs := by
 obtain ⟨hl, h1⟩ := h
 refine ⟨hl, ?_⟩
 rcases h1 with h1 | ⟨g, cap, cur, hv, hg, hh, hr⟩
 ·exact Or.inl h1
 ·refine Or.inr ⟨g, cap, cur, hv, hg, ?_, hr⟩
  rw [hk g (by rw [hv]; rfl)]
  exact hh
theorem Row.exq {w w' : World} {Q : Nat → Prop} {N T : Nat} {Y : Nat → Prop} {v : Value} {l : List Tm} {xs : List Value} (h : Row w N T Y v l xs) (he : ExQ Q w w') (hQ : ∀ b, Q b → b < N) (hY : ∀ b, Q b → ¬ Y b) : Row w' N T Y v l xs :=
 ⟨ownsRow_at h.own fun g hg => he.block g (h.own.lt g hg).2 (fun hq => by have := hQ g hq; have := (h.own.lt g hg).1; omega),
  h.row.imp fun a l hs => hs.exq he fun b hb hq => by
   rcases hb with h1 | h1
   ·exact hY b hq h1
   ·have := hQ b hq; omega⟩
theorem BRow.exq {w w' : World} {Q : Nat → Prop} {N : Nat} {Y : Nat → Prop} {v : Value} {cs : List Bc} (h : BRow w N Y v cs) (he : ExQ Q w w') (hQ : ∀ b, Q b → b < N) (hY : ∀ b, Q b → ¬ Y b) : BRow w' N Y v cs :=
 ⟨ownsRow_at h.own fun g hg => he.block g (h.own.lt g hg).2 (fun hq => by have := hQ g hq; have := (h.own.lt g hg).1; omega),
  fun x hx => (h.row x hx).exq he fun b hb hq => by
   rcases hb with h1 | h1
   ·exact hY b hq h1
   ·have := hQ b hq; omega⟩
def gN (lk : ByteArray → Option Tm) (s : ByteArray) (bs : List Tm) : Tm := if varB s = true then (match lk s with | some x => x | none => ⟨s, bs⟩) else ⟨s, bs⟩
def gL (lk : ByteArray → Option Tm) : List Tm → List Tm
 | [] => []
 | ⟨s, a⟩ :: r => gN lk s (gL lk a) :: gL lk r
def gT (lk : ByteArray → Option Tm) (t : Tm) : Tm := gN lk t.name (gL lk t.args)
theorem gL_map (lk : ByteArray → Option Tm) : ∀ l : List Tm, gL lk l = l.map (gT lk)
 | [] => by simp [gL]
 | ⟨s, a⟩ :: r => by rw [gL, gL_map lk r]; rfl
theorem gL_append (lk : ByteArray → Option Tm) (a b : List Tm) : gL lk (a ++ b) = gL lk a ++ gL lk b := by simp [gL_map]
abbrev Ev := Bool → (Nat → Prop) → World → Prop
structure EvOk (E : Ev) (Mt : Nat → Prop) : Prop where
 keep : ∀ f Y w w', E f Y w → (∀ b, Y b → w'.heap[b]? = w.heap[b]?) → E f Y w'
 inY : ∀ f Y w, E f Y w → ∀ b, Y b → b < w.heap.size
 mt : ∀ f Y w, E f Y w → ∀ b, Mt b → Y b
theorem EvOk.below {E : Ev} {Mt : Nat → Prop} (h : EvOk E Mt) {f : Bool} {Y : Nat → Prop} {w w' : World} (he : E f Y w) (hb : Below w.heap.size w w') : E f Y w' := h.keep f Y w w' he fun b hy => hb.block b (h.inY f Y w he b hy)
def sV (S : Nat) : Value := .func (.func 129) #[.pointer (some ⟨S, 0, none⟩)] #[]
def LkPost (E : Ev) (Mt : Nat → Prop) (o : Option Tm) (f : Bool) (Y : Nat → Prop) (w : World) (e : Ending) (w' : World) : Prop :=
 ∃ (s : ByteArray) (a : Option Addr) (n c : Nat) (ok : Bool) (f' : Bool) (Y' : Nat → Prop), e = .returned (.tuple #[.agg #[.string s, .slice a n c], .bool ok]) ∧ E f' Y' w' ∧ (∀ b, Y' b → Y b ∨ w.heap.size ≤ b) ∧ (f = true → f' = true) ∧ ExQ Mt w w' ∧
  ((ok = true ∧ ∃ x : Tm, s = x.name ∧ n = x.args.length ∧ Sl w' Y' a x.args ∧ (f' = false → o = some x)) ∨ (ok = false ∧ (f' = false → o = none)))
def LkC (E : Ev) (Mt : Nat → Prop) (S : Nat) (o : Option Tm) (nm : ByteArray) : Prop :=
 ∀ (f : Bool) (Y : Nat → Prop) (w : World), E f Y w → Calls Tryz.prog 129 #[.pointer (some ⟨S, 0, none⟩), .string nm] w fun e w' => LkPost E Mt o f Y w e w'
def FlC (w : World) (tgt : Tm) (n : Nat) (f' : Bool) (s' : ByteArray) (a' : Option Addr) (l' : Nat) (m : Int) (k : Nat) (w' : World) : Prop :=
 (∃ y : Tm, s' = y.name ∧ l' = y.args.length ∧ m = (n : Int) - sizeL [y] ∧ sizeL [y] ≤ n ∧ Sl w' (fun b => w.heap.size + k ≤ b) a' y.args ∧ (f' = false → y = tgt)) ∨ (m = -1 ∧ (f' = false → n < sizeL [tgt]))
def FlPost (E : Ev) (Mt : Nat → Prop) (F : Nat) (sv : Value) (tgt : Tm) (n : Nat) (f : Bool) (Y : Nat → Prop) (w : World) (e : Ending) (w' : World) : Prop :=
 ∃ (s' : ByteArray) (a' : Option Addr) (l' c' : Nat) (m : Int) (f' : Bool) (Y' : Nat → Prop), e = .returned (.agg #[.string s', .slice a' l' c']) ∧ Blk w' F #[.int .i64 m, sv] 191 ∧ ExQ (fun b => b = F ∨ Mt b) w w' ∧ E f' Y' w' ∧ (∀ b, Y' b → Y b ∨ w.heap.size ≤ b) ∧ (f = true → f' = true) ∧ FlC w tgt n f' s' a' l' m 0 w'
theorem fl_end {E : Ev} {Mt : Nat → Prop} (hE : EvOk E Mt) {w w9 : World} {F : Nat} {sv : Value} {tgt : Tm} {n : Nat} {f f' : Bool} {Y Y' : Nat → Prop} {s' : ByteArray} {a' : Option Addr} {l' c' : Nat} {m : Int} {v0 v1 : Value} (hF : F < w.heap.size) (hY : ∀ b, Y b → b < w.heap.size)
  (h1 : Blk w9 F #[.int .i64 m, sv] 191) (hx : ExQ (fun b => b = F ∨ Mt b) w w9) (hE9 : E f' Y' w9) (hsub : ∀ b, Y' b → Y b ∨ w.heap.size + 2 ≤ b) (hff : f = true → f' = true) (hc : FlC w tgt n f' s' a' l' m 2 w9) :
  FlPost E Mt F sv tgt n f Y w (.returned (.agg #[.string s', .slice a' l' c'])) ((w9.setCell ⟨w.heap.size + 1, 0, none⟩ v0).setCell ⟨w.heap.size + 1, 1, none⟩ v1) := by
 have hk : ∀ b, b ≠ w.heap.size + 1 → ((w9.setCell ⟨w.heap.size + 1, 0, none⟩ v0).setCell ⟨w.heap.size + 1, 1, none⟩ v1).heap[b]? = w9.heap[b]? := fun b hb => by
  rw [Below.heap_setCell _ _ _ _ (by simpa using hb), Below.heap_setCell _ _ _ _ (by simpa using hb)]
 refine ⟨s', a', l', c', m, f', Y', rfl, (h1.setOther _ _ (by omega)).setOther _ _ (by omega), (hx.setNew (by omega) _ _).setNew (by omega) _ _, hE.keep _ _ _ _ hE9 fun b hb => hk b fun e => ?_, fun b hb => ?_, hff, ?_⟩
 ·rcases hsub b hb with h | h
  ·have := hY b h; omega
  ·omega
 ·rcases hsub b hb with h | h
  ·exact Or.inl h
  ·exact Or.inr (by omega)
 ·rcases hc with ⟨y, e1, e2, e3, e4, e5, e6⟩ | hc
  ·exact Or.inl ⟨y, e1, e2, e3, e4, (e5.kept fun b hb => hk b (by omega)).mono fun b hb _ => by omega, e6⟩
  ·exact Or.inr hc
theorem wayq1 {Q : Nat → Prop} {w0 w1 : World} (h : ExQ Q w0.drew w1) : ExQ Q w0 w1 := ((ExQ.refl Q w0).drew).trans h
theorem wayq2 {Q : Nat → Prop} {w0 w1 : World} {o : Obj} (h : ExQ Q (w0.alloc o).drew w1) : ExQ Q w0 w1 := (((ExQ.refl Q w0).alloc o).drew).trans h
theorem wayq2b {Q : Nat → Prop} {w0 w1 : World} {cs : Array Value} {T : Nat} (h : ExQ Q (w0.alloc (.cells cs T)).drew w1) (hQ : ¬ Q w0.heap.size) : Blk w1 w0.heap.size cs T := ((Blk.new w0 cs T).drewN 1).exq h hQ
set_option maxHeartbeats 1000000 in
theorem ffillL_of {E : Ev} {Mt : Nat → Prop} (hE : EvOk E Mt) (F S : Nat) (lk : ByteArray → Option Tm) (t : Tm) (n : Nat) (a : Option Addr) (c : Nat) (w : World) (X Y : Nat → Prop) (f : Bool) (hn : n ≤ 1000000) (hXF : ∀ b, X b → b ≠ F ∧ ¬ Mt b) (hYF : ¬ Y F) (hs : Sl w X a t.args) (hF : Blk w F #[.int .i64 (n : Int), sV S] 191) (hEv : E f Y w)
  (hL : varB t.name = true → LkC E Mt S (lk t.name) t.name)
  (h : ∀ (w' : World) (f' : Bool) (Y' : Nat → Prop), Sl w' X a t.args → Blk w' F #[.int .i64 (n : Int), sV S] 191 → E f' Y' w' → ¬ Y' F → Calls Tryz.prog 147 #[.pointer (some ⟨F, 0, none⟩), .agg #[.string t.name, .slice a t.args.length c], .func (.func 136) #[.pointer (some ⟨F, 0, none⟩)] #[]] w' fun e w'' => FlPost E Mt F (sV S) ⟨t.name, gL lk t.args⟩ n f' Y' w' e w'') :
  Calls Tryz.prog 136 #[.pointer (some ⟨F, 0, none⟩), .agg #[.string t.name, .slice a t.args.length c]] w fun e w' => FlPost E Mt F (sV S) (gT lk t) n f Y w e w' := by
 have hmf : ∀ (fn : Fn) (first cap : Array Value) (w : World), (Instr.makeFunc fn first cap).run Tryz.prog w = .ok (.func fn first cap) w := fun _ _ _ _ => rfl
 have H := hide h
 have HS := hide hs
 have HF := hide hF
 have HE := hide hEv
 have HL := hide hL
 have HXF := hide hXF
 have hFl : F < w.heap.size := hF.lt
 have HYW : Hid (∀ b, Y b → b < w.heap.size) := hE.inY _ _ _ hEv
 have HMT : Hid (∀ b, Mt b → Y b) := hE.mt _ _ _ hEv
 have hFM : ¬ Mt F := fun h => hYF (HMT.out F h)
 clear h hs hF hEv hL hXF
 have HB0 := hide (((Below.refl w.heap.size w).alloc (Nat.le_refl _) (.cells #[.string t.name, .slice a t.args.length c] 26)).alloc (by simp) (.cells #[.string ⟨#[]⟩, .slice none 0 0] 26))
 have f1 : ∀ o o', ((w.alloc o).alloc o').cell? ⟨F, 1, none⟩ = some (sV S) := fun o o' => ((HF.out.alloc o).alloc o').cell 1
 have RW : Hid (Blk ((w.alloc (.cells #[.string t.name, .slice a t.args.length c] 26)).alloc (.cells #[.string ⟨#[]⟩, .slice none 0 0] 26)) (w.heap.size + 1) #[.string ⟨#[]⟩, .slice none 0 0] 26) := by
  have h := Blk.new (w.alloc (.cells #[.string t.name, .slice a t.args.length c] 26)) #[.string ⟨#[]⟩, .slice none 0 0] 26
  unfold Hid
  simpa using h
 have EXW := hide (((ExQ.refl (fun b => b = F ∨ Mt b) w).alloc (.cells #[.string t.name, .slice a t.args.length c] 26)).alloc (.cells #[.string ⟨#[]⟩, .slice none 0 0] 26))
 have hW2 : Hid (((w.alloc (.cells #[.string t.name, .slice a t.args.length c] 26)).alloc (.cells #[.string ⟨#[]⟩, .slice none 0 0] 26)).heap.size = w.heap.size + 2) := by unfold Hid; simp
 have hR1 : ¬ (w.heap.size + 1 = F ∨ Mt (w.heap.size + 1)) := fun h => by
  rcases h with h | h
  ·omega
  ·have := HYW.out _ (HMT.out _ h); omega
 cases hv : varB t.name with
 | false =>
  have HV := hide hv
  have HT : Hid (gT lk t = ⟨t.name, gL lk t.args⟩) := by unfold Hid gT gN; rw [hv]; rfl
  clear hv
  go_enter Tryz.func136, Tryz.ntmps136
  go_wp2_with (go_at_call 52; refine (isVariable_all _ _).mono ?_; rintro e w' ⟨rfl, rfl⟩; rw [HV.out])
  refine (H.out _ f Y (HS.out.later HB0.out) (by exact (HF.out.alloc _).alloc _) (hE.below HE.out HB0.out) hYF).mono ?_
  rintro e w9 ⟨s', a', l', c', m, f', Y', rfl, hF1, hx1, hE1, hsub1, hff1, hc1⟩
  have R9 := hide (RW.out.exq hx1 hR1)
  have HX9 := hide (EXW.out.trans hx1)
  have HF9 := hide hF1
  have HE9 := hide hE1
  have HSUB := hide hsub1
  have HFF := hide hff1
  have HC := hide hc1
  clear hF1 hx1 hE1 hsub1 hff1 hc1
  have r0 := R9.out.c0
  have r1 := R9.out.c1
  have rf := R9.out.frozen
  go_wp2_with fail
  refine bodyPost_ret (v := .agg #[.string s', .slice a' l' c']) (by simp [results, Tryz.results136, go_sem, World.cell?_setCell_same, World.cell?_setCell_other, r0, r1]) rfl ?_
  rw [HT.out]
  refine fl_end hE (by omega) HYW.out HF9.out HX9.out HE9.out (fun b hb => (HSUB.out b hb).imp id fun h => by rw [hW2.out] at h; exact h) HFF.out ?_
  rcases HC.out with ⟨y, e1, e2, e3, e4, e5, e6⟩ | h
  ·exact Or.inl ⟨y, e1, e2, e3, e4, e5.mono fun b hb _ => by have := hW2.out; omega, e6⟩
  ·exact Or.inr h
 | true =>
  have HV := hide hv
  have HLK := hide (HL.out hv)
  clear hv HL
  have E0 := hide (hE.below HE.out HB0.out)
  have F0 := hide ((HF.out.alloc (.cells #[.string t.name, .slice a t.args.length c] 26)).alloc (.cells #[.string ⟨#[]⟩, .slice none 0 0] 26))
  have S0 := hide (HS.out.later HB0.out)
  have T0 := hide ((Blk.new w #[.string t.name, .slice a t.args.length c] 26).alloc (.cells #[.string ⟨#[]⟩, .slice none 0 0] 26))
  have g1 := F0.out.cell 1
  have g0 := T0.out.cell 0
  simp only [List.getElem?_toArray, List.getElem?_cons_succ, List.getElem?_cons_zero] at g1 g0
  have LKA : Hid (∀ w', Below ((w.alloc (.cells #[.string t.name, .slice a t.args.length c] 26)).alloc (.cells #[.string ⟨#[]⟩, .slice none 0 0] 26)).heap.size ((w.alloc (.cells #[.string t.name, .slice a t.args.length c] 26)).alloc (.cells #[.string ⟨#[]⟩, .slice none 0 0] 26)) w' → Calls Tryz.prog 129 #[.pointer (some ⟨S, 0, none⟩), .string t.name] w' fun e w'' => LkPost E Mt (lk t.name) f Y w' e w'') := fun w' hb => HLK.out f Y w' (hE.below E0.out hb)
  have HKP : Hid (∀ w', ExQ Mt ((w.alloc (.cells #[.string t.name, .slice a t.args.length c] 26)).alloc (.cells #[.string ⟨#[]⟩, .slice none 0 0] 26)) w' → w'.cell? ⟨F, 1, none⟩ = some (sV S) ∧ w'.cell? ⟨w.heap.size, 0, none⟩ = some (.string t.name)) := fun w' hb => ⟨(F0.out.exq hb hFM).cell 1, (T0.out.exq hb (fun h => by have := HYW.out _ (HMT.out _ h); omega)).cell 0⟩
  have nF : ((w.alloc (.cells #[.string t.name, .slice a t.args.length c] 26)).alloc (.cells #[.string ⟨#[]⟩, .slice none 0 0] 26)).heap.size ≠ F := by have := hW2.out; omega
  have nT : ((w.alloc (.cells #[.string t.name, .slice a t.args.length c] 26)).alloc (.cells #[.string ⟨#[]⟩, .slice none 0 0] 26)).heap.size ≠ w.heap.size := by have := hW2.out; omega
  have nM : ¬ Mt ((w.alloc (.cells #[.string t.name, .slice a t.args.length c] 26)).alloc (.cells #[.string ⟨#[]⟩, .slice none 0 0] 26)).heap.size := fun h => by have := HYW.out _ (HMT.out _ h); have := hW2.out; omega
  clear f1
  unfold sV at g1 HKP
  go_enter Tryz.func136, Tryz.ntmps136
  go_wp2_with (go_at_call 52; refine (isVariable_all _ _).mono ?_; rintro e w' ⟨rfl, rfl⟩; rw [HV.out])
  generalize ((w.alloc (.cells #[.string t.name, .slice a t.args.length c] 26)).alloc (.cells #[.string ⟨#[]⟩, .slice none 0 0] 26)) = w0 at *
  go_region_held3 (fun w' => w'.cell? ⟨F, 1, none⟩ = some (.func (.func 129) #[.pointer (some ⟨S, 0, none⟩)] #[]) ∧ w'.cell? ⟨w.heap.size, 0, none⟩ = some (.string t.name)) (first | exact hS | exact ⟨g1, g0⟩ | exact two_keep hS nF nT | exact two_keep (two_keep hS nF nT) nF nT | go_keep)
   ((go_at_call 129; refine (LKA.out _ (by first | exact (Below.refl _ _).drew | exact ((Below.refl _ _).alloc (Nat.le_refl _) _).drew)).mono ?_; rintro e w1 ⟨s1, a1, n1, c1, ok1, f1, Y1, rfl, hE1, hsub1, hff1, hx1, hc1⟩; have HE1 := hide hE1; have HSUB1 := hide hsub1; have HFF1 := hide hff1; have HC1 := hide hc1; clear hE1 hsub1 hff1 hc1; (first | (have hB0 := wayq1 hx1; have hS := HKP.out _ hB0) | (have hB0 := wayq2 hx1; have xb := hide (wayq2b hx1 nM); have x0 := xb.out.cell 0; have x1 := xb.out.cell 1; have xf := xb.out.frozen; have hS := HKP.out _ hB0)); have HX1 := hide hx1; clear hx1))
  ·generalize hz : (w1.alloc (Obj.cells #[Value.string s1, Value.slice a1 n1 c1] 26)) = wz at *
   have hkz : ∀ b, b < w1.heap.size → wz.heap[b]? = w1.heap[b]? := fun b hb => by rw [← hz]; exact Below.heap_alloc _ _ _ hb
   have hxz : ExQ Mt w0 wz := by rw [← hz]; exact hB0.alloc _
   have HS1 : Hid (∀ b, Y1 b → wz.heap[b]? = w1.heap[b]?) := fun b hb => hkz b (hE.inY _ _ _ HE1.out b hb)
   have HU1 : Hid (∀ b, Y1 b → Y b ∨ w.heap.size + 2 ≤ b) := fun b hb => (HSUB1.out b hb).imp id fun h => by have h2 := hW2.out; have h3 : w0.heap.size ≤ b := h; omega
   have q0 : wz.cell? ⟨w1.heap.size, 0, none⟩ = some (.string s1) := by rw [← hz]; exact (Blk.new w1 _ _).cell 0
   have q1 : wz.cell? ⟨w1.heap.size, 1, none⟩ = some (.slice a1 n1 c1) := by rw [← hz]; exact (Blk.new w1 _ _).cell 1
   have HXZ := hide hxz
   have HEZ : Hid (E f1 Y1 wz) := hE.keep _ _ _ _ HE1.out HS1.out
   have HFZ := hide (F0.out.exq hxz hFM)
   have HRZ := hide (RW.out.exq hxz (fun h => hR1 (Or.inr h)))
   have HTZ := hide (T0.out.exq hxz (fun h => by have := HYW.out _ (HMT.out _ h); omega))
   have HY1F : Hid (¬ Y1 F) := fun h => by
    rcases HU1.out F h with h1 | h1
    ·exact hYF h1
    ·omega
   have HSZ2 : Hid (w.heap.size + 2 ≤ wz.heap.size) := by have := hxz.size; have := hW2.out; unfold Hid; omega
   clear hxz hz hS hB0
   rcases HC1.out with ⟨rfl, x, rfl, rfl, hsx, hox⟩ | ⟨rfl, hox⟩
   ·have HSX : Hid (Sl wz Y1 a1 x.args) := hsx.kept HS1.out
    have HOX := hide hox
    clear hsx hox HC1
    go_wp2_with fail
    refine (knotC_any F _ x n _ wz Y1 ⟨a1, c1, rfl, HSX.out⟩ (fun b hb e => HY1F.out (e ▸ hb)) hn HFZ.out).mono ?_
    rintro e w9 ⟨s', a', l', c', m, rfl, hF1, hx1, hy1, hn1⟩
    have R9 := hide (HRZ.out.ex hx1 (by omega))
    have HX9 : Hid (ExQ (fun b => b = F ∨ Mt b) w w9) := (EXW.out.trans (HXZ.out.mono fun b hb _ => Or.inr hb)).trans (ExQ.ofEx hx1 (Or.inl rfl))
    have HE9 : Hid (E f1 Y1 w9) := hE.keep _ _ _ _ HEZ.out fun b hb => hx1.block b (hE.inY _ _ _ HEZ.out b hb) (fun e => HY1F.out (e ▸ hb))
    have HF9 := hide hF1
    have HCC : Hid (FlC w (gT lk t) n f1 s' a' l' m 2 w9) := by
     by_cases hle : sizeL [x] ≤ n
     ·obtain ⟨e1, e2, e3, e4⟩ := hy1 hle
      exact Or.inl ⟨x, e2, e3, e1, hle, e4.mono fun b hb _ => by have := HSZ2.out; omega, fun hf => by unfold gT gN; rw [HV.out, HOX.out hf]; rfl⟩
     ·exact Or.inr ⟨hn1 (by omega), fun hf => by unfold gT gN; rw [HV.out, HOX.out hf]; simpa using hle⟩
    clear hF1 hx1 hy1 hn1
    have r0 := R9.out.c0
    have r1 := R9.out.c1
    have rf := R9.out.frozen
    go_wp2_with fail
    refine bodyPost_ret (v := .agg #[.string s', .slice a' l' c']) (by simp [results, Tryz.results136, go_sem, World.cell?_setCell_same, World.cell?_setCell_other, r0, r1]) rfl ?_
    exact fl_end hE (by omega) HYW.out HF9.out HX9.out HE9.out HU1.out HFF1.out HCC.out
   ·have HOX := hide hox
    clear hox HC1
    have t0 := HTZ.out.c0
    have t1 := HTZ.out.c1
    go_wp2_with fail
    refine (H.out wz f1 Y1 (S0.out.exq HXZ.out (fun b hb => (HXF.out b hb).2)) HFZ.out HEZ.out HY1F.out).mono ?_
    rintro e w9 ⟨s', a', l', c', m, f', Y', rfl, hF1, hx1, hE1, hsub1, hff1, hc1⟩
    have R9 := hide (HRZ.out.exq hx1 hR1)
    have HX9 : Hid (ExQ (fun b => b = F ∨ Mt b) w w9) := (EXW.out.trans (HXZ.out.mono fun b hb _ => Or.inr hb)).trans hx1
    have HE9 := hide hE1
    have HF9 := hide hF1
    have HU9 : Hid (∀ b, Y' b → Y b ∨ w.heap.size + 2 ≤ b) := fun b hb => by
     rcases hsub1 b hb with h | h
     ·exact HU1.out b h
     ·right; have := HSZ2.out; omega
    have HFF9 : Hid (f = true → f' = true) := fun h => hff1 (HFF1.out h)
    have HCC : Hid (FlC w (gT lk t) n f' s' a' l' m 2 w9) := by
     have hT : f' = false → gT lk t = ⟨t.name, gL lk t.args⟩ := fun hf => by
      have hf1 : f1 = false := by
       cases h : f1 with
       | false => rfl
       | true => have := hff1 h; rw [hf] at this; cases this
      unfold gT gN; rw [HV.out, HOX.out hf1]; rfl
     rcases hc1 with ⟨y, e1, e2, e3, e4, e5, e6⟩ | ⟨e1, e2⟩
     ·exact Or.inl ⟨y, e1, e2, e3, e4, e5.mono fun b hb _ => by have := HSZ2.out; omega, fun hf => by rw [hT hf]; exact e6 hf⟩
     ·exact Or.inr ⟨e1, fun hf => by rw [hT hf]; exact e2 hf⟩
    clear hF1 hx1 hE1 hsub1 hff1 hc1
    have r0 := R9.out.c0
    have r1 := R9.out.c1
    have rf := R9.out.frozen
    go_wp2_with fail
    refine bodyPost_ret (v := .agg #[.string s', .slice a' l' c']) (by simp [results, Tryz.results136, go_sem, World.cell?_setCell_same, World.cell?_setCell_other, r0, r1]) rfl ?_
    exact fl_end hE (by omega) HYW.out HF9.out HX9.out HE9.out HU9.out HFF9.out HCC.out
  ·generalize hz : ((w1.setCell { block := w0.heap.size, off := 0 } (Value.string s1)).setCell { block := w0.heap.size, off := 1 } (Value.slice a1 n1 c1)) = wz at *
   have hxz : ExQ Mt w0 wz := by rw [← hz]; exact (hB0.setNew (Nat.le_refl _) _ _).setNew (Nat.le_refl _) _ _
   have HU1 : Hid (∀ b, Y1 b → Y b ∨ w.heap.size + 2 ≤ b) := fun b hb => (HSUB1.out b hb).imp id fun h => by have h2 := hW2.out; simp at h; omega
   have HS1 : Hid (∀ b, Y1 b → wz.heap[b]? = w1.heap[b]?) := fun b hb => by
    have hne : b ≠ w0.heap.size := fun e => by
     rcases HSUB1.out b hb with h | h
     ·have := HYW.out b h; have := hW2.out; omega
     ·simp at h; omega
    rw [← hz, Below.heap_setCell _ _ _ _ (by simpa using hne), Below.heap_setCell _ _ _ _ (by simpa using hne)]
   have q0 : wz.cell? ⟨w0.heap.size, 0, none⟩ = some (.string s1) := by rw [← hz]; simp [World.cell?_setCell_same, World.cell?_setCell_other, x0, x1]
   have q1 : wz.cell? ⟨w0.heap.size, 1, none⟩ = some (.slice a1 n1 c1) := by rw [← hz]; simp [World.cell?_setCell_same, World.cell?_setCell_other, x0, x1]
   have HXZ := hide hxz
   have HEZ : Hid (E f1 Y1 wz) := hE.keep _ _ _ _ HE1.out HS1.out
   have HFZ := hide (F0.out.exq hxz hFM)
   have HRZ := hide (RW.out.exq hxz (fun h => hR1 (Or.inr h)))
   have HTZ := hide (T0.out.exq hxz (fun h => by have := HYW.out _ (HMT.out _ h); omega))
   have HY1F : Hid (¬ Y1 F) := fun h => by
    rcases HU1.out F h with h1 | h1
    ·exact hYF h1
    ·omega
   have HSZ2 : Hid (w.heap.size + 2 ≤ wz.heap.size) := by have := hxz.size; have := hW2.out; unfold Hid; omega
   clear hxz hz hS hB0
   rcases HC1.out with ⟨rfl, x, rfl, rfl, hsx, hox⟩ | ⟨rfl, hox⟩
   ·have HSX : Hid (Sl wz Y1 a1 x.args) := hsx.kept HS1.out
    have HOX := hide hox
    clear hsx hox HC1
    go_wp2_with fail
    refine (knotC_any F _ x n _ wz Y1 ⟨a1, c1, rfl, HSX.out⟩ (fun b hb e => HY1F.out (e ▸ hb)) hn HFZ.out).mono ?_
    rintro e w9 ⟨s', a', l', c', m, rfl, hF1, hx1, hy1, hn1⟩
    have R9 := hide (HRZ.out.ex hx1 (by omega))
    have HX9 : Hid (ExQ (fun b => b = F ∨ Mt b) w w9) := (EXW.out.trans (HXZ.out.mono fun b hb _ => Or.inr hb)).trans (ExQ.ofEx hx1 (Or.inl rfl))
    have HE9 : Hid (E f1 Y1 w9) := hE.keep _ _ _ _ HEZ.out fun b hb => hx1.block b (hE.inY _ _ _ HEZ.out b hb) (fun e => HY1F.out (e ▸ hb))
    have HF9 := hide hF1
    have HCC : Hid (FlC w (gT lk t) n f1 s' a' l' m 2 w9) := by
     by_cases hle : sizeL [x] ≤ n
     ·obtain ⟨e1, e2, e3, e4⟩ := hy1 hle
      exact Or.inl ⟨x, e2, e3, e1, hle, e4.mono fun b hb _ => by have := HSZ2.out; omega, fun hf => by unfold gT gN; rw [HV.out, HOX.out hf]; rfl⟩
     ·exact Or.inr ⟨hn1 (by omega), fun hf => by unfold gT gN; rw [HV.out, HOX.out hf]; simpa using hle⟩
    clear hF1 hx1 hy1 hn1
    have r0 := R9.out.c0
    have r1 := R9.out.c1
    have rf := R9.out.frozen
    go_wp2_with fail
    refine bodyPost_ret (v := .agg #[.string s', .slice a' l' c']) (by simp [results, Tryz.results136, go_sem, World.cell?_setCell_same, World.cell?_setCell_other, r0, r1]) rfl ?_
    exact fl_end hE (by omega) HYW.out HF9.out HX9.out HE9.out HU1.out HFF1.out HCC.out
   ·have HOX := hide hox
    clear hox HC1
    have t0 := HTZ.out.c0
    have t1 := HTZ.out.c1
    go_wp2_with fail
    refine (H.out wz f1 Y1 (S0.out.exq HXZ.out (fun b hb => (HXF.out b hb).2)) HFZ.out HEZ.out HY1F.out).mono ?_
    rintro e w9 ⟨s', a', l', c', m, f', Y', rfl, hF1, hx1, hE1, hsub1, hff1, hc1⟩
    have R9 := hide (HRZ.out.exq hx1 hR1)
    have HX9 : Hid (ExQ (fun b => b = F ∨ Mt b) w w9) := (EXW.out.trans (HXZ.out.mono fun b hb _ => Or.inr hb)).trans hx1
    have HE9 := hide hE1
    have HF9 := hide hF1
    have HU9 : Hid (∀ b, Y' b → Y b ∨ w.heap.size + 2 ≤ b) := fun b hb => by
     rcases hsub1 b hb with h | h
     ·exact HU1.out b h
     ·right; have := HSZ2.out; omega
    have HFF9 : Hid (f = true → f' = true) := fun h => hff1 (HFF1.out h)
    have HCC : Hid (FlC w (gT lk t) n f' s' a' l' m 2 w9) := by
     have hT : f' = false → gT lk t = ⟨t.name, gL lk t.args⟩ := fun hf => by
      have hf1 : f1 = false := by
       cases h : f1 with
       | false => rfl
       | true => have := hff1 h; rw [hf] at this; cases this
      unfold gT gN; rw [HV.out, HOX.out hf1]; rfl
     rcases hc1 with ⟨y, e1, e2, e3, e4, e5, e6⟩ | ⟨e1, e2⟩
     ·exact Or.inl ⟨y, e1, e2, e3, e4, e5.mono fun b hb _ => by have := HSZ2.out; omega, fun hf => by rw [hT hf]; exact e6 hf⟩
     ·exact Or.inr ⟨e1, fun hf => by rw [hT hf]; exact e2 hf⟩
    clear hF1 hx1 hE1 hsub1 hff1 hc1
    have r0 := R9.out.c0
    have r1 := R9.out.c1
    have rf := R9.out.frozen
    go_wp2_with fail
    refine bodyPost_ret (v := .agg #[.string s', .slice a' l' c']) (by simp [results, Tryz.results136, go_sem, World.cell?_setCell_same, World.cell?_setCell_other, r0, r1]) rfl ?_
    exact fl_end hE (by omega) HYW.out HF9.out HX9.out HE9.out HU9.out HFF9.out HCC.out
def setAt : List (ByteArray × Value) → ByteArray → Value → List (ByteArray × Value)
 | [], _, _ => []
 | p :: r, n, v => if p.1 = n then (p.1, v) :: r else p :: setAt r n v
theorem findNow_set (n : ByteArray) (x : Value) : ∀ (l : List MapEntry) (L : List (ByteArray × Value)) (i : Nat) (v : Value), l.map (fun e => (e.key, e.val)) = L.map (fun p => (Value.string p.1, p.2)) → mapGet L n = some v →
  ∃ j e, Instr.findNow .string (.string n) l i = some (some (i + j, v)) ∧ l[j]? = some e ∧ e.key = .string n ∧ (l.modify j fun e => { e with key := .string n, val := x }).map (fun e => (e.key, e.val)) = (setAt L n x).map (fun p => (Value.string p.1, p.2))
 | [], [], i, v, h, hv => by simp [mapGet] at hv
 | [], p :: L, i, v, h, hv => by simp at h
 | e :: l, [], i, v, h, hv => by simp at h
 | e :: l, p :: L, i, v, h, hv => by
  simp only [List.map_cons, List.cons.injEq, Prod.mk.injEq] at h
  obtain ⟨⟨hk, he⟩, ht⟩ := h
  by_cases hn : p.1 = n
  ·have hs : Instr.sameNow .string (.string n) e.key = some true := by
    rw [hk, hn]
    show some (n == n) = some true
    rw [show (n == n) = true from (MapKept.bytes_beq _ _).2 rfl]
   simp only [mapGet, hn, if_true, Option.some.injEq] at hv
   refine ⟨0, e, by simp [Instr.findNow, hs, he, hv], rfl, by rw [hk, hn], ?_⟩
   simp [setAt, hn, ht]
  ·have hs : Instr.sameNow .string (.string n) e.key = some false := by
    rw [hk]
    show some (n == p.1) = some false
    have hb : (n == p.1) = false := by
     cases hh : (n == p.1) with
     | false => rfl
     | true => exact absurd ((MapKept.bytes_beq _ _).1 hh).symm hn
    rw [hb]
   rw [mapGet, if_neg hn] at hv
   obtain ⟨j, e', h1, h2, h3, h4⟩ := findNow_set n x l L (i + 1) v ht hv
   refine ⟨j + 1, e', by simp [Instr.findNow, hs, h1]; omega, by simpa using h2, h3, ?_⟩
   rw [setAt, if_neg hn]
   simp [List.modify_succ_cons, h4, hk, he]
theorem run_look1 {P : Program} {w : World} {T kt et : TypeId} {r : Nat} {L : List (ByteArray × Value)} {z : Value} (hm : P.underlying T = some (.map kt et)) (hk : P.underlying kt = some .string) (hz : (zeroValue et).run P w = .ok z w) (h : MapAt w r L) (n : ByteArray) :
  (Instr.lookup T (.map (some r)) (.string n) false).run P w = .ok ((mapGet L n).getD z) w := by
 obtain ⟨es, clk, hb, he, hstm⟩ := h
 obtain ⟨h1, h2⟩ := findNow_map n es.toList L 0 he
 have hc : ∀ b, (Instr.checkKey b 10000 kt (.string n)).run P w = .ok () w := fun b => MapKept.run_checkKey (k := .string n) hk (by simp [MapKept.IsKey]) b 9999
 cases hg : mapGet L n with
 | none => simp [Instr.lookup, run_underlying hm, MapKept.run_getObj_map hb, hc, MapKept.run_findKey hk (h1 hg), Result.andThen, hz]
 | some v =>
  obtain ⟨j, hj⟩ := h2 v hg
  simp [Instr.lookup, run_underlying hm, MapKept.run_getObj_map hb, hc, MapKept.run_findKey hk hj, Result.andThen]
theorem run_set {P : Program} {w : World} {T kt et : TypeId} {r : Nat} {L : List (ByteArray × Value)} (hm : P.underlying T = some (.map kt et)) (hk : P.underlying kt = some .string) (h : MapAt w r L) (n : ByteArray) (v old : Value) (hn : mapGet L n = some old) :
  ∃ w', (Instr.mapUpdate T (.map (some r)) (.string n) v).run P w = .ok () w' ∧ MapAt w' r (setAt L n v) ∧ w'.heap.size = w.heap.size ∧ w'.os = w.os ∧ w'.tape = w.tape ∧ w'.output = w.output ∧ (∀ b, b ≠ r → w'.heap[b]? = w.heap[b]?) := by
 obtain ⟨es, clk, hb, he, hstm⟩ := h
 obtain ⟨j, e0, h1, h2, h3, h4⟩ := findNow_set n v es.toList L 0 old he hn
 have hc : (Instr.checkKey false 10000 kt (.string n)).run P w = .ok () w := MapKept.run_checkKey (k := .string n) hk (by simp [MapKept.IsKey]) false 9999
 have hj : es[j]? = some e0 := by simpa using h2
 rw [Nat.zero_add] at h1
 have hst : (Instr.keyThatStays (.string n) (.string n)).run P w = .ok (.string n) w := MapKept.run_keyThatStays (d := .string) (by simp [MapKept.IsKey])
 refine ⟨{ w with heap := w.heap.setIfInBounds r (.map (es.modify j fun e => { e with key := .string n, val := v }) clk) }, ?_, ⟨_, _, (MapKept.heap_set hb).1, by rw [Array.toList_modify]; exact h4, hstm.modify _ _ _⟩, by simp, rfl, rfl, rfl, fun b hne => (MapKept.heap_set hb).2 b hne⟩
 simp [Instr.mapUpdate, run_underlying hm, MapKept.run_getObj_map hb, hc, MapKept.run_findKey hk h1, hj, h3, hst, MapKept.run_setObj_map _ hb, Result.andThen]
theorem gL_onL {s : List Bd} (hs : ∀ d ∈ s, varB d.nm = true) : ∀ l : List Tm, errL l = 0 → gL (forT s) l = onL s l := by
 intro l
 induction l using Tm.indL with
 | h0 => intro _; simp [gL, onL]
 | h n l r ihl ihr =>
  intro he
  obtain ⟨g1, g2, g3⟩ := errL_parts he
  rw [gL, onL_cons, ihr g3, ihl g2]
  congr 1
  cases hv : varB n with
  | false => rw [onT_sym2 hs hv, gN, hv]; rfl
  | true =>
   have e := g1 hv
   subst e
   rw [onT_leaf, gN, hv]
   cases forT s n with
   | none => simp [onL]
   | some x => rfl
theorem gT_onT {s : List Bd} (hs : ∀ d ∈ s, varB d.nm = true) {t : Tm} (he : errL [t] = 0) : gT (forT s) t = onT s t := by
 have h := gL_onL hs [t] he
 rw [gL_map, onL_cons] at h
 simpa [onL] using h
def NamesH (h : List (ByteArray × Tm)) : Prop := ∀ i (hi : i < h.length), nameB h[i].1 = true
def StE (w : World) (Y : Nat → Prop) (h : List (ByteArray × Tm)) (i : Nat) (hi : i < h.length) (v : Value) : Prop :=
 ∃ (j : Nat) (a : Option Addr) (c : Nat), j ≤ h.length ∧ v = .agg #[.string (stood h i (max j (i + 1)) hi).name, .slice a (stood h i (max j (i + 1)) hi).args.length c, .int .i64 (j : Int)] ∧ Sl w Y a (stood h i (max j (i + 1)) hi).args
def StMap (w : World) (Y : Nat → Prop) (h : List (ByteArray × Tm)) (L : List (ByteArray × Value)) : Prop :=
 L.length = h.length ∧ ∀ i (hi : i < h.length) (hl : i < L.length), L[i].1 = h[i].1 ∧ StE w Y h i hi L[i].2
theorem StE.imp {w w' : World} {Y Z : Nat → Prop} {h : List (ByteArray × Tm)} {i : Nat} {hi : i < h.length} {v : Value} (hs : ∀ a l, Sl w Y a l → Sl w' Z a l) (e : StE w Y h i hi v) : StE w' Z h i hi v := by
 obtain ⟨j, a, c, h1, h2, h3⟩ := e
 exact ⟨j, a, c, h1, h2, hs _ _ h3⟩
theorem StMap.imp {w w' : World} {Y Z : Nat → Prop} {h : List (ByteArray × Tm)} {L : List (ByteArray × Value)} (hs : ∀ a l, Sl w Y a l → Sl w' Z a l) (e : StMap w Y h L) : StMap w' Z h L :=
 ⟨e.1, fun i hi hl => ⟨(e.2 i hi hl).1, (e.2 i hi hl).2.imp hs⟩⟩
theorem mapGet_at : ∀ (L : List (ByteArray × Value)) (i : Nat) (hi : i < L.length), (∀ k (hk : k < L.length), k < i → L[k].1 ≠ L[i].1) → mapGet L L[i].1 = some L[i].2
 | [], i, hi, _ => by simp at hi
 | p :: r, 0, hi, _ => by simp [mapGet]
 | p :: r, i + 1, hi, h => by
  have h0 := h 0 (by simp) (by omega)
  simp only [List.getElem_cons_zero, List.getElem_cons_succ] at h0 ⊢
  rw [mapGet, if_neg h0]
  refine mapGet_at r i (by simpa using hi) fun k hk hki => ?_
  have := h (k + 1) (by simpa using hk) (by omega)
  simpa using this
theorem mapGet_none : ∀ (L : List (ByteArray × Value)) (n : ByteArray), (∀ k (hk : k < L.length), L[k].1 ≠ n) → mapGet L n = none
 | [], n, _ => rfl
 | p :: r, n, h => by
  have h0 := h 0 (by simp)
  simp only [List.getElem_cons_zero] at h0
  rw [mapGet, if_neg h0]
  exact mapGet_none r n fun k hk => by have := h (k + 1) (by simpa using hk); simpa using this
theorem setAt_get : ∀ (L : List (ByteArray × Value)) (i : Nat) (hi : i < L.length) (v : Value), (∀ k (hk : k < L.length), k < i → L[k].1 ≠ L[i].1) → setAt L L[i].1 v = L.set i (L[i].1, v)
 | [], i, hi, v, _ => by simp at hi
 | p :: r, 0, hi, v, _ => by simp [setAt]
 | p :: r, i + 1, hi, v, h => by
  have h0 := h 0 (by simp) (by omega)
  simp only [List.getElem_cons_zero, List.getElem_cons_succ] at h0 ⊢
  rw [setAt, if_neg h0, setAt_get r i (by simpa using hi) v fun k hk hki => by have := h (k + 1) (by simpa using hk) (by omega); simpa using this]
  rfl
theorem StMap.apart {w : World} {Y : Nat → Prop} {h : List (ByteArray × Tm)} {L : List (ByteArray × Value)} (e : StMap w Y h L) (g : GoodH h) (i : Nat) (hi : i < L.length) : ∀ k (hk : k < L.length), k < i → L[k].1 ≠ L[i].1 := fun k hk hki hh => by
 have hl := e.1
 rw [(e.2 k (by omega) hk).1, (e.2 i (by omega) hi).1] at hh
 have := g.once (by omega) (by omega) hh
 omega
theorem StMap.get {w : World} {Y : Nat → Prop} {h : List (ByteArray × Tm)} {L : List (ByteArray × Value)} (e : StMap w Y h L) (g : GoodH h) {i : Nat} (hi : i < h.length) : ∃ v, mapGet L h[i].1 = some v ∧ StE w Y h i hi v := by
 have hl : i < L.length := by rw [e.1]; exact hi
 have h1 := mapGet_at L i hl (e.apart g i hl)
 rw [(e.2 i hi hl).1] at h1
 exact ⟨_, h1, (e.2 i hi hl).2⟩
theorem StMap.none {w : World} {Y : Nat → Prop} {h : List (ByteArray × Tm)} {L : List (ByteArray × Value)} (e : StMap w Y h L) {n : ByteArray} (hn : ∀ i (hi : i < h.length), h[i].1 ≠ n) : mapGet L n = none :=
 mapGet_none L n fun k hk => by rw [(e.2 k (by rw [← e.1]; exact hk) hk).1]; exact hn k _
theorem StMap.set {w : World} {Y : Nat → Prop} {h : List (ByteArray × Tm)} {L : List (ByteArray × Value)} (e : StMap w Y h L) (g : GoodH h) {i : Nat} (hi : i < h.length) {v : Value} (hv : StE w Y h i hi v) : StMap w Y h (setAt L h[i].1 v) := by
 have hl : i < L.length := by rw [e.1]; exact hi
 have h1 := setAt_get L i hl v (e.apart g i hl)
 rw [(e.2 i hi hl).1] at h1
 rw [h1]
 refine ⟨by simp [e.1], fun k hk hkl => ?_⟩
 by_cases hki : i = k
 ·subst hki
  simp only [List.getElem_set_self]
  exact ⟨trivial, hv⟩
 ·rw [List.getElem_set_ne hki]
  exact e.2 k hk (by simpa using hkl)
theorem forT_at {h : List (ByteArray × Tm)} (g : GoodH h) {i : Nat} (hi : i < h.length) : forT (sAt h) h[i].1 = some (stood h i h.length hi) := by
 obtain ⟨d, hd, e⟩ := (g.bound h.length (Nat.le_refl _) h[i].1).2 ⟨i, hi, hi, rfl⟩
 rw [List.take_length] at hd
 obtain ⟨t, ht⟩ := forT_some_of hd
 rw [e] at ht
 rw [ht]
 unfold stood
 rw [List.take_length, onT_some ht]
theorem forT_free {h : List (ByteArray × Tm)} (g : GoodH h) {n : ByteArray} (hn : ∀ i (hi : i < h.length), h[i].1 ≠ n) : forT (sAt h) n = none := by
 cases hf : forT (sAt h) n with
 | none => rfl
 | some x =>
  obtain ⟨d, hd, e, _⟩ := forT_mem hf
  have h1 := (g.bound h.length (Nat.le_refl _) n).1 ⟨d, by rw [List.take_length]; exact hd, e⟩
  obtain ⟨i, hi, _, h2⟩ := h1
  exact absurd h2 (hn i hi)
theorem stood_err {h : List (ByteArray × Tm)} (g : GoodH h) (hn : NamesH h) {i : Nat} (hi : i < h.length) {j : Nat} (hj : j ≤ h.length) : errL [stood h i j hi] = 0 := errL_onT2 (g.ok j hj) (err_leaf (hn i hi))
theorem stood_fill {h : List (ByteArray × Tm)} (g : GoodH h) (hn : NamesH h) {i : Nat} (hi : i < h.length) {j : Nat} (hj : j ≤ h.length) : gT (forT (sAt h)) (stood h i j hi) = stood h i h.length hi := by
 rw [gT_onT g.all.vars (stood_err g hn hi hj), stood_on g hi hj (hn i hi)]
theorem stood_great {h : List (ByteArray × Tm)} (g : GoodH h) {i : Nat} (hi : i < h.length) (hz : 2000 < sizeL [stood h i h.length hi]) : grtB (sAt h) = true := by
 obtain ⟨d, hd, e1, e2⟩ := forT_mem (forT_at g hi)
 unfold grtB
 rw [List.any_eq_true]
 exact ⟨d, hd, by rw [e2]; simpa using hz⟩
def SolE (S q : Nat) (td : Value) (h : List (ByteArray × Tm)) : Ev := fun f Y w =>
 (∃ L, Blk w S #[td, .map (some q), .bool f] 124 ∧ MapAt w q L ∧ StMap w (fun b => Y b ∧ b ≠ S ∧ b ≠ q) h L) ∧ Y S ∧ Y q ∧ (∀ b, Y b → b < w.heap.size) ∧ (f = true → grtB (sAt h) = true)
def SolM (S q : Nat) : Nat → Prop := fun b => b = S ∨ b = q
theorem solE_ok (S q : Nat) (td : Value) (h : List (ByteArray × Tm)) : EvOk (SolE S q td h) (SolM S q) := by
 refine ⟨fun f Y w w' he hk => ?_, fun f Y w he => he.2.2.2.1, fun f Y w he b hb => ?_⟩
 ·obtain ⟨⟨L, h1, h2, h3⟩, h4, h5, h6, h7⟩ := he
  refine ⟨⟨L, ?_, h2.kept (hk q h5), h3.imp fun a l hs => hs.kept fun b hb => hk b hb.1⟩, h4, h5, fun b hb => ?_, h7⟩
  ·unfold Blk at *; rw [hk S h4]; exact h1
  ·have h8 := hk b hb
   have h9 := h6 b hb
   apply Classical.byContradiction
   intro hn
   rw [Array.getElem?_eq_none (by omega), Array.getElem?_eq_getElem h9] at h8
   cases h8
 ·rcases hb with rfl | rfl
  ·exact he.2.1
  ·exact he.2.2.1
theorem le_of_apart {α : Type} : ∀ (l V : List α), l.Nodup → (∀ x ∈ l, x ∈ V) → l.length ≤ V.length
 | [], V, _, _ => by simp
 | a :: l, V, h, hs => by
  classical
  obtain ⟨h1, h2⟩ := List.nodup_cons.1 h
  have ih := le_of_apart l (V.filter fun x => decide (x ≠ a)) h2 fun x hx => List.mem_filter.2 ⟨hs x (by simp [hx]), by simp; rintro rfl; exact h1 hx⟩
  have hlt := filter_lt (p := fun _ => true) (q := fun x => decide (x ≠ a)) V (fun _ _ _ => rfl) ⟨a, hs a (by simp), rfl, by simp⟩
  have e : V.filter (fun _ => true) = V := List.filter_eq_self.2 (by simp)
  rw [e] at hlt
  simp only [List.length_cons]
  omega
structure UI (V : List ByteArray) (h : List (ByteArray × Tm)) (l : List Pr) : Prop where
 good : GoodH h
 names : NamesH h
 inV : ∀ i (hi : i < h.length), h[i].1 ∈ V
 err : errL (flatP l) = 0
 vars : ∀ y, varB y = true → occL y (onL (sAt h) (flatP l)) → y ∈ V
 size : ∀ p ∈ l, sizeL [p.l] ≤ 2000 ∧ sizeL [p.r] ≤ 2000
 len : ∃ l1 l2, l = l1 ++ l2 ∧ (∀ p ∈ l1, onT (sAt h) p.l = p.l ∧ onT (sAt h) p.r = p.r) ∧ sizeL (l1.map (·.l)) ≤ 2000 ∧ l2.length ≤ 40 + 2000 * h.length
theorem UI.hlen {V : List ByteArray} {h : List (ByteArray × Tm)} {l : List Pr} (u : UI V h l) : h.length ≤ V.length := by
 have h1 := le_of_apart (h.map (·.1)) V ?_ ?_
 ·simpa using h1
 ·rw [List.nodup_iff_pairwise_ne, List.pairwise_map, List.pairwise_iff_getElem]
  intro i j hi hj hij e
  have := u.good.once hi hj e
  omega
 ·intro x hx
  obtain ⟨p, hp, rfl⟩ := List.mem_map.1 hx
  obtain ⟨i, hi, rfl⟩ := List.getElem_of_mem hp
  exact u.inV i hi
theorem map_len_size : ∀ l : List Pr, l.length ≤ sizeL (l.map (·.l))
 | [] => by simp
 | p :: l => by
  have := map_len_size l
  rw [List.map_cons, size_cons]
  have := sizeL_pos p.l
  simp only [List.length_cons]
  omega
theorem UI.llen {V : List ByteArray} {h : List (ByteArray × Tm)} {l : List Pr} (u : UI V h l) : l.length ≤ 2040 + 2000 * V.length := by
 obtain ⟨l1, l2, rfl, _, h2, h3⟩ := u.len
 have h4 := map_len_size l1
 have h5 := u.hlen
 rw [List.length_append]
 have : 2000 * h.length ≤ 2000 * V.length := Nat.mul_le_mul_left _ h5
 omega
theorem UI.start {l : List Pr} (he : errL (flatP l) = 0) (hs : ∀ p ∈ l, sizeL [p.l] ≤ 2000 ∧ sizeL [p.r] ≤ 2000) (hl : l.length ≤ 40) : UI ((preL (onL [] (flatP l))).map (·.name)) [] l :=
 ⟨goodH_nil, fun i hi => by simp at hi, fun i hi => by simp at hi, he, fun y _ ho => by obtain ⟨k, hk, e⟩ := ho; exact List.mem_map.2 ⟨k, hk, e⟩, hs, [], l, rfl, by simp, by simp [sizeL], by simpa using hl⟩
theorem UI.drop {V : List ByteArray} {h : List (ByteArray × Tm)} {p : Pr} {l : List Pr} (u : UI V h (p :: l)) : UI V h l := by
 obtain ⟨g1, g2, g3, g4, g5, g6, l1, l2, e, g7, g8, g9⟩ := u
 rw [flatP] at g4 g5
 refine ⟨g1, g2, g3, (err_two.1 (err_two.1 g4).2).2, fun y hy ho => g5 y hy ?_, fun q hq => g6 q (by simp [hq]), ?_⟩
 ·rw [onL_cons, onL_cons]
  exact occL_cons.2 (Or.inr (occL_cons.2 (Or.inr ho)))
 ·cases l1 with
  | nil =>
   cases l2 with
   | nil => cases e
   | cons q l2 =>
    simp only [List.nil_append, List.cons.injEq] at e
    obtain ⟨rfl, rfl⟩ := e
    simp only [List.length_cons] at g9
    exact ⟨[], l, rfl, by simp, by simp [sizeL], by omega⟩
  | cons q l1 =>
   simp only [List.cons_append, List.cons.injEq] at e
   obtain ⟨rfl, rfl⟩ := e
   rw [List.map_cons, size_cons] at g8
   exact ⟨l1, l2, rfl, fun q hq => g7 q (by simp [hq]), by omega, g9⟩
theorem UI.head {V : List ByteArray} {h : List (ByteArray × Tm)} {p : Pr} {l : List Pr} (u : UI V h (p :: l)) : errL [p.l] = 0 ∧ errL [p.r] = 0 := by
 have g := u.err
 rw [flatP] at g
 exact ⟨(err_two.1 g).1, (err_two.1 (err_two.1 g).2).1⟩
theorem occ_self (u : Tm) : occL u.name [u] := by obtain ⟨n, k⟩ := u; exact occL_node.2 (Or.inl rfl)
theorem occ_sub {u : Tm} {y : ByteArray} (h : occL y u.args) : occL y [u] := by obtain ⟨n, k⟩ := u; exact occL_node.2 (Or.inr (Or.inl h))
theorem err_sub {u : Tm} (h : errL [u] = 0) : errL u.args = 0 := by obtain ⟨n, k⟩ := u; exact (errL_parts h).2.1
theorem size_sub (u : Tm) : sizeL [u] = 1 + sizeL u.args := by obtain ⟨n, k⟩ := u; simp [sizeL]
theorem name_of_err {u : Tm} (h : errL [u] = 0) : nameB u.name = true := by obtain ⟨n, k⟩ := u; exact errL_name h
theorem UI.bindV {V : List ByteArray} {h : List (ByteArray × Tm)} {p : Pr} {l : List Pr} (u : UI V h (p :: l)) {x : ByteArray} {t : Tm} (hx : varB x = true) (hxt : (x = (onT (sAt h) p.l).name ∧ t = onT (sAt h) p.r) ∨ (x = (onT (sAt h) p.r).name ∧ t = onT (sAt h) p.l)) (ho : ¬ inB x (varsP [] (preL [t])) = true) :
  MayAdd (sAt h) x t ∧ UI V (h ++ [(x, t)]) l := by
 have ok := u.good.all
 obtain ⟨e1, e2⟩ := u.head
 have ea := errL_onT2 ok e1
 have eb := errL_onT2 ok e2
 have ga := ok.goneT e1
 have gb := ok.goneT e2
 have hV := u.vars
 rw [flatP, onL_cons, onL_cons] at hV
 have e3 : errL (flatP l) = 0 := u.drop.err
 have both : (∀ d ∈ sAt h, d.nm ≠ x) ∧ errL [t] = 0 ∧ (∀ e ∈ sAt h, ¬ occL e.nm [t]) ∧ nameB x = true ∧ x ∈ V ∧ (∀ y, occL y [t] → occL y (onT (sAt h) p.l :: onT (sAt h) p.r :: onL (sAt h) (flatP l))) := by
  rcases hxt with ⟨rfl, rfl⟩ | ⟨rfl, rfl⟩
  ·exact ⟨fun d hd e => ga d hd (by rw [e]; exact occ_self _), eb, gb, name_of_err ea, hV _ hx (occL_cons.2 (Or.inl (occ_self _))), fun y hy => occL_cons.2 (Or.inr (occL_cons.2 (Or.inl hy)))⟩
  ·exact ⟨fun d hd e => gb d hd (by rw [e]; exact occ_self _), ea, ga, name_of_err eb, hV _ hx (occL_cons.2 (Or.inr (occL_cons.2 (Or.inl (occ_self _))))), fun y hy => occL_cons.2 (Or.inl hy)⟩
 obtain ⟨b1, b2, b3, b4, b5, b6⟩ := both
 have hoc := not_inB hx ho
 have may : MayAdd (sAt h) x t := ⟨hx, b1, b2, b3, hoc⟩
 obtain ⟨f1, f2, f3⟩ := bind_facts (L := flatP l) ok hx b1 b2 b3 hoc e3
 refine ⟨may, u.good.snoc may, fun i hi => ?_, fun i hi => ?_, e3, fun y hy hoc => ?_, u.drop.size, [], l, rfl, by simp, by simp [sizeL], ?_⟩
 ·by_cases e : i < h.length
  ·rw [List.getElem_append_left e]; exact u.names i e
  ·have : i = h.length := by simp at hi; omega
   subst this
   simpa using b4
 ·by_cases e : i < h.length
  ·rw [List.getElem_append_left e]; exact u.inV i e
  ·have : i = h.length := by simp at hi; omega
   subst this
   simpa using b5
 ·rw [sAt_snoc] at hoc
  rcases f2 y hy hoc with h1 | h1
  ·exact hV y hy (occL_cons.2 (Or.inr (occL_cons.2 (Or.inr h1))))
  ·exact hV y hy (b6 y h1)
 ·obtain ⟨l1, l2, e, g7, g8, g9⟩ := u.len
  have h4 := map_len_size l1
  have h5 : l.length + 1 = l1.length + l2.length := by rw [← List.length_append, ← e]; simp
  simp only [List.length_append, List.length_cons, List.length_nil]
  omega
theorem zip_mem : ∀ {a b : List Tm} {p : Pr}, p ∈ zipP a b → p.l ∈ a ∧ p.r ∈ b
 | [], _, p, h => by simp [zipP] at h
 | _ :: _, [], p, h => by simp [zipP] at h
 | t :: a, u :: b, p, h => by
  rw [zipP] at h
  rcases List.mem_cons.1 h with rfl | h
  ·exact ⟨by simp, by simp⟩
  ·have := zip_mem h
   exact ⟨by simp [this.1], by simp [this.2]⟩
theorem zip_left : ∀ {a b : List Tm}, a.length = b.length → (zipP a b).map (·.l) = a
 | [], [], _ => rfl
 | [], _ :: _, h => by simp at h
 | _ :: _, [], h => by simp at h
 | t :: a, u :: b, h => by rw [zipP, List.map_cons, zip_left (by simpa using h)]
theorem size_mem {l : List Tm} {t : Tm} (h : t ∈ l) : sizeL [t] ≤ sizeL l := by
 induction l with
 | nil => cases h
 | cons a r ih =>
  have hc := size_cons a r
  rcases List.mem_cons.1 h with rfl | h
  ·omega
  ·have := ih h; omega
theorem onT_id {s : List Bd} {t : Tm} (h : ∀ e ∈ s, ¬ occL e.nm [t]) : onT s t = t := by
 have h1 := onL_id [t] h
 rw [onL_cons] at h1
 simpa [onL] using h1
theorem occ_mem {y : ByteArray} {l : List Tm} {t : Tm} (h : t ∈ l) (ho : occL y [t]) : occL y l := by
 induction l with
 | nil => cases h
 | cons a r ih =>
  rcases List.mem_cons.1 h with rfl | h
  ·exact occL_cons.2 (Or.inl ho)
  ·exact occL_cons.2 (Or.inr (ih h))
theorem UI.deep {V : List ByteArray} {h : List (ByteArray × Tm)} {p : Pr} {l : List Pr} (u : UI V h (p :: l)) (ha : sizeL [onT (sAt h) p.l] ≤ 2000) (hb : sizeL [onT (sAt h) p.r] ≤ 2000) (hl : (onT (sAt h) p.l).args.length = (onT (sAt h) p.r).args.length) :
  UI V h (zipP (onT (sAt h) p.l).args (onT (sAt h) p.r).args ++ l) ∧ ∀ q ∈ zipP (onT (sAt h) p.l).args (onT (sAt h) p.r).args, onT (sAt h) q.l = q.l ∧ onT (sAt h) q.r = q.r := by
 have ok := u.good.all
 obtain ⟨e1, e2⟩ := u.head
 have ea := errL_onT2 ok e1
 have eb := errL_onT2 ok e2
 have ga := ok.goneT e1
 have gb := ok.goneT e2
 have hV := u.vars
 rw [flatP, onL_cons, onL_cons] at hV
 have hset : ∀ q ∈ zipP (onT (sAt h) p.l).args (onT (sAt h) p.r).args, onT (sAt h) q.l = q.l ∧ onT (sAt h) q.r = q.r := fun q hq => by
  obtain ⟨m1, m2⟩ := zip_mem hq
  exact ⟨onT_id fun e he ho => ga e he (occ_sub (occ_mem m1 ho)), onT_id fun e he ho => gb e he (occ_sub (occ_mem m2 ho))⟩
 have sa := size_sub (onT (sAt h) p.l)
 have sb := size_sub (onT (sAt h) p.r)
 refine ⟨⟨u.good, u.names, u.inV, ?_, fun y hy ho => ?_, fun q hq => ?_, ?_⟩, hset⟩
 ·rw [flatP_append]
  exact err_append.2 ⟨zip_err (err_sub ea) (err_sub eb), u.drop.err⟩
 ·rw [flatP_append, onL_append] at ho
  rcases occL_append.1 ho with ho | ho
  ·rw [onL_id] at ho
   ·rcases zip_occ ho with ho | ho
    ·exact hV y hy (occL_cons.2 (Or.inl (occ_sub ho)))
    ·exact hV y hy (occL_cons.2 (Or.inr (occL_cons.2 (Or.inl (occ_sub ho)))))
   ·intro e he hoc
    rcases zip_occ hoc with hoc | hoc
    ·exact ga e he (occ_sub hoc)
    ·exact gb e he (occ_sub hoc)
  ·exact hV y hy (occL_cons.2 (Or.inr (occL_cons.2 (Or.inr ho))))
 ·rcases List.mem_append.1 hq with hq | hq
  ·obtain ⟨m1, m2⟩ := zip_mem hq
   have := size_mem m1
   have := size_mem m2
   omega
  ·exact u.size q (by simp [hq])
 ·obtain ⟨l1, l2, e, g7, g8, g9⟩ := u.len
  cases l1 with
  | nil =>
   cases l2 with
   | nil => cases e
   | cons q l2 =>
    simp only [List.nil_append, List.cons.injEq] at e
    obtain ⟨rfl, rfl⟩ := e
    simp only [List.length_cons] at g9
    exact ⟨_, l, rfl, hset, by rw [zip_left hl]; omega, by omega⟩
  | cons q l1 =>
   simp only [List.cons_append, List.cons.injEq] at e
   obtain ⟨rfl, rfl⟩ := e
   rw [List.map_cons, size_cons] at g8
   have hp := (g7 p (by simp)).1
   refine ⟨zipP (onT (sAt h) p.l).args (onT (sAt h) p.r).args ++ l1, l2, by rw [List.append_assoc], fun q hq => ?_, ?_, g9⟩
   ·rcases List.mem_append.1 hq with hq | hq
    ·exact hset q hq
    ·exact g7 q (by simp [hq])
   ·rw [List.map_append, sizeL_append, zip_left hl]
    rw [hp] at sa ⊢
    omega
def Agr (t s : List Bd) : Prop := ∀ d ∈ s, onT t ⟨d.nm, []⟩ = onT t d.t
def Uni (t : List Bd) (l : List Pr) : Prop := ∀ p ∈ l, onT t p.l = onT t p.r
theorem agr_onL {t s : List Bd} (ht : ∀ d ∈ t, varB d.nm = true) (hs : ∀ d ∈ s, varB d.nm = true) (ha : Agr t s) : ∀ l : List Tm, errL l = 0 → onL t (onL s l) = onL t l := by
 intro l
 induction l using Tm.indL with
 | h0 => intro _; simp [onL]
 | h n l r ihl ihr =>
  intro he
  obtain ⟨g1, g2, g3⟩ := errL_parts he
  rw [onL_cons, onL_cons, onL_cons, ihr g3]
  congr 1
  cases hv : varB n with
  | false => rw [onT_sym2 hs hv, onT_sym2 ht hv, onT_sym2 ht hv, ihl g2]
  | true =>
   have e := g1 hv
   subst e
   cases hf : forT s n with
   | none => rw [onT_leaf s, hf]; rfl
   | some x =>
    rw [onT_some hf]
    obtain ⟨d, hd, e1, e2⟩ := forT_mem hf
    rw [← e2, ← ha d hd, e1]
theorem agr_on {t s : List Bd} (ht : ∀ d ∈ t, varB d.nm = true) (hs : ∀ d ∈ s, varB d.nm = true) (ha : Agr t s) {x : Tm} (he : errL [x] = 0) : onT t (onT s x) = onT t x := by
 have h := agr_onL ht hs ha [x] he
 rw [onL_cons, onL_cons, onL_cons] at h
 simpa [onL] using h
theorem agr_add {t s : List Bd} (ht : ∀ d ∈ t, varB d.nm = true) {x : ByteArray} {u : Tm} (hx : varB x = true) (hs : ∀ d ∈ s, errL [d.t] = 0) : Agr t (addS s x u) ↔ (Agr t s ∧ onT t ⟨x, []⟩ = onT t u) := by
 have one : ∀ {v : Tm}, onT t ⟨x, []⟩ = onT t u → errL [v] = 0 → onT t (onT [⟨x, u⟩] v) = onT t v := fun hxu hv => agr_on ht (by simpa using hx) (by simpa [Agr] using hxu) hv
 have hm : ∀ d, d ∈ addS s x u ↔ d ∈ s.map (putB x u) ++ [⟨x, u⟩] := fun d => (srtB_perm _).mem_iff
 constructor
 ·intro h
  have hxu : onT t ⟨x, []⟩ = onT t u := h ⟨x, u⟩ ((hm _).2 (by simp))
  refine ⟨fun d hd => ?_, hxu⟩
  have h1 := h (putB x u d) ((hm _).2 (List.mem_append_left _ (List.mem_map.2 ⟨d, hd, rfl⟩)))
  simp only [putB] at h1
  rw [h1, one hxu (hs d hd)]
 ·rintro ⟨h, hxu⟩ d hd
  rcases List.mem_append.1 ((hm d).1 hd) with hd | hd
  ·obtain ⟨e, he, rfl⟩ := List.mem_map.1 hd
   simp only [putB]
   rw [one hxu (hs e he)]
   exact h e he
  ·have e : d = ⟨x, u⟩ := by simpa using hd
   subst e
   exact hxu
theorem occ_size {t : List Bd} (ht : ∀ d ∈ t, varB d.nm = true) {x : ByteArray} (hx : varB x = true) : ∀ l : List Tm, errL l = 0 → occL x l → sizeL [onT t ⟨x, []⟩] ≤ sizeL (onL t l) := by
 intro l
 induction l using Tm.indL with
 | h0 => intro _ ho; obtain ⟨k, hk, _⟩ := ho; simp [preL] at hk
 | h n l r ihl ihr =>
  intro he ho
  obtain ⟨g1, g2, g3⟩ := errL_parts he
  have hcc := size_cons (onT t ⟨n, l⟩) (onL t r)
  rw [onL_cons]
  rcases occL_node.1 ho with rfl | ho | ho
  ·have e := g1 hx
   subst e
   omega
  ·cases hv : varB n with
   | false =>
    have := ihl g2 ho
    rw [onT_sym2 ht hv] at hcc ⊢
    have e : sizeL [(⟨n, onL t l⟩ : Tm)] = 1 + sizeL (onL t l) := by simp [sizeL]
    omega
   | true =>
    have e := g1 hv
    subst e
    obtain ⟨k, hk, _⟩ := ho
    simp [preL] at hk
  ·have := ihr g3 ho
   omega
theorem occ_never {t : List Bd} (ht : ∀ d ∈ t, varB d.nm = true) {x : ByteArray} (hx : varB x = true) {u : Tm} (he : errL [u] = 0) (hn : x ≠ u.name) (ho : occL x [u]) : onT t ⟨x, []⟩ ≠ onT t u := fun hh => by
 obtain ⟨n, k⟩ := u
 obtain ⟨g1, g2, _⟩ := errL_parts he
 have hok : occL x k := by
  rcases occL_node.1 ho with h | h | h
  ·exact absurd h.symm hn
  ·exact h
  ·obtain ⟨y, hy, _⟩ := h; simp [preL] at hy
 cases hv : varB n with
 | true =>
  have e := g1 hv
  subst e
  obtain ⟨y, hy, _⟩ := hok
  simp [preL] at hy
 | false =>
  have h1 := occ_size ht hx k g2 hok
  rw [hh, onT_sym2 ht hv] at h1
  have e : sizeL [(⟨n, onL t k⟩ : Tm)] = 1 + sizeL (onL t k) := by simp [sizeL]
  omega
theorem uni_zip {t : List Bd} : ∀ {a b : List Tm}, a.length = b.length → (Uni t (zipP a b) ↔ onL t a = onL t b)
 | [], [], _ => by simp [Uni, zipP]
 | [], _ :: _, h => by simp at h
 | _ :: _, [], h => by simp at h
 | x :: a, y :: b, h => by
  have ih := uni_zip (t := t) (a := a) (b := b) (by simpa using h)
  rw [zipP, onL_cons, onL_cons, List.cons.injEq, ← ih]
  simp [Uni]
theorem var_leaf {u : Tm} (he : errL [u] = 0) (hv : varB u.name = true) : u = ⟨u.name, []⟩ := by
 obtain ⟨n, k⟩ := u
 have := (errL_parts he).1 hv
 subst this
 rfl
theorem step_agr {t : List Bd} (ht : ∀ d ∈ t, varB d.nm = true) {V : List ByteArray} {h : List (ByteArray × Tm)} {p : Pr} {l : List Pr} (u : UI V h (p :: l)) :
  (∀ e s', uPair false (sAt h) l (onT (sAt h) p.l) (onT (sAt h) p.r) = .stop e s' → e = 8 ∨ ¬ (Agr t (sAt h) ∧ onT t p.l = onT t p.r)) ∧
  (∀ s' l', uPair false (sAt h) l (onT (sAt h) p.l) (onT (sAt h) p.r) = .go s' l' → ∃ h', s' = sAt h' ∧ UI V h' l' ∧ ((Agr t (sAt h') ∧ Uni t l') ↔ (Agr t (sAt h) ∧ Uni t (p :: l)))) := by
 have ok := u.good.all
 obtain ⟨e1, e2⟩ := u.head
 have ea := errL_onT2 ok e1
 have eb := errL_onT2 ok e2
 have hon : Agr t (sAt h) → (onT t p.l = onT t p.r ↔ onT t (onT (sAt h) p.l) = onT t (onT (sAt h) p.r)) := fun ha => by
  rw [agr_on ht ok.vars ha e1, agr_on ht ok.vars ha e2]
 have huc : Uni t (p :: l) ↔ (onT t p.l = onT t p.r ∧ Uni t l) := by simp [Uni]
 have hbv := fun x y => u.bindV (x := x) (t := y)
 have hdp := u.deep
 have hse : ∀ d ∈ sAt h, errL [d.t] = 0 := fun d hd => (ok.2.1 d hd).2
 generalize onT (sAt h) p.l = a at *
 generalize onT (sAt h) p.r = b at *
 have bindCase : ∀ (x : ByteArray) (y : Tm), varB x = true → x ≠ y.name → errL [y] = 0 → ((x = a.name ∧ y = b) ∨ (x = b.name ∧ y = a)) → (Agr t (sAt h) → (onT t p.l = onT t p.r ↔ onT t ⟨x, []⟩ = onT t y)) →
   (∀ e s', uBind false (sAt h) l x y = .stop e s' → e = 8 ∨ ¬ (Agr t (sAt h) ∧ onT t p.l = onT t p.r)) ∧ (∀ s' l', uBind false (sAt h) l x y = .go s' l' → ∃ h', s' = sAt h' ∧ UI V h' l' ∧ ((Agr t (sAt h') ∧ Uni t l') ↔ (Agr t (sAt h) ∧ Uni t (p :: l)))) := fun x y hx hne hey hor hiff => by
  unfold uBind
  by_cases ho : inB x (varsP [] (preL [y])) = true
  ·rw [if_pos ho]
   have hoc : occL x [y] := by
    apply Classical.byContradiction
    intro hn
    unfold inB at ho
    rw [List.any_eq_true] at ho
    obtain ⟨z, hz, e⟩ := ho
    have e2 : z = x := bytes_inj (by simpa using e)
    subst e2
    rcases varsP_sub _ _ _ hz with h1 | ⟨k, h1, h2, _⟩
    ·cases h1
    ·exact hn ⟨k, h1, h2⟩
   refine ⟨fun e s' hh => Or.inr fun hA => occ_never ht hx hey hne hoc ((hiff hA.1).1 hA.2), fun s' l' hh => by cases hh⟩
  ·rw [if_neg ho, if_neg (by simp)]
   refine ⟨fun e s' hh => (by cases hh), fun s' l' hh => ?_⟩
   cases hh
   refine ⟨h ++ [(x, y)], by rw [sAt_snoc]; rfl, (hbv x y hx hor ho).2, ?_⟩
   rw [sAt_snoc, agr_add ht hx hse, huc]
   constructor
   ·rintro ⟨⟨h1, h2⟩, h3⟩
    exact ⟨h1, (hiff h1).2 h2, h3⟩
   ·rintro ⟨h1, h2, h3⟩
    exact ⟨⟨h1, (hiff h1).1 h2⟩, h3⟩
 unfold uPair
 by_cases hz : 2000 < sizeL [a] ∨ 2000 < sizeL [b]
 ·rw [if_pos hz]
  refine ⟨fun e s' hh => (by cases hh; exact Or.inl rfl), fun s' l' hh => by cases hh⟩
 rw [if_neg hz]
 by_cases hva : varB a.name = true
 ·rw [if_pos hva]
  have hal := var_leaf ea hva
  by_cases hn : a.name = b.name
  ·rw [if_pos hn]
   refine ⟨fun e s' hh => (by cases hh), fun s' l' hh => ?_⟩
   cases hh
   have hbl := var_leaf eb (by rw [← hn]; exact hva)
   refine ⟨h, rfl, u.drop, ?_⟩
   rw [huc]
   constructor
   ·rintro ⟨h1, h2⟩
    exact ⟨h1, (hon h1).2 (by rw [hal, hbl, hn]), h2⟩
   ·rintro ⟨h1, _, h2⟩
    exact ⟨h1, h2⟩
  ·rw [if_neg hn]
   exact bindCase a.name b hva hn eb (Or.inl ⟨rfl, rfl⟩) (fun hA => by rw [hon hA, ← hal])
 rw [if_neg hva]
 have hva' : varB a.name = false := by simpa using hva
 by_cases hvb : varB b.name = true
 ·rw [if_pos hvb]
  have hbl := var_leaf eb hvb
  exact bindCase b.name a hvb (fun e => hva (by rw [← e]; exact hvb)) ea (Or.inr ⟨rfl, rfl⟩) (fun hA => by rw [hon hA, ← hbl]; exact eq_comm)
 rw [if_neg hvb]
 have hvb' : varB b.name = false := by simpa using hvb
 have ha2 : onT t a = ⟨a.name, onL t a.args⟩ := by
  obtain ⟨n, k⟩ := a
  exact onT_sym2 ht hva' k
 have hb2 : onT t b = ⟨b.name, onL t b.args⟩ := by
  obtain ⟨n, k⟩ := b
  exact onT_sym2 ht hvb' k
 by_cases hnl : a.name = b.name ∧ a.args.length = b.args.length
 ·rw [if_pos hnl]
  refine ⟨fun e s' hh => (by cases hh), fun s' l' hh => ?_⟩
  cases hh
  refine ⟨h, rfl, (hdp (by omega) (by omega) hnl.2).1, ?_⟩
  have hua : Uni t (zipP a.args b.args ++ l) ↔ (Uni t (zipP a.args b.args) ∧ Uni t l) := by
   constructor
   ·intro hh
    exact ⟨fun q hq => hh q (List.mem_append_left _ hq), fun q hq => hh q (List.mem_append_right _ hq)⟩
   ·rintro ⟨h1, h2⟩ q hq
    rcases List.mem_append.1 hq with hq | hq
    ·exact h1 q hq
    ·exact h2 q hq
  rw [hua, huc, uni_zip hnl.2]
  constructor
  ·rintro ⟨h1, h2, h3⟩
   exact ⟨h1, (hon h1).2 (by rw [ha2, hb2, h2, hnl.1]), h3⟩
  ·rintro ⟨h1, h2, h3⟩
   have h4 := (hon h1).1 h2
   rw [ha2, hb2] at h4
   exact ⟨h1, by injection h4, h3⟩
 ·rw [if_neg hnl]
  refine ⟨fun e s' hh => Or.inr ?_, fun s' l' hh => by cases hh⟩
  rintro ⟨h1, h2⟩
  have h4 := (hon h1).1 h2
  rw [ha2, hb2] at h4
  injection h4 with h5 h6
  have h7 := congrArg List.length h6
  rw [onL_length, onL_length] at h7
  exact hnl ⟨h5, h7⟩
theorem run_agr {V : List ByteArray} : ∀ (n : Nat) (h : List (ByteArray × Tm)) (l : List Pr) (R : Int × List Bd), UI V h l → uRun false n (sAt h) l = some R →
  ∃ h', R.2 = sAt h' ∧ GoodH h' ∧ NamesH h' ∧ (R.1 = 0 → ∀ t, (∀ d ∈ t, varB d.nm = true) → (Agr t R.2 ↔ (Agr t (sAt h) ∧ Uni t l))) ∧ (R.1 ≠ 0 → R.1 ≠ 8 → ∀ t, (∀ d ∈ t, varB d.nm = true) → ¬ (Agr t (sAt h) ∧ Uni t l))
 | 0, h, l, R, u, hr => by cases hr
 | n + 1, h, [], R, u, hr => by
  simp [uRun, uNext] at hr
  subst hr
  exact ⟨h, rfl, u.good, u.names, fun _ t _ => by simp [Uni], fun h0 => absurd rfl h0⟩
 | n + 1, h, p :: l, R, u, hr => by
  rw [uRun, uNext_cons] at hr
  cases hp : uPair false (sAt h) l (onT (sAt h) p.l) (onT (sAt h) p.r) with
  | stop e s' =>
   rw [hp] at hr
   have e2 : s' = sAt h := uNext_stop (lim := false) (l := p :: l) (e := e) (by rw [uNext_cons]; exact hp)
   simp at hr
   subst hr
   refine ⟨h, e2, u.good, u.names, fun h0 => ?_, fun _ h8 t ht => ?_⟩
   ·exfalso
    have h0 : e = 0 := h0
    subst h0
    unfold uPair uBind at hp
    repeat' split at hp
    all_goals first | (cases hp; done) | (injection hp with h1 h2; exact absurd h1 (by decide))
   ·rcases (step_agr ht u).1 e s' hp with h1 | h1
    ·exact absurd h1 h8
    ·rintro ⟨h2, h3⟩
     exact h1 ⟨h2, h3 p (by simp)⟩
  | go s' l' =>
   rw [hp] at hr
   obtain ⟨h', rfl, u', _⟩ := (step_agr (t := []) (by simp) u).2 s' l' hp
   obtain ⟨h2, q1, q2, q3, q4, q5⟩ := run_agr n h' l' R u' hr
   have key : ∀ t, (∀ d ∈ t, varB d.nm = true) → ((Agr t (sAt h') ∧ Uni t l') ↔ (Agr t (sAt h) ∧ Uni t (p :: l))) := fun t ht => by
    obtain ⟨h3, e3, _, k3⟩ := (step_agr ht u).2 (sAt h') l' hp
    rw [e3]
    exact k3
   exact ⟨h2, q1, q2, q3, fun h0 t ht => (q4 h0 t ht).trans (key t ht), fun h0 h8 t ht hh => q5 h0 h8 t ht ((key t ht).2 hh)⟩
end Go.Proofs.YtdebiiodhkcnkaaGreat
