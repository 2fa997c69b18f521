/- Several texts in one. -/
import Derived.Deep.RegionHeld3
import Derived.WalkKit
import Derived.WalkSpells
import Derived.WalkLawsBesides
import Derived.Test.YtbnmlkaejdpigaaGreatDoorRows
import Derived.Deep.AppendLies
import Derived.BigQuiet
import Derived.Deep.RegionHeld
import Derived.Deep.RegionLaw
import Derived.Sort.Grow
import Derived.WideMake
import Derived.Maps.RangeRun
import Derived.Lib.Builder
import Derived.Lib.AppendStr
import Derived.Deep.AppendSrc
import Derived.Lib.ItoaNum
import Derived.Laws.IdiomStrings
import Derived.Test.YtbnmlkaejdpigaaGreatDoorShelf
import Derived.Deep.DeepCutAuto
import Derived.Laws.OwnMore
import Derived.Lib.AppendIntMem
namespace Go.Proofs.YtbnmlkaejdpigaaGreatDoor
theorem sqA : type_of% @List.setIfInBounds_toArray := @List.setIfInBounds_toArray
theorem sqB : type_of% @List.set_cons_zero := @List.set_cons_zero
theorem sqC : type_of% @List.set_cons_succ := @List.set_cons_succ
theorem sqD : type_of% @List.getElem_toArray := @List.getElem_toArray
theorem sqE : type_of% @List.getElem_cons_succ := @List.getElem_cons_succ
theorem sqF : type_of% @List.getElem_cons_zero := @List.getElem_cons_zero
theorem sq {α : Type} : (∀ (l : List α) (i : Nat) (a : α), l.toArray.setIfInBounds i a = (l.set i a).toArray) ∧ (∀ (x y : α) (l : List α), (x :: l).set 0 y = y :: l) ∧ (∀ (x y : α) (l : List α) (i : Nat), (x :: l).set (i + 1) y = x :: l.set i y) ∧
    (∀ (l : List α) (i : Nat) (h : i < l.toArray.size), l.toArray[i] = l[i]'(by simpa using h)) ∧ (∀ (a : α) (l : List α) (i : Nat) (h : i + 1 < (a :: l).length), (a :: l)[i + 1] = l[i]'(Nat.lt_of_succ_lt_succ h)) ∧ ∀ (a : α) (l : List α) (h : 0 < (a :: l).length), (a :: l)[0] = a :=
  ⟨fun _ _ _ => List.setIfInBounds_toArray .., fun _ _ _ => rfl, fun _ _ _ _ => rfl, fun _ _ _ => List.getElem_toArray .., fun _ _ _ _ => rfl, fun _ _ _ => rfl⟩
theorem tkq {P : Program} {ops : Array Oper} {Q : Exit → Act → World → Prop} {md : Region.Mode} {S : World → Prop} {oi : Oper} {v : Value} {fuel : Nat} {listed : Array Bool} {a : Act} {w : World} (i : Nat) (hi : ops[i]? = some oi)
    (hy : ∀ w, S w → (execOp a.eval oi).run P w = .ok (.value v) w) (h : wpAnyH P md ops Q S fuel (listed.setIfInBounds i true) (a.put oi.dst v) w)
    (hs : Region.noSelect ops = true := by kernel_rfl) (hf : Region.free md ops listed i = true := by kernel_rfl) (hr : (Region.ready md ops listed).contains i = true := by kernel_rfl)
    (hQ : ∀ c a w, Q (.panic c) (a.put oi.dst v) w → Q (.panic c) a w := by exact fun _ _ _ h => h) (hw : Region.wanted oi (yielded ops a.tmps) = true := by rfl) (hS : S w := by assumption) : wpAnyH P md ops Q S (fuel + 1) listed a w :=
  wpAnyH_take hi hs hf hr hQ (Or.inl ⟨hw, hy⟩) hS h
theorem rdq {P : Program} {ops : Array Oper} {Q : Exit → Act → World → Prop} {md : Region.Mode} {S : World → Prop} {fuel : Nat} {listed : Array Bool} {a : Act} {w : World} (i : Nat) {o : Oper} (ho : ops[i]? = some o)
    (h : ∀ K' : Act → World → Prop, Shut (∀ a w, S w → (S w → wpAnyH P md ops Q S fuel (listed.setIfInBounds i true) a w) → K' a w) → if Region.wanted o (yielded ops a.tmps) = true then Oper.wp P o a w K' Q else K' (a.put o.dst undef) w)
    (hr : Region.ready md ops listed = [i] := by kernel_rfl) : wpAnyH P md ops Q S (fuel + 1) listed a w :=
  wpAnyH_ready hr (by simp) (AllReadyH.cons ho h AllReadyH.nil)
open Go.RowKit
theorem hide {p : Prop} (h : p) : Hid p := h
structure Tm where
 name : ByteArray
 args : List Tm
theorem Tm.ind {P : Tm → Prop} (h : ∀ s l, (∀ x ∈ l, P x) → P ⟨s, l⟩) (t : Tm) : P t :=
 Tm.rec (motive_1 := P) (motive_2 := fun l => ∀ x ∈ l, P x) (fun s l ih => h s l ih) (fun x hx => by cases hx)
  (fun a l ha hl x hx => by
   rcases List.mem_cons.1 hx with e | e
   ·subst e; exact ha
   ·exact hl x e) t
theorem Tm.indL {P : List Tm → Prop} (h0 : P []) (h : ∀ s l r, P l → P r → P (⟨s, l⟩ :: r)) (l : List Tm) : P l :=
 Tm.rec_1 (motive_1 := fun t => P t.args) (motive_2 := P) (fun _ _ ih => ih) h0 (fun a l ha hl => by obtain ⟨s, k⟩ := a; exact h s k l ha hl) l
def sizeL : List Tm → Nat
 | [] => 0
 | ⟨_, l⟩ :: r => 1 + sizeL l + sizeL r
theorem sizeL_append (a b : List Tm) : sizeL (a ++ b) = sizeL a + sizeL b := by
 induction a with
 | nil => simp [sizeL]
 | cons t r ih => obtain ⟨s, l⟩ := t; simp only [List.cons_append, sizeL, ih]; omega
def Lies (w : World) (X : Nat → Prop) : Nat → Nat → List Tm → Prop
 | _, _, [] => True
 | b, o, ⟨s, l⟩ :: r => X b ∧ w.cell? ⟨b, o, none⟩ = some (.string s) ∧
   (∃ a c, w.cell? ⟨b, o + 1, none⟩ = some (.slice a l.length c) ∧ l.length ≤ 9223372036854775807 ∧ (l = [] ∨ ∃ b' o', a = some ⟨b', o', none⟩ ∧ Lies w X b' o' l)) ∧ Lies w X b (o + 2) r
def Sl (w : World) (X : Nat → Prop) (a : Option Addr) (l : List Tm) : Prop := l.length ≤ 9223372036854775807 ∧ (l = [] ∨ ∃ b o, a = some ⟨b, o, none⟩ ∧ Lies w X b o l)
def TV (w : World) (X : Nat → Prop) (v : Value) (t : Tm) : Prop := ∃ a c, v = .agg #[.string t.name, .slice a t.args.length c] ∧ Sl w X a t.args
theorem lies_kept {w w' : World} {X : Nat → Prop} (h : ∀ b, X b → w'.heap[b]? = w.heap[b]?) (l : List Tm) : ∀ b o, Lies w X b o l → Lies w' X b o l := by
 induction l using Tm.indL with
 | h0 => intro b o _; simp [Lies]
 | h s l r ihl ihr =>
  intro b o hl
  simp only [Lies] at hl ⊢
  obtain ⟨hx, h1, ⟨a, c, h2, h2', h3⟩, h4⟩ := hl
  refine ⟨hx, by rw [World.cell?_of_block (h b hx)]; exact h1, ⟨a, c, by rw [World.cell?_of_block (h b hx)]; exact h2, h2', ?_⟩, ihr _ _ h4⟩
  rcases h3 with h3 | ⟨b', o', h3, h5⟩
  ·exact Or.inl h3
  ·exact Or.inr ⟨b', o', h3, ihl _ _ h5⟩
theorem lies_mono {w : World} {X Y : Nat → Prop} (h : ∀ b, X b → b < w.heap.size → Y b) (l : List Tm) : ∀ b o, Lies w X b o l → Lies w Y b o l := by
 induction l using Tm.indL with
 | h0 => intro b o _; simp [Lies]
 | h s l r ihl ihr =>
  intro b o hl
  simp only [Lies] at hl ⊢
  obtain ⟨hx, h1, ⟨a, c, h2, h2', h3⟩, h4⟩ := hl
  have hb : b < w.heap.size := by
   apply Classical.byContradiction
   intro hn
   have e : w.heap[b]? = none := Array.getElem?_eq_none (by omega)
   simp [World.cell?, e] at h1
  refine ⟨h b hx hb, h1, ⟨a, c, h2, h2', ?_⟩, ihr _ _ h4⟩
  rcases h3 with h3 | ⟨b', o', h3, h5⟩
  ·exact Or.inl h3
  ·exact Or.inr ⟨b', o', h3, ihl _ _ h5⟩
theorem Sl.kept {w w' : World} {X : Nat → Prop} {a : Option Addr} {l : List Tm} (h : Sl w X a l) (hk : ∀ b, X b → w'.heap[b]? = w.heap[b]?) : Sl w' X a l := by
 obtain ⟨hl, h⟩ := h
 refine ⟨hl, ?_⟩
 rcases h with h | ⟨b, o, e, h⟩
 ·exact Or.inl h
 ·exact Or.inr ⟨b, o, e, lies_kept hk _ _ _ h⟩
theorem Sl.mono {w : World} {X Y : Nat → Prop} {a : Option Addr} {l : List Tm} (h : Sl w X a l) (hk : ∀ b, X b → b < w.heap.size → Y b) : Sl w Y a l := by
 obtain ⟨hl, h⟩ := h
 refine ⟨hl, ?_⟩
 rcases h with h | ⟨b, o, e, h⟩
 ·exact Or.inl h
 ·exact Or.inr ⟨b, o, e, lies_mono hk _ _ _ h⟩
theorem Sl.below {w w' : World} {X : Nat → Prop} {a : Option Addr} {l : List Tm} {B : Nat} (h : Sl w X a l) (hb : Below B w w') (hX : ∀ b, X b → b < w.heap.size → b < B) : Sl w' X a l := by
 have h1 : Sl w (fun b => X b ∧ b < B) a l := h.mono fun b hx hs => ⟨hx, hX b hx hs⟩
 have h2 : Sl w' (fun b => X b ∧ b < B) a l := h1.kept fun b hx => hb.block b hx.2
 exact h2.mono fun b hx _ => hx.1
theorem TV.kept {w w' : World} {X : Nat → Prop} {v : Value} {t : Tm} (h : TV w X v t) (hk : ∀ b, X b → w'.heap[b]? = w.heap[b]?) : TV w' X v t := by
 obtain ⟨a, c, e, h⟩ := h
 exact ⟨a, c, e, h.kept hk⟩
theorem TV.mono {w : World} {X Y : Nat → Prop} {v : Value} {t : Tm} (h : TV w X v t) (hk : ∀ b, X b → b < w.heap.size → Y b) : TV w Y v t := by
 obtain ⟨a, c, e, h⟩ := h
 exact ⟨a, c, e, h.mono hk⟩
theorem TV.below {w w' : World} {X : Nat → Prop} {v : Value} {t : Tm} {B : Nat} (h : TV w X v t) (hb : Below B w w') (hX : ∀ b, X b → b < w.heap.size → b < B) : TV w' X v t := by
 obtain ⟨a, c, e, h⟩ := h
 exact ⟨a, c, e, h.below hb hX⟩
theorem TV.alloc {w : World} {X : Nat → Prop} {v : Value} {t : Tm} (h : TV w X v t) (o : Obj) : TV (w.alloc o) X v t :=
 h.below ((Below.refl _ _).alloc (Nat.le_refl _) o) (fun _ _ h => h)
theorem TV.later {w w' : World} {X : Nat → Prop} {v : Value} {t : Tm} (h : TV w X v t) (hb : Below w.heap.size w w') : TV w' X v t := h.below hb (fun _ _ h => h)
theorem Sl.later {w w' : World} {X : Nat → Prop} {a : Option Addr} {l : List Tm} (h : Sl w X a l) (hb : Below w.heap.size w w') : Sl w' X a l := h.below hb (fun _ _ h => h)
theorem lies_get {w : World} {X : Nat → Prop} : ∀ (l : List Tm) (b o : Nat), Lies w X b o l → ∀ i (h : i < l.length),
  X b ∧ w.cell? ⟨b, o + i * 2, none⟩ = some (.string l[i].name) ∧ ∃ a c, w.cell? ⟨b, o + i * 2 + 1, none⟩ = some (.slice a l[i].args.length c) ∧ Sl w X a l[i].args := by
 intro l
 induction l with
 | nil => intro b o _ i h; simp at h
 | cons t r ih =>
  intro b o hl i h
  obtain ⟨s, k⟩ := t
  simp only [Lies] at hl
  obtain ⟨hx, h1, ⟨a, c, h2, h3⟩, h4⟩ := hl
  cases i with
  | zero => exact ⟨hx, h1, a, c, h2, h3⟩
  | succ i =>
   have := ih b (o + 2) h4 i (by simpa using h)
   simp only [List.getElem_cons_succ]
   rw [show o + (i + 1) * 2 = o + 2 + i * 2 by omega]
   exact this
theorem lies_mk {w : World} {X : Nat → Prop} : ∀ (l : List Tm) (b o : Nat), (∀ i (h : i < l.length),
  X b ∧ w.cell? ⟨b, o + i * 2, none⟩ = some (.string l[i].name) ∧ ∃ a c, w.cell? ⟨b, o + i * 2 + 1, none⟩ = some (.slice a l[i].args.length c) ∧ Sl w X a l[i].args) → Lies w X b o l := by
 intro l
 induction l with
 | nil => intro b o _; simp [Lies]
 | cons t r ih =>
  intro b o hl
  obtain ⟨s, k⟩ := t
  simp only [Lies]
  obtain ⟨hx, h1, a, c, h2, h3⟩ := hl 0 (by simp)
  refine ⟨hx, h1, ⟨a, c, h2, h3⟩, ih b (o + 2) fun i h => ?_⟩
  have := hl (i + 1) (by simpa using h)
  simp only [List.getElem_cons_succ] at this
  rw [show o + (i + 1) * 2 = o + 2 + i * 2 by omega] at this
  exact this
theorem Sl.get {w wr : World} {X : Nat → Prop} {a : Option Addr} {l : List Tm} {B : Nat} (h : Sl w X a l) (hb : Below B w wr) (hX : ∀ b, X b → b < w.heap.size → b < B) (k : Nat) (hk : k < l.length) :
  ∃ b o a' c', a = some ⟨b, o, none⟩ ∧ wr.cell? ⟨b, o + k * 2, none⟩ = some (.string l[k].name) ∧ wr.cell? ⟨b, o + k * 2 + 1, none⟩ = some (.slice a' l[k].args.length c') ∧ TV wr X (.agg #[.string l[k].name, .slice a' l[k].args.length c']) l[k] := by
 have h' := h.below hb hX
 obtain ⟨_, h1⟩ := h'
 rcases h1 with h1 | ⟨b, o, e, h1⟩
 ·subst h1; simp at hk
 ·obtain ⟨_, h2, a', c', h3, h4⟩ := lies_get _ _ _ h1 k hk
  exact ⟨b, o, a', c', e, h2, h3, a', c', rfl, h4⟩
set_option linter.unusedSimpArgs false
set_option linter.unusedVariables false
structure Bd where
 nm : ByteArray
 t : Tm
def BV (w : World) (X : Nat → Prop) (v : Value) (l : List Bd) : Prop :=
 ∃ a c, v = .slice a l.length c ∧ (l.length ≤ 9223372036854775807 ∧ l.length ≤ c) ∧ (l = [] ∨ ∃ b o, a = some ⟨b, o, none⟩ ∧ X b ∧ ∀ i (h : i < l.length), w.cell? ⟨b, o + i * 3, none⟩ = some (.string l[i].nm) ∧ w.cell? ⟨b, o + i * 3 + 1, none⟩ = some (.string l[i].t.name) ∧ ∃ a' c', w.cell? ⟨b, o + i * 3 + 2, none⟩ = some (.slice a' l[i].t.args.length c') ∧ Sl w X a' l[i].t.args)
theorem BV.kept {w w' : World} {X : Nat → Prop} {v : Value} {l : List Bd} (h : BV w X v l) (hk : ∀ b, X b → w'.heap[b]? = w.heap[b]?) : BV w' X v l := by
 obtain ⟨a, c, e, hl, h⟩ := h
 refine ⟨a, c, e, hl, ?_⟩
 rcases h with h | ⟨b, o, ea, hX, h⟩
 ·exact Or.inl h
 ·refine Or.inr ⟨b, o, ea, hX, fun i hi => ?_⟩
  obtain ⟨h1, h2, a', c', h3, h4⟩ := h i hi
  have hb := hk b hX
  exact ⟨by simpa [World.cell?, hb] using h1, by simpa [World.cell?, hb] using h2, a', c', by simpa [World.cell?, hb] using h3, h4.kept hk⟩
theorem cell_lt {w : World} {b o : Nat} {v : Value} (h : w.cell? ⟨b, o, none⟩ = some v) : b < w.heap.size := by
 rcases Nat.lt_or_ge b w.heap.size with h' | h'
 ·exact h'
 ·simp [World.cell?, Array.getElem?_eq_none h'] at h
theorem BV.mono {w : World} {X Y : Nat → Prop} {v : Value} {l : List Bd} (h : BV w X v l) (hk : ∀ b, X b → b < w.heap.size → Y b) : BV w Y v l := by
 obtain ⟨a, c, e, hl, h⟩ := h
 refine ⟨a, c, e, hl, ?_⟩
 rcases h with h | ⟨b, o, ea, hX, h⟩
 ·exact Or.inl h
 ·by_cases h0 : l = []
  ·exact Or.inl h0
  ·have hp : 0 < l.length := List.length_pos_iff.2 h0
   refine Or.inr ⟨b, o, ea, hk b hX (cell_lt (h 0 hp).1), fun i hi => ?_⟩
   obtain ⟨h1, h2, a', c', h3, h4⟩ := h i hi
   exact ⟨h1, h2, a', c', h3, h4.mono hk⟩
theorem BV.later {w w' : World} {X : Nat → Prop} {v : Value} {l : List Bd} (h : BV w X v l) (hb : Below w.heap.size w w') : BV w' X v l :=
 ((h.mono (Y := fun b => X b ∧ b < w.heap.size) fun b h1 h2 => ⟨h1, h2⟩).kept fun b hx => hb.block b hx.2).mono fun b hx _ => hx.1
theorem BV.alloc {w : World} {X : Nat → Prop} {v : Value} {l : List Bd} (h : BV w X v l) (o : Obj) : BV (w.alloc o) X v l := h.later ((Below.refl _ _).alloc (Nat.le_refl _) o)
theorem BV.get {w : World} {X : Nat → Prop} {a : Option Addr} {n c : Nat} {l : List Bd} (h : BV w X (.slice a n c) l) (i : Nat) (hi : i < l.length) :
  ∃ b o a' c', a = some ⟨b, o, none⟩ ∧ w.cell? ⟨b, o + i * 3, none⟩ = some (.string l[i].nm) ∧ w.cell? ⟨b, o + i * 3 + 1, none⟩ = some (.string l[i].t.name) ∧ w.cell? ⟨b, o + i * 3 + 2, none⟩ = some (.slice a' l[i].t.args.length c') ∧ Sl w X a' l[i].t.args := by
 obtain ⟨a2, c2, e, hl, h⟩ := h
 simp at e
 obtain ⟨rfl, rfl, rfl⟩ := e
 rcases h with h | ⟨b, o, ea, hX, h⟩
 ·subst h; simp at hi
 ·obtain ⟨h1, h2, a', c', h3, h4⟩ := h i hi
  exact ⟨b, o, a', c', ea, h1, h2, h3, h4⟩
theorem bytes_inj {a b : ByteArray} (h : a.toList = b.toList) : a = b := by
 rw [ByteArray.toList_eq, ByteArray.toList_eq] at h
 cases a with
 | mk x =>
  cases b with
  | mk y => congr 1; exact Array.toList_inj.1 h
theorem bytes_yes {a b : ByteArray} (h : a = b) : (a.toList == b.toList) = true := by rw [h]; simp
theorem bytes_no {a b : ByteArray} (h : a ≠ b) : (a.toList == b.toList) = false := beq_eq_false_iff_ne.2 fun e => h (bytes_inj e)
def forT : List Bd → ByteArray → Option Tm
 | [], _ => none
 | d :: r, n => if d.nm = n then some d.t else forT r n
theorem sizeL_take (l : List Tm) (k : Nat) (h : k < l.length) : sizeL (l.take (k + 1)) = sizeL (l.take k) + sizeL [l[k]] := by
 rw [List.take_succ_eq_append_getElem h, sizeL_append]
theorem sizeL_take_le (l : List Tm) (k : Nat) : sizeL (l.take k) ≤ sizeL l := by
 have := sizeL_append (l.take k) (l.drop k)
 rw [List.take_append_drop] at this
 omega
theorem ret_int {k : IntKind} {a b : Int} (h : a = b) : Ending.returned (.int k a) = .returned (.int k b) := by rw [h]
theorem below_box {w wr : World} {o : Obj} (hb : Below (w.heap.size + 1) (w.alloc o) wr) : Below w.heap.size w wr :=
 ((Below.refl _ _).alloc (Nat.le_refl _) _).trans (hb.mono (Nat.le_succ _))
def digB (n : Int) : Bool := decide (48 ≤ n) && decide (n ≤ 57)
def capB (n : Int) : Bool := decide (65 ≤ n) && decide (n ≤ 90)
def lowB (n : Int) : Bool := decide (97 ≤ n) && decide (n ≤ 122)
def letB (n : Int) : Bool := lowB n || capB n
def alnB (n : Int) : Bool := letB n || digB n
theorem ret_bool {a b : Bool} (h : a = b) : Ending.returned (.bool a) = .returned (.bool b) := by rw [h]
set_option maxHeartbeats 400000 in
theorem isDigit_any (n : Int) (w : World) : Calls Tryz.prog 97 #[.int .u8 n] w fun e w' => e = .returned (.bool (digB n)) ∧ w' = w := by
 go_enter Tryz.func97, Tryz.ntmps97
 go_wp2_with fail
 all_goals (go_ret; refine ⟨ret_bool ?_, rfl⟩; rw [Bool.eq_iff_iff]; simp [alnB, letB, lowB, capB, digB] <;> omega)
set_option maxHeartbeats 400000 in
theorem isCapital_any (n : Int) (w : World) : Calls Tryz.prog 63 #[.int .u8 n] w fun e w' => e = .returned (.bool (capB n)) ∧ w' = w := by
 go_enter Tryz.func63, Tryz.ntmps63
 go_wp2_with fail
 all_goals (go_ret; refine ⟨ret_bool ?_, rfl⟩; rw [Bool.eq_iff_iff]; simp [alnB, letB, lowB, capB, digB] <;> omega)
set_option maxHeartbeats 400000 in
theorem isLetter_any (n : Int) (w : World) : Calls Tryz.prog 96 #[.int .u8 n] w fun e w' => e = .returned (.bool (letB n)) ∧ w' = w := by
 go_enter Tryz.func96, Tryz.ntmps96
 go_wp2_with (go_at_call 63; refine (isCapital_any _ _).mono ?_; rintro e w' ⟨rfl, rfl⟩)
 all_goals (go_ret; refine ⟨ret_bool ?_, rfl⟩; rw [Bool.eq_iff_iff]; simp [alnB, letB, lowB, capB, digB] <;> omega)
set_option maxHeartbeats 400000 in
theorem isLetterR_any (n : Int) (w : World) : Calls Tryz.prog 32 #[.int .u8 n] w fun e w' => e = .returned (.bool (alnB n)) ∧ w' = w := by
 go_enter Tryz.func32, Tryz.ntmps32
 go_wp2_with fail
 all_goals (go_ret; refine ⟨ret_bool ?_, rfl⟩; rw [Bool.eq_iff_iff]; simp [alnB, letB, lowB, capB, digB] <;> omega)
def byteAt (s : ByteArray) (i : Nat) : Int := if h : i < s.size then (s[i].toNat : Int) else 0
theorem byteAt_of {s : ByteArray} {i : Nat} (h : i < s.size) : (s[i].toNat : Int) = byteAt s i := by simp [byteAt, h]
def varB (s : ByteArray) : Bool := capB (byteAt s 0)
def alnTo (s : ByteArray) (k : Nat) : Bool := (List.range k).all fun i => alnB (byteAt s i)
def nameB (s : ByteArray) : Bool := decide (1 ≤ s.size) && decide (s.size ≤ 8) && !digB (byteAt s 0) && alnTo s s.size
theorem isEmpty_pos {s : ByteArray} (h : 0 < s.size) : s.toList.isEmpty = false := by
 rw [ByteArray.toList_eq, List.isEmpty_eq_false_iff, ← List.length_pos_iff]
 simpa using h
theorem isEmpty_zero {s : ByteArray} (h : ¬ 0 < s.size) : s.toList.isEmpty = true := by
 rw [ByteArray.toList_eq, List.isEmpty_iff, ← List.length_eq_zero_iff]
 have : s.size = 0 := by omega
 simpa using this
theorem alnTo_succ (s : ByteArray) (k : Nat) : alnTo s (k + 1) = (alnTo s k && alnB (byteAt s k)) := by
 simp [alnTo, List.range_succ, List.all_append]
theorem alnTo_false {s : ByteArray} {k n : Nat} (h : k ≤ n) (hf : alnTo s k = false) : alnTo s n = false := by
 cases hn : alnTo s n with
 | false => rfl
 | true =>
  rw [← hf]; symm
  unfold alnTo at hn ⊢
  rw [List.all_eq_true] at hn ⊢
  intro x hx; exact hn x (by rw [List.mem_range] at hx ⊢; omega)
set_option maxHeartbeats 400000 in
theorem isVarR_any (s : ByteArray) (w : World) : Calls Tryz.prog 34 #[.string s] w fun e w' => e = .returned (.bool (varB s)) ∧ w' = w := by
 by_cases h : 0 < s.size
 ·have hb := hide (byteAt_of h)
  have he := isEmpty_pos h
  go_enter Tryz.func34, Tryz.ntmps34
  go_wp2_with fail
  all_goals (go_ret; refine ⟨ret_bool ?_, rfl⟩; have hb' := hb.out; rw [Bool.eq_iff_iff]; simp [varB, capB] <;> omega)
 ·have he := isEmpty_zero h
  have hv : Hid (false = varB s) := by simp [Hid, varB, byteAt, h, capB]
  go_enter Tryz.func34, Tryz.ntmps34
  go_wp2_with fail
  go_ret
  exact ⟨ret_bool hv.out, rfl⟩
set_option maxHeartbeats 400000 in
theorem isVariable_all (s : ByteArray) (w : World) : Calls Tryz.prog 36 #[.string s] w fun e w' => e = .returned (.bool (varB s)) ∧ w' = w := by
 by_cases h : 0 < s.size
 ·have hb := hide (byteAt_of h)
  have he := isEmpty_pos h
  go_enter Tryz.func36, Tryz.ntmps36
  go_wp2_with (go_at_call 63; refine (isCapital_any _ _).mono ?_; rintro e w' ⟨rfl, rfl⟩)
  go_ret
  refine ⟨ret_bool ?_, rfl⟩
  rw [hb.out]; rfl
 ·have he := isEmpty_zero h
  have hv : Hid (false = varB s) := by simp [Hid, varB, byteAt, h, capB]
  go_enter Tryz.func36, Tryz.ntmps36
  go_wp2_with fail
  go_ret
  exact ⟨ret_bool hv.out, rfl⟩
theorem isVariable_any (s : ByteArray) (w : World) (h : 0 < s.size) : Calls Tryz.prog 36 #[.string s] w fun e w' => e = .returned (.bool (varB s)) ∧ w' = w := isVariable_all s w
theorem nameB_no {s : ByteArray} {k : Nat} (hk : k < s.size) (h : alnB (byteAt s k) = false) : nameB s = false := by
 have h1 : alnTo s (k + 1) = false := by rw [alnTo_succ, h]; simp
 have h2 := alnTo_false (n := s.size) (by omega) h1
 simp [nameB, h2]
set_option maxHeartbeats 400000 in
theorem isName_any (s : ByteArray) (w : World) : Calls Tryz.prog 80 #[.string s] w fun e w' => e = .returned (.bool (nameB s)) ∧ w' = w := by
 by_cases h0 : s.size < 1
 ·have hn : Hid (false = nameB s) := by simp [Hid, nameB]; omega
  go_enter Tryz.func80, Tryz.ntmps80
  go_wp2_with fail
  go_ret
  exact ⟨ret_bool hn.out, rfl⟩
 ·by_cases h8 : 8 < s.size
  ·have hn : Hid (false = nameB s) := by simp [Hid, nameB]; omega
   go_enter Tryz.func80, Tryz.ntmps80
   go_wp2_with fail
   all_goals (go_ret; exact ⟨ret_bool hn.out, rfl⟩)
  ·have hb := hide (byteAt_of (s := s) (i := 0) (by omega))
   by_cases hd : digB (byteAt s 0) = true
   ·have hn : Hid (false = nameB s) := by simp [Hid, nameB, hd]
    have hd' := hide hd
    clear hd
    go_enter Tryz.func80, Tryz.ntmps80
    go_wp2_with (go_at_call 97; refine (isDigit_any _ _).mono ?_; rintro e w' ⟨rfl, rfl⟩; rw [hb.out, hd'.out])
    all_goals (go_ret; exact ⟨ret_bool hn.out, rfl⟩)
   ·have hd' : Hid (digB (byteAt s 0) = false) := by simpa [Hid] using hd
    clear hd
    go_enter Tryz.func80, Tryz.ntmps80
    go_wp2_with (go_at_call 97; refine (isDigit_any _ _).mono ?_; rintro e w' ⟨rfl, rfl⟩; rw [hb.out, hd'.out])
    go_loop [19] (fun i => ∃ k : Nat, k ≤ s.size ∧ i = .int .i64 k ∧ alnTo s k = true) (fun i => s.size - (intOf i).toNat)
    case atStart => exact ⟨0, Nat.zero_le _, rfl, rfl⟩
    case round =>
     obtain ⟨k, hk, rfl, ha⟩ := hrel
     have HA := hide ha
     clear ha
     by_cases hlt : k < s.size
     ·have hbk := hide (byteAt_of hlt)
      have hsuc := hide (alnTo_succ s k)
      cases hl : letB (byteAt s k) with
      | true =>
       have HL := hide hl
       clear hl
       go_wp2_with (go_at_call 96; refine (isLetter_any _ _).mono ?_; rintro e w' ⟨rfl, rfl⟩; rw [hbk.out, HL.out])
       go_round
       case rel => exact ⟨k + 1, by omega, by go_num, by rw [hsuc.out, HA.out, alnB, HL.out]; rfl⟩
       case measure => simp [intOf]; omega
      | false =>
       have HL := hide hl
       clear hl
       cases hg : digB (byteAt s k) with
       | true =>
        have HG := hide hg
        clear hg
        go_wp2_with (first | (go_at_call 96; refine (isLetter_any _ _).mono ?_; rintro e w' ⟨rfl, rfl⟩; rw [hbk.out, HL.out]) | (go_at_call 97; refine (isDigit_any _ _).mono ?_; rintro e w' ⟨rfl, rfl⟩; rw [hbk.out, HG.out]))
        go_round
        case rel => exact ⟨k + 1, by omega, by go_num, by rw [hsuc.out, HA.out, alnB, HL.out, HG.out]; rfl⟩
        case measure => simp [intOf]; omega
       | false =>
        have HG := hide hg
        clear hg
        go_wp2_with (first | (go_at_call 96; refine (isLetter_any _ _).mono ?_; rintro e w' ⟨rfl, rfl⟩; rw [hbk.out, HL.out]) | (go_at_call 97; refine (isDigit_any _ _).mono ?_; rintro e w' ⟨rfl, rfl⟩; rw [hbk.out, HG.out]))
        go_ret
        exact ⟨ret_bool (nameB_no hlt (by rw [alnB, HL.out, HG.out]; rfl)).symm, rfl⟩
     ·have hn : Hid (true = nameB s) := by
       have e : k = s.size := by omega
       have := HA.out
       rw [e] at this
       simp [Hid, nameB, this, hd'.out]; omega
      go_wp2_with fail
      go_ret
      exact ⟨ret_bool hn.out, rfl⟩
set_option maxHeartbeats 400000 in
theorem isNameR_any (s : ByteArray) (w : World) : Calls Tryz.prog 33 #[.string s] w fun e w' => e = .returned (.bool (nameB s)) ∧ w' = w := by
 by_cases h0 : 0 < s.size
 ·have he := isEmpty_pos h0
  have hb := hide (byteAt_of h0)
  by_cases h8 : 8 < s.size
  ·have hn : Hid (false = nameB s) := by simp [Hid, nameB]; omega
   go_enter Tryz.func33, Tryz.ntmps33
   go_wp2_with fail
   all_goals (go_ret; exact ⟨ret_bool hn.out, rfl⟩)
  ·cases hd : digB (byteAt s 0) with
   | true =>
    have hn : Hid (false = nameB s) := by simp [Hid, nameB, hd]
    have hd1 : 48 ≤ (s[0].toNat : Int) := by rw [hb.out]; simp [digB] at hd; exact hd.1
    have hd2 : (s[0].toNat : Int) ≤ 57 := by rw [hb.out]; simp [digB] at hd; exact hd.2
    clear hd
    go_enter Tryz.func33, Tryz.ntmps33
    go_wp2_with fail
    all_goals (go_ret; exact ⟨ret_bool hn.out, rfl⟩)
   | false =>
    have HD := hide hd
    clear hd
    have hor : (s[0].toNat : Int) < 48 ∨ (48 ≤ (s[0].toNat : Int) ∧ 57 < (s[0].toNat : Int)) := by
     have := HD.out; rw [hb.out]; simp [digB] at this; omega
    rcases hor with h1 | ⟨h1, h2⟩
    all_goals
     go_enter Tryz.func33, Tryz.ntmps33
     go_wp2_with fail
     go_loop [3] (fun i => ∃ k : Nat, k ≤ s.size ∧ i = .int .i64 k ∧ alnTo s k = true) (fun i => s.size - (intOf i).toNat)
     case atStart => exact ⟨0, Nat.zero_le _, rfl, rfl⟩
     case round =>
      obtain ⟨k, hk, rfl, ha⟩ := hrel
      have HA := hide ha
      clear ha
      by_cases hlt : k < s.size
      ·have hbk := hide (byteAt_of hlt)
       have hsuc := hide (alnTo_succ s k)
       cases hl : alnB (byteAt s k) with
       | true =>
        have HL := hide hl
        clear hl
        go_wp2_with (go_at_call 32; refine (isLetterR_any _ _).mono ?_; rintro e w' ⟨rfl, rfl⟩; rw [hbk.out, HL.out])
        go_round
        case rel => exact ⟨k + 1, by omega, by go_num, by rw [hsuc.out, HA.out, HL.out]; rfl⟩
        case measure => simp [intOf]; omega
       | false =>
        have HL := hide hl
        clear hl
        go_wp2_with (go_at_call 32; refine (isLetterR_any _ _).mono ?_; rintro e w' ⟨rfl, rfl⟩; rw [hbk.out, HL.out])
        go_ret
        exact ⟨ret_bool (nameB_no hlt HL.out).symm, rfl⟩
      ·have hn : Hid (true = nameB s) := by
        have e : k = s.size := by omega
        have := HA.out
        rw [e] at this
        simp [Hid, nameB, this, HD.out]; omega
       go_wp2_with fail
       go_ret
       exact ⟨ret_bool hn.out, rfl⟩
 ·have he := isEmpty_zero h0
  have hn : Hid (false = nameB s) := by simp [Hid, nameB]; omega
  go_enter Tryz.func33, Tryz.ntmps33
  go_wp2_with fail
  all_goals (go_ret; exact ⟨ret_bool hn.out, rfl⟩)
theorem argsOf_any (s : ByteArray) (a : Option Addr) (n c : Nat) (w : World) :
  Calls Tryz.prog 76 #[.agg #[.string s, .slice a n c]] w fun e w' => e = .returned (.slice a n c) ∧ w' = w.alloc (.cells #[.string s, .slice a n c] 32) := by
 go_enter Tryz.func76, Tryz.ntmps76
 go_wp2_with fail
 go_ret
 exact ⟨rfl, rfl⟩
set_option maxHeartbeats 400000 in
theorem countOn_any (M : Int) (hM0 : 0 ≤ M) (hM1 : M ≤ 1000000) (t : Tm) : ∀ (v : Value) (n : Int) (w : World) (X : Nat → Prop), TV w X v t → 0 ≤ n → n ≤ M →
  Calls Tryz.prog 92 #[v, .func (.func 76) #[] #[], .int .i64 M, .int .i64 n] w fun e w' => e = .returned (.int .i64 (min (n + sizeL [t]) (M + 1))) ∧ Below w.heap.size w w' := by
 induction t using Tm.ind with
 | h s l ih =>
  intro v n w X hv hn0 hn1
  obtain ⟨a, c, rfl, hs⟩ := hv
  have IH := hide ih
  clear ih
  have hz : Hid ((sizeL [(⟨s, l⟩ : Tm)] : Int) = 1 + sizeL l) := by simp [Hid, sizeL]
  go_enter Tryz.func92, Tryz.ntmps92
  go_wp2_with (go_at_call 76; refine (argsOf_any _ _ _ _ _).mono ?_; rintro e w' ⟨rfl, rfl⟩)
  have hB0 : Hid (Below w.heap.size w ((w.alloc (Obj.cells #[Value.string s, Value.slice a l.length c] 32)).alloc (Obj.cells #[Value.string s, Value.slice a l.length c] 32))) := ((Below.refl _ _).alloc (Nat.le_refl _) _).alloc (by simp) _
  have hZ0 : Hid (w.heap.size + 2 ≤ ((w.alloc (Obj.cells #[Value.string s, Value.slice a l.length c] 32)).alloc (Obj.cells #[Value.string s, Value.slice a l.length c] 32)).heap.size) := by simp [Hid]
  generalize ((w.alloc (Obj.cells #[Value.string s, Value.slice a l.length c] 32)).alloc (Obj.cells #[Value.string s, Value.slice a l.length c] 32)) = w0 at *
  go_loopw [9, 18] (fun m i wr => ∃ k : Nat, k ≤ l.length ∧ i = .int .i64 k ∧ m = .int .i64 (min (n + 1 + sizeL (l.take k)) (M + 1)) ∧ Below w.heap.size w wr) (fun m i wr => l.length - (intOf i).toNat)
  case atStart => exact ⟨0, Nat.zero_le _, rfl, by rw [show sizeL (l.take 0) = 0 by simp [sizeL]]; congr 1; omega, hB0.out⟩
  case round =>
   obtain ⟨k, hk, rfl, rfl, hb⟩ := hrel
   have hl := hs.1
   have hsz : w.heap.size ≤ wr.heap.size := hb.size
   by_cases hlt : k < l.length
   ·obtain ⟨b, o, a', c', rfl, d0, d1, hx⟩ := hs.get hb (fun _ _ h => h) k hlt
    by_cases hle : n + 1 + (sizeL (l.take k) : Int) ≤ M
    ·have hmin : min (n + 1 + (sizeL (l.take k) : Int)) (M + 1) = n + 1 + (sizeL (l.take k) : Int) := by omega
     rw [hmin]
     go_wp2_with fail
     refine (IH.out _ (List.getElem_mem hlt) _ _ _ X (hx.alloc _) (by omega) (by omega)).mono ?_
     rintro e w1 ⟨rfl, hb1⟩
     have Hst := hide (sizeL_take l k hlt)
     go_wp2_with fail
     go_roundw
     case rel => exact ⟨k + 1, by omega, by go_num, by rw [Hst.out]; congr 1; omega, (hb.alloc hsz _).trans (hb1.mono (by simp; omega))⟩
     case measure => simp [intOf]; omega
    ·have hmin : min (n + 1 + (sizeL (l.take k) : Int)) (M + 1) = M + 1 := by omega
     rw [hmin]
     have hle2 : sizeL (l.take k) ≤ sizeL l := sizeL_take_le l k
     go_wp2_with fail
     go_ret
     refine ⟨ret_int (by have := hz.out; omega), ?_⟩
     exact hb.alloc (by omega) _
   ·have htk : l.take k = l := List.take_of_length_le (by omega)
    rw [htk]
    go_wp2_with fail
    go_ret
    exact ⟨ret_int (by have := hz.out; omega), hb⟩
theorem countT_any (M : Int) (hM0 : 0 ≤ M) (hM1 : M ≤ 1000000) (t : Tm) (v : Value) (w : World) (X : Nat → Prop) (hv : TV w X v t) :
  Calls Tryz.prog 75 #[v, .func (.func 76) #[] #[], .int .i64 M] w fun e w' => e = .returned (.int .i64 (min (sizeL [t] : Int) (M + 1))) ∧ Below w.heap.size w w' := by
 obtain ⟨a, c, rfl, hs⟩ := hv
 have hv : TV w X (.agg #[.string t.name, .slice a t.args.length c]) t := ⟨a, c, rfl, hs⟩
 go_enter Tryz.func75, Tryz.ntmps75
 go_wp2_with fail
 refine (countOn_any M hM0 hM1 t _ _ _ X (hv.alloc _) (by omega) (by omega)).mono ?_
 rintro e w1 ⟨rfl, hb1⟩
 go_wp2_with fail
 go_ret
 exact ⟨ret_int (by omega), ((Below.refl _ _).alloc (Nat.le_refl _) _).trans (hb1.mono (by simp))⟩
theorem count_any (M : Int) (hM0 : 0 ≤ M) (hM1 : M ≤ 1000000) (t : Tm) (v : Value) (w : World) (X : Nat → Prop) (hv : TV w X v t) :
  Calls Tryz.prog 52 #[v, .int .i64 M] w fun e w' => e = .returned (.int .i64 (min (sizeL [t] : Int) (M + 1))) ∧ Below w.heap.size w w' := by
 obtain ⟨a, c, rfl, hs⟩ := hv
 have hv : TV w X (.agg #[.string t.name, .slice a t.args.length c]) t := ⟨a, c, rfl, hs⟩
 go_enter Tryz.func52, Tryz.ntmps52
 go_wp2_with fail
 refine (countT_any M hM0 hM1 t _ _ X (hv.alloc _)).mono ?_
 rintro e w1 ⟨rfl, hb1⟩
 go_wp2_with fail
 go_ret
 exact ⟨ret_int (by omega), ((Below.refl _ _).alloc (Nat.le_refl _) _).trans (hb1.mono (by simp))⟩
def errL : List Tm → Int
 | [] => 0
 | ⟨s, l⟩ :: r => if nameB s = true then (if (varB s && decide (0 < l.length)) = true then 2 else if errL l = 0 then errL r else errL l) else 1
theorem errL_cons (t : Tm) (r : List Tm) : errL (t :: r) = if errL [t] = 0 then errL r else errL [t] := by
 obtain ⟨s, l⟩ := t
 simp only [errL]
 split
 ·split
  ·simp
  ·split <;> simp_all
 ·simp
theorem errL_append (a b : List Tm) : errL (a ++ b) = if errL a = 0 then errL b else errL a := by
 induction a with
 | nil => simp [errL]
 | cons t r ih =>
  rw [List.cons_append, errL_cons, errL_cons t r, ih]
  by_cases h : errL [t] = 0 <;> simp [h]
theorem errL_take (l : List Tm) (k : Nat) (h : k < l.length) : errL (l.take (k + 1)) = if errL (l.take k) = 0 then errL [l[k]] else errL (l.take k) := by
 rw [List.take_succ_eq_append_getElem h, errL_append]
theorem errL_of_take {l : List Tm} {k : Nat} (h : errL (l.take k) ≠ 0) : errL l = errL (l.take k) := by
 have := errL_append (l.take k) (l.drop k)
 rw [List.take_append_drop, if_neg h] at this
 exact this
theorem name_pos {s : ByteArray} (h : nameB s = true) : 0 < s.size := by
 simp [nameB] at h; omega
set_option maxHeartbeats 400000 in
theorem checkKnots_any (t : Tm) : ∀ (v : Value) (w : World) (X : Nat → Prop), TV w X v t →
  Calls Tryz.prog 81 #[v] w fun e w' => e = .returned (.int .i64 (errL [t])) ∧ Below w.heap.size w w' := by
 induction t using Tm.ind with
 | h s l ih =>
  intro v w X hv
  obtain ⟨a, c, rfl, hs⟩ := hv
  have IH := hide ih
  clear ih
  have hl := hs.1
  cases hn : nameB s with
  | false =>
   have hz : Hid (1 = errL [(⟨s, l⟩ : Tm)]) := by simp [Hid, errL, hn]
   have HN := hide hn
   clear hn
   go_enter Tryz.func81, Tryz.ntmps81
   go_wp2_with (go_at_call 80; refine (isName_any _ _).mono ?_; rintro e w' ⟨rfl, rfl⟩; rw [HN.out])
   go_ret
   exact ⟨ret_int hz.out, (Below.refl _ _).alloc (Nat.le_refl _) _⟩
  | true =>
   have HN := hide hn
   have hpos := name_pos hn
   by_cases hvl : varB s = true ∧ 0 < l.length
   ·obtain ⟨hv, hlp⟩ := hvl
    have hz : Hid (2 = errL [(⟨s, l⟩ : Tm)]) := by simp [Hid, errL, hn, hv, hlp]
    have HV := hide hv
    clear hn hv
    go_enter Tryz.func81, Tryz.ntmps81
    go_wp2_with (first | (go_at_call 80; refine (isName_any _ _).mono ?_; rintro e w' ⟨rfl, rfl⟩; rw [HN.out]) | (go_at_call 36; refine (isVariable_any _ _ hpos).mono ?_; rintro e w' ⟨rfl, rfl⟩; rw [HV.out]))
    go_ret
    exact ⟨ret_int hz.out, (Below.refl _ _).alloc (Nat.le_refl _) _⟩
   ·have hz : Hid (errL [(⟨s, l⟩ : Tm)] = errL l) := by
     have : (varB s && decide (0 < l.length)) = false := by
      rw [Bool.eq_false_iff]; intro h; simp at h; exact hvl ⟨h.1, by omega⟩
     simp only [Hid, errL, hn, this]
     by_cases h0 : errL l = 0 <;> simp [h0]
    have hcase : (varB s = true ∧ l.length < 1) ∨ varB s = false := by
     cases hv : varB s with
     | true => exact Or.inl ⟨rfl, by apply Classical.byContradiction; intro h; exact hvl ⟨hv, by omega⟩⟩
     | false => exact Or.inr rfl
    clear hn hvl
    rcases hcase with ⟨hv, hl0⟩ | hv
    ·have e0 : l = [] := List.length_eq_zero_iff.1 (by omega)
     subst e0
     have HV := hide hv
     clear hv
     go_enter Tryz.func81, Tryz.ntmps81
     go_wp2_with (first | (go_at_call 80; refine (isName_any _ _).mono ?_; rintro e w' ⟨rfl, rfl⟩; rw [HN.out]) | (go_at_call 36; refine (isVariable_any _ _ hpos).mono ?_; rintro e w' ⟨rfl, rfl⟩; rw [HV.out]))
     go_loop [22] (fun i => i = .int .i64 0) (fun i => 0)
     case atStart => rfl
     case round =>
      subst hrel
      have HZ : Hid (0 = errL [(⟨s, []⟩ : Tm)]) := by unfold Hid; rw [hz.out]; simp [errL]
      go_wp2_with fail
      go_ret
      exact ⟨ret_int HZ.out, (Below.refl _ _).alloc (Nat.le_refl _) _⟩
    ·have HV := hide hv
     clear hv
     go_enter Tryz.func81, Tryz.ntmps81
     go_wp2_with (first | (go_at_call 80; refine (isName_any _ _).mono ?_; rintro e w' ⟨rfl, rfl⟩; rw [HN.out]) | (go_at_call 36; refine (isVariable_any _ _ hpos).mono ?_; rintro e w' ⟨rfl, rfl⟩; rw [HV.out]))
     go_loopw [22] (fun i wr => ∃ k : Nat, k ≤ l.length ∧ i = .int .i64 k ∧ errL (l.take k) = 0 ∧ Below (w.heap.size + 1) (w.alloc (Obj.cells #[Value.string s, Value.slice a l.length c] 32)) wr) (fun i wr => l.length - (intOf i).toNat)
     case atStart => exact ⟨0, Nat.zero_le _, rfl, by simp [errL], Below.refl _ _⟩
     case round =>
      obtain ⟨k, hk, rfl, he, hb⟩ := hrel
      have HE := hide he
      clear he
      have hsz : w.heap.size + 1 ≤ wr.heap.size := by have := hb.size; simpa using this
      by_cases hlt : k < l.length
      ·obtain ⟨b, o, a', c', rfl, d0, d1, hx⟩ := hs.get (below_box hb) (fun _ _ h => h) k hlt
       have HT := hide (errL_take l k hlt)
       go_wp2_with fail
       refine (IH.out _ (List.getElem_mem hlt) _ _ X (hx.alloc _)).mono ?_
       rintro e w1 ⟨rfl, hb1⟩
       by_cases hez : errL [l[k]] = 0
       ·have HZ := hide hez
        rw [hez]
        clear hez
        go_wp2_with fail
        go_roundw
        case rel => exact ⟨k + 1, by omega, by go_num, by rw [HT.out, HE.out, HZ.out]; rfl, (hb.alloc hsz _).trans (hb1.mono (by simp; omega))⟩
        case measure => simp [intOf]; omega
       ·have hez' : (errL [l[k]] == 0) = false := by simpa using hez
        have HZ : Hid (errL [l[k]] = errL [(⟨s, l⟩ : Tm)]) := by
         have h1 : errL (l.take (k + 1)) = errL [l[k]] := by rw [HT.out, HE.out]; rfl
         unfold Hid
         rw [hz.out, errL_of_take (l := l) (k := k + 1) (by rw [h1]; exact hez), h1]
        go_wp2_with fail
        go_ret
        exact ⟨ret_int HZ.out, ((below_box hb).alloc (by omega) _).trans (hb1.mono (by simp; omega))⟩
      ·have htk : l.take k = l := List.take_of_length_le (by omega)
       have HZ : Hid (0 = errL [(⟨s, l⟩ : Tm)]) := by unfold Hid; rw [hz.out, ← htk, HE.out]
       go_wp2_with fail
       go_ret
       exact ⟨ret_int HZ.out, below_box hb⟩
def mayE (t : Tm) : Int := if 200 < sizeL [t] then 3 else errL [t]
set_option maxHeartbeats 400000 in
theorem check_any (t : Tm) (v : Value) (w : World) (X : Nat → Prop) (hv : TV w X v t) :
  Calls Tryz.prog 60 #[v] w fun e w' => e = .returned (.int .i64 (mayE t)) ∧ Below w.heap.size w w' := by
 obtain ⟨a, c, rfl, hs⟩ := hv
 have hv : TV w X (.agg #[.string t.name, .slice a t.args.length c]) t := ⟨a, c, rfl, hs⟩
 go_enter Tryz.func60, Tryz.ntmps60
 go_wp2_with fail
 refine (count_any 200 (by omega) (by omega) t _ _ X (hv.alloc _)).mono ?_
 rintro e w1 ⟨rfl, hb1⟩
 have c0 : w1.cell? ⟨w.heap.size, 0, none⟩ = some (.string t.name) := by rw [hb1.cell (p := ⟨_, _, none⟩) (by simp)]; simp
 have c1 : w1.cell? ⟨w.heap.size, 1, none⟩ = some (.slice a t.args.length c) := by rw [hb1.cell (p := ⟨_, _, none⟩) (by simp)]; simp
 have hb2 : Below w.heap.size w w1 := ((Below.refl _ _).alloc (Nat.le_refl _) _).trans (hb1.mono (by simp))
 by_cases h : 200 < sizeL [t]
 ·have hm : Hid (3 = mayE t) := by simp [Hid, mayE, h]
  have e : min (sizeL [t] : Int) (200 + 1) = 201 := by omega
  rw [e]
  go_wp2_with fail
  go_ret
  exact ⟨ret_int hm.out, hb2⟩
 ·have hm : Hid (errL [t] = mayE t) := by simp [Hid, mayE, h]
  have e : min (sizeL [t] : Int) (200 + 1) = sizeL [t] := by omega
  rw [e]
  go_wp2_with fail
  refine (checkKnots_any t _ _ X (hv.later hb2)).mono ?_
  rintro e w2 ⟨rfl, hb3⟩
  go_wp2_with fail
  go_ret
  exact ⟨ret_int hm.out, hb2.trans (hb3.mono hb2.size)⟩
def RowT (w : World) (X : Nat → Prop) : List Tm → List Value → Prop
 | [], xs => xs = []
 | t :: l, xs => ∃ a c r, xs = .string t.name :: .slice a t.args.length c :: r ∧ Sl w X a t.args ∧ RowT w X l r
theorem RowT.len {w : World} {X : Nat → Prop} : ∀ {l : List Tm} {xs : List Value}, RowT w X l xs → xs.length = l.length * 2
 | [], xs, h => by simp [RowT] at h; simp [h]
 | t :: l, xs, h => by
  obtain ⟨a, c, r, rfl, _, h⟩ := h
  simp only [List.length_cons]
  rw [RowT.len h]; omega
theorem RowT.append {w : World} {X : Nat → Prop} : ∀ {l k : List Tm} {xs ys : List Value}, RowT w X l xs → RowT w X k ys → RowT w X (l ++ k) (xs ++ ys)
 | [], k, xs, ys, h, h' => by simp [RowT] at h; subst h; simpa using h'
 | t :: l, k, xs, ys, h, h' => by
  obtain ⟨a, c, r, rfl, hs, h⟩ := h
  exact ⟨a, c, r ++ ys, rfl, hs, RowT.append h h'⟩
theorem RowT.one {w : World} {X : Nat → Prop} : ∀ {l : List Tm} {xs : List Value}, RowT w X l xs → ∀ u ∈ xs, u.oneCell' = true
 | [], xs, h, u, hu => by simp [RowT] at h; subst h; cases hu
 | t :: l, xs, h, u, hu => by
  obtain ⟨a, c, r, rfl, _, h⟩ := h
  rcases List.mem_cons.1 hu with e | hu
  ·subst e; rfl
  ·rcases List.mem_cons.1 hu with e | hu
   ·subst e; rfl
   ·exact RowT.one h u hu
theorem RowT.imp {w w' : World} {X Y : Nat → Prop} (hs : ∀ a l, Sl w X a l → Sl w' Y a l) : ∀ {l : List Tm} {xs : List Value}, RowT w X l xs → RowT w' Y l xs
 | [], xs, h => h
 | t :: l, xs, h => by
  obtain ⟨a, c, r, e, h1, h⟩ := h
  exact ⟨a, c, r, e, hs _ _ h1, RowT.imp hs h⟩
theorem RowT.get {w : World} {X : Nat → Prop} : ∀ {l : List Tm} {xs : List Value}, RowT w X l xs → ∀ i (h : i < l.length),
  xs[i * 2]? = some (.string l[i].name) ∧ ∃ a c, xs[i * 2 + 1]? = some (.slice a l[i].args.length c) ∧ Sl w X a l[i].args
 | [], xs, h, i, hi => by simp at hi
 | t :: l, xs, h, i, hi => by
  obtain ⟨a, c, r, rfl, h1, h⟩ := h
  cases i with
  | zero => exact ⟨rfl, a, c, rfl, h1⟩
  | succ i =>
   have := RowT.get h i (by simpa using hi)
   rw [show (i + 1) * 2 = i * 2 + 2 by omega, show i * 2 + 2 + 1 = (i * 2 + 1) + 2 by omega]
   simpa using this
theorem sizeL_len (l : List Tm) : l.length ≤ sizeL l := by
 induction l with
 | nil => simp
 | cons t r ih => obtain ⟨s, k⟩ := t; simp only [List.length_cons, sizeL]; omega
theorem rowT_of_lies {w : World} {X : Nat → Prop} : ∀ (l : List Tm) (b o : Nat), Lies w X b o l → ∃ xs, RowT w X l xs ∧ ∀ j u, xs[j]? = some u → w.cell? ⟨b, o + j, none⟩ = some u := by
 intro l
 induction l with
 | nil => intro b o _; exact ⟨[], rfl, by simp⟩
 | cons t r ih =>
  intro b o h
  obtain ⟨s, k⟩ := t
  simp only [Lies] at h
  obtain ⟨hx, h1, ⟨a, c, h2, h3, h4⟩, h5⟩ := h
  obtain ⟨xs, hr, hc⟩ := ih b (o + 2) h5
  refine ⟨.string s :: .slice a k.length c :: xs, ⟨a, c, xs, rfl, ⟨h3, h4⟩, hr⟩, fun j u hj => ?_⟩
  match j, hj with
  | 0, hj => simp at hj; subst hj; exact h1
  | 1, hj => simp at hj; subst hj; exact h2
  | j + 2, hj => rw [show o + (j + 2) = o + 2 + j by omega]; exact hc j u (by simpa using hj)
theorem lies_of_rowT {w w' : World} {X Y : Nat → Prop} (b : Nat) (hb : Y b) : ∀ (l : List Tm) (xs : List Value) (o : Nat), RowT w X l xs → (∀ a k, Sl w X a k → Sl w' Y a k) → (∀ j u, xs[j]? = some u → w'.cell? ⟨b, o + j, none⟩ = some u) → Lies w' Y b o l := by
 intro l
 induction l with
 | nil => intro xs o _ _ _; simp [Lies]
 | cons t r ih =>
  intro xs o h hs hc
  obtain ⟨s, k⟩ := t
  obtain ⟨a, c, r', rfl, h1, h2⟩ := h
  simp only [Lies]
  obtain ⟨h3, h4⟩ := hs _ _ h1
  refine ⟨hb, hc 0 _ rfl, ⟨a, c, hc 1 _ rfl, h3, h4⟩, ih r' (o + 2) h2 hs fun j u hj => ?_⟩
  have := hc (j + 2) u (by simpa using hj)
  rwa [show o + (j + 2) = o + 2 + j by omega] at this
def preL : List Tm → List Tm
 | [] => []
 | ⟨s, l⟩ :: r => ⟨s, l⟩ :: (preL l ++ preL r)
theorem preL_append (a b : List Tm) : preL (a ++ b) = preL a ++ preL b := by
 induction a with
 | nil => simp [preL]
 | cons t r ih => obtain ⟨s, l⟩ := t; simp [preL, ih]
theorem preL_take (l : List Tm) (k : Nat) (h : k < l.length) : preL (l.take (k + 1)) = preL (l.take k) ++ preL [l[k]] := by
 rw [List.take_succ_eq_append_getElem h, preL_append]
theorem preL_length (l : List Tm) : (preL l).length = sizeL l := by
 induction l using Tm.indL with
 | h0 => simp [preL, sizeL]
 | h s l r ihl ihr => simp [preL, sizeL, ihl, ihr]; omega
theorem owned_val {w : World} {base e size : Nat} {v : Value} {n : Nat} {xs : List Value} (h : w.ownsRow base e size v n xs) (hn : 0 < n) :
  ∃ g cap, v = .slice (some ⟨g, 0, none⟩) n cap ∧ base ≤ g ∧ g < w.heap.size ∧ ∀ j u, xs[j]? = some u → w.cell? ⟨g, j, none⟩ = some u := by
 have h' := h
 obtain ⟨hl, h1⟩ := h
 rcases h1 with ⟨_, h0⟩ | ⟨g, cap, cur, hv, hg, hh, _⟩
 ·omega
 ·subst hv
  have hlt := (h'.lt g rfl).2
  refine ⟨g, cap, rfl, hg, hlt, fun j u hj => ?_⟩
  have := h'.cells (g := g) rfl j u hj
  by_cases h0 : j = 0
  ·subst h0; simpa [Addr.add] using this
  ·simpa [Addr.add, h0] using this
theorem wpList_append_eq {P : Program} {ops : Array Oper} {rest : List Oper} {o : Oper} {a : Act} {Q : Exit → Act → World → Prop} {w w' : World} {v u v' : Value} (hgd : o.guard = none) (s x : Operand) (t t' : TypeId)
  (ho : o.op = .call { callee := .builtin .append, args := #[s, x], argTypes := #[t, t'] }) (hs : a.eval s = v) (hx : a.eval x = u)
  (hr : (Builtin.append_ #[t, t'] o.type #[v, u]).run P w = .ok v' w') (h : wpList P ops Q rest (a.put o.dst v') w') : wpList P ops Q (o :: rest) a w :=
 wpList_plain hgd fun K hK => by
  unfold Oper.wp execOp
  simp only [ho, resolve, invoke, builtin, Sem.run_bind, Sem.run_pure, Result.andThen_ok, List.map_toArray, List.map_cons, List.map_nil, hs, hx, hr]
  exact hK _ _ h
theorem Tryz.infoTerm : (Tryz.prog.info? 32).map (fun i => (i.zero, i.size, i.bytes)) = some (some (.agg #[.string ByteArray.empty, .slice none 0 0]), 2, 40) := by kernel_rfl
def twoE (t x : Tm) : Int := if mayE t = 0 then mayE x else mayE t
structure Pr where
 l : Tm
 r : Tm
def QV (w : World) (X : Nat → Prop) (v : Value) (l : List Pr) : Prop :=
 ∃ a c, v = .slice a l.length c ∧ (l.length ≤ 9223372036854775807 ∧ l.length ≤ c) ∧ (l = [] ∨ ∃ b o, a = some ⟨b, o, none⟩ ∧ X b ∧ ∀ i (h : i < l.length), ∃ a1 c1 a2 c2, w.cell? ⟨b, o + i * 4, none⟩ = some (.string l[i].l.name) ∧ w.cell? ⟨b, o + i * 4 + 1, none⟩ = some (.slice a1 l[i].l.args.length c1) ∧ w.cell? ⟨b, o + i * 4 + 2, none⟩ = some (.string l[i].r.name) ∧ w.cell? ⟨b, o + i * 4 + 3, none⟩ = some (.slice a2 l[i].r.args.length c2) ∧ Sl w X a1 l[i].l.args ∧ Sl w X a2 l[i].r.args)
theorem QV.kept {w w' : World} {X : Nat → Prop} {v : Value} {l : List Pr} (h : QV w X v l) (hk : ∀ b, X b → w'.heap[b]? = w.heap[b]?) : QV w' X v l := by
 obtain ⟨a, c, e, hl, h⟩ := h
 refine ⟨a, c, e, hl, ?_⟩
 rcases h with h | ⟨b, o, ea, hX, h⟩
 ·exact Or.inl h
 ·refine Or.inr ⟨b, o, ea, hX, fun i hi => ?_⟩
  obtain ⟨a1, c1, a2, c2, h1, h2, h3, h4, h5, h6⟩ := h i hi
  have hb := hk b hX
  exact ⟨a1, c1, a2, c2, by simpa [World.cell?, hb] using h1, by simpa [World.cell?, hb] using h2, by simpa [World.cell?, hb] using h3, by simpa [World.cell?, hb] using h4, h5.kept hk, h6.kept hk⟩
theorem QV.mono {w : World} {X Y : Nat → Prop} {v : Value} {l : List Pr} (h : QV w X v l) (hk : ∀ b, X b → b < w.heap.size → Y b) : QV w Y v l := by
 obtain ⟨a, c, e, hl, h⟩ := h
 refine ⟨a, c, e, hl, ?_⟩
 rcases h with h | ⟨b, o, ea, hX, h⟩
 ·exact Or.inl h
 ·by_cases h0 : l = []
  ·exact Or.inl h0
  ·have hp : 0 < l.length := List.length_pos_iff.2 h0
   obtain ⟨_, _, _, _, g, _⟩ := h 0 hp
   refine Or.inr ⟨b, o, ea, hk b hX (cell_lt g), fun i hi => ?_⟩
   obtain ⟨a1, c1, a2, c2, h1, h2, h3, h4, h5, h6⟩ := h i hi
   exact ⟨a1, c1, a2, c2, h1, h2, h3, h4, h5.mono hk, h6.mono hk⟩
theorem QV.later {w w' : World} {X : Nat → Prop} {v : Value} {l : List Pr} (h : QV w X v l) (hb : Below w.heap.size w w') : QV w' X v l :=
 ((h.mono (Y := fun b => X b ∧ b < w.heap.size) fun b h1 h2 => ⟨h1, h2⟩).kept fun b hx => hb.block b hx.2).mono fun b hx _ => hx.1
theorem QV.alloc {w : World} {X : Nat → Prop} {v : Value} {l : List Pr} (h : QV w X v l) (o : Obj) : QV (w.alloc o) X v l := h.later ((Below.refl _ _).alloc (Nat.le_refl _) o)
theorem QV.get {w : World} {X : Nat → Prop} {a : Option Addr} {n c : Nat} {l : List Pr} (h : QV w X (.slice a n c) l) (i : Nat) (hi : i < l.length) :
  ∃ b o a1 c1 a2 c2, a = some ⟨b, o, none⟩ ∧ w.cell? ⟨b, o + i * 4, none⟩ = some (.string l[i].l.name) ∧ w.cell? ⟨b, o + i * 4 + 1, none⟩ = some (.slice a1 l[i].l.args.length c1) ∧ w.cell? ⟨b, o + i * 4 + 2, none⟩ = some (.string l[i].r.name) ∧ w.cell? ⟨b, o + i * 4 + 3, none⟩ = some (.slice a2 l[i].r.args.length c2) ∧ Sl w X a1 l[i].l.args ∧ Sl w X a2 l[i].r.args := by
 obtain ⟨a2, c2, e, hl, h⟩ := h
 simp at e
 obtain ⟨rfl, rfl, rfl⟩ := e
 rcases h with h | ⟨b, o, ea, hX, h⟩
 ·subst h; simp at hi
 ·obtain ⟨a1, c1, a2, c2, h1, h2, h3, h4, h5, h6⟩ := h i hi
  exact ⟨b, o, a1, c1, a2, c2, ea, h1, h2, h3, h4, h5, h6⟩
def pmT (ls : List Pr) : Nat → Int
 | 0 => 0
 | k + 1 => if pmT ls k = 0 then (match ls[k]? with | some p => twoE p.l p.r | none => 0) else pmT ls k
def pairsE (ls : List Pr) : Int := if 40 < ls.length then 3 else pmT ls ls.length
theorem pmT_stays {ls : List Pr} {k : Nat} (h : pmT ls k ≠ 0) : ∀ n, k ≤ n → pmT ls n = pmT ls k
 | 0, hn => by
  have : k = 0 := by omega
  subst this; rfl
 | n + 1, hn => by
  by_cases e : k = n + 1
  ·subst e; rfl
  ·have ih := pmT_stays h n (by omega)
   rw [pmT, if_neg (by rw [ih]; exact h)]
   exact ih
theorem pmT_next {ls : List Pr} {k : Nat} (hk : k < ls.length) (h0 : pmT ls k = 0) : pmT ls (k + 1) = twoE ls[k].l ls[k].r := by rw [pmT, if_pos h0, List.getElem?_eq_getElem hk]
theorem pmT_err {ls : List Pr} {k : Nat} (hk : k < ls.length) (h40 : ¬ 40 < ls.length) (h0 : pmT ls k = 0) (hne : twoE ls[k].l ls[k].r ≠ 0) : pairsE ls = twoE ls[k].l ls[k].r := by
 unfold pairsE
 rw [if_neg h40]
 have h1 := pmT_next hk h0
 rw [← h1]
 exact pmT_stays (by rw [h1]; exact hne) _ (by omega)
theorem pairsE_len {ls : List Pr} (h : pairsE ls = 0) : ls.length ≤ 40 := by
 unfold pairsE at h
 split at h
 ·cases h
 ·omega
theorem pairsE_all {ls : List Pr} (h : pairsE ls = 0) : ∀ p ∈ ls, mayE p.l = 0 ∧ mayE p.r = 0 := by
 intro p hp
 obtain ⟨k, hk, rfl⟩ := List.getElem_of_mem hp
 have h40 := pairsE_len h
 unfold pairsE at h
 rw [if_neg (by omega)] at h
 have h0 : ∀ n, n ≤ ls.length → pmT ls n = 0 := fun n hn => by
  by_cases e : pmT ls n = 0
  ·exact e
  ·have := pmT_stays e _ hn
   rw [this] at h
   exact absurd h e
 have h1 := pmT_next hk (h0 k (by omega))
 rw [h0 (k + 1) (by omega)] at h1
 have h2 := h1.symm
 unfold twoE at h2
 by_cases e : mayE ls[k].l = 0
 ·rw [if_pos e] at h2; exact ⟨e, h2⟩
 ·rw [if_neg e] at h2; exact absurd h2 e
def Blk (w : World) (b : Nat) (cs : Array Value) (T : Nat) : Prop := w.heap[b]? = some (.cells cs T (0, 0))
theorem Blk.lt {w : World} {b : Nat} {cs : Array Value} {T : Nat} (h : Blk w b cs T) : b < w.heap.size := by
 apply Classical.byContradiction
 intro hn
 have e : w.heap[b]? = none := Array.getElem?_eq_none (by omega)
 rw [Blk, e] at h; cases h
theorem Blk.cell {w : World} {b : Nat} {cs : Array Value} {T : Nat} (h : Blk w b cs T) (i : Nat) : w.cell? ⟨b, i, none⟩ = cs[i]? := by
 unfold Blk at h; simp [World.cell?, h]
theorem Blk.c0 {w : World} {b : Nat} {v : Value} {l : List Value} {T : Nat} (h : Blk w b (List.toArray (v :: l)) T) : w.cell? ⟨b, 0, none⟩ = some v := h.cell 0
theorem Blk.c1 {w : World} {b : Nat} {v0 v : Value} {l : List Value} {T : Nat} (h : Blk w b (List.toArray (v0 :: v :: l)) T) : w.cell? ⟨b, 1, none⟩ = some v := h.cell 1
theorem Blk.c2 {w : World} {b : Nat} {v0 v1 v : Value} {l : List Value} {T : Nat} (h : Blk w b (List.toArray (v0 :: v1 :: v :: l)) T) : w.cell? ⟨b, 2, none⟩ = some v := h.cell 2
theorem Blk.c3 {w : World} {b : Nat} {v0 v1 v2 v : Value} {l : List Value} {T : Nat} (h : Blk w b (List.toArray (v0 :: v1 :: v2 :: v :: l)) T) : w.cell? ⟨b, 3, none⟩ = some v := h.cell 3
theorem Blk.frozen {w : World} {b : Nat} {cs : Array Value} {T : Nat} (h : Blk w b cs T) (i : Nat) : w.frozen? ⟨b, i, none⟩ = false := by
 unfold Blk at h; simp [World.frozen?, h]
theorem Blk.new (w : World) (cs : Array Value) (T : Nat) : Blk (w.alloc (.cells cs T)) w.heap.size cs T := heap_alloc_new w _
theorem Blk.alloc {w : World} {b : Nat} {cs : Array Value} {T : Nat} (h : Blk w b cs T) (o : Obj) : Blk (w.alloc o) b cs T := by
 unfold Blk at *; rw [Below.heap_alloc w o b (Blk.lt h)]; exact h
theorem Blk.below {w w' : World} {b B : Nat} {cs : Array Value} {T : Nat} (h : Blk w b cs T) (hb : Below B w w') (hB : b < B) : Blk w' b cs T := by
 unfold Blk at *; rw [hb.block b hB]; exact h
theorem Blk.drewN {w : World} {b : Nat} {cs : Array Value} {T : Nat} (h : Blk w b cs T) (n : Nat) : Blk (w.drewN n) b cs T := h
theorem Blk.grown {w w' : World} {b : Nat} {cs : Array Value} {T : Nat} {row : Option Nat} (h : Blk w b cs T) (hg : w.grownBy w' row) (hr : some b ≠ row) : Blk w' b cs T := by
 unfold Blk at *; rw [hg.block b (Blk.lt h) hr]; exact h
theorem Blk.set {w : World} {b : Nat} {cs : Array Value} {T : Nat} (h : Blk w b cs T) (i : Nat) (v : Value) : Blk (w.setCell ⟨b, i, none⟩ v) b (cs.setIfInBounds i v) T := by
 unfold Blk at *
 simp [World.setCell, Array.getElem?_modify, h]
theorem Blk.setOther {w : World} {b b' : Nat} {cs : Array Value} {T : Nat} (h : Blk w b cs T) (i : Nat) (v : Value) (hne : b ≠ b') : Blk (w.setCell ⟨b', i, none⟩ v) b cs T := by
 unfold Blk at *; rw [Below.heap_setCell _ _ _ _ (by simpa using hne)]; exact h
structure Row (w : World) (N : Nat) (T : Nat) (Y : Nat → Prop) (v : Value) (l : List Tm) (xs : List Value) : Prop where
 own : w.ownsRow N T 2 v l.length xs
 row : RowT w (fun b => Y b ∨ (N ≤ b ∧ some b ≠ v.ownBlock)) l xs
theorem Row.start (w : World) (N T : Nat) (Y : Nat → Prop) : Row w N T Y (.slice none 0 0) [] [] := ⟨World.ownsRow_nil w N T 2, rfl⟩
theorem Row.below {w w' : World} {N T : Nat} {Y : Nat → Prop} {v : Value} {l : List Tm} {xs : List Value} (h : Row w N T Y v l xs) (hb : Below w.heap.size w w') : Row w' N T Y v l xs :=
 ⟨h.own.kept (w' := w') (row := none) ⟨hb.os, hb.tape, hb.output, hb.size, fun j hj _ => hb.block j hj⟩ (by rcases Option.eq_none_or_eq_some (Value.ownBlock v) with h | ⟨x, h⟩; exact Or.inl h; exact Or.inr (by rw [h]; simp)),
  h.row.imp fun a l h => h.later hb⟩
theorem Row.ne {w : World} {N T : Nat} {Y : Nat → Prop} {v : Value} {l : List Tm} {xs : List Value} (h : Row w N T Y v l xs) {b : Nat} (hb : b < N) : some b ≠ v.ownBlock := fun e => by
 have := (h.own.lt b e.symm).1; omega
theorem Row.push {w w1 w2 w3 : World} {N T : Nat} {Y : Nat → Prop} {v : Value} {l : List Tm} {xs : List Value} (h : Row w N T Y v l xs) (hN : N ≤ w.heap.size) (hY : ∀ b, Y b → b < N) (hb : Below w.heap.size w w1) {s : ByteArray} {a : Option Addr} {n c : Nat} {t : Tm}
  (ht : TV w1 (fun b => Y b ∨ w.heap.size ≤ b) (.agg #[.string s, .slice a n c]) t) (o : Obj) (hw2 : w2 = w1.alloc o) {g cap : Nat}
  (hown : w3.ownsRow N T 2 (.slice (some ⟨g, 0, none⟩) (l.length + 1) cap) (l.length + 1) (xs ++ [.string s, .slice a n c])) (hg : w2.grownBy w3 v.ownBlock) (hg1 : v.ownBlock = some g ∨ g = w2.heap.size) :
  Row w3 N T Y (.slice (some ⟨g, 0, none⟩) (l.length + 1) cap) (l ++ [t]) (xs ++ [.string s, .slice a n c]) := by
 subst hw2
 have hlt := h.own.lt
 refine ⟨by simpa using hown, ?_⟩
 have hsz : w1.heap.size ≤ (w1.alloc o).heap.size := by simp
 have hbs := hb.size
 have hgN : N ≤ g := by
  rcases hg1 with e | e
  ·exact (hlt g e).1
  ·simp at e; omega
 refine RowT.append (h.row.imp fun a' k' hs => ?_) ?_
 ·have h1 : Sl w (fun b => (Y b ∨ (N ≤ b ∧ some b ≠ v.ownBlock)) ∧ b < w.heap.size) a' k' := hs.mono fun b h1 h2 => ⟨h1, h2⟩
  have h2 : Sl w3 (fun b => (Y b ∨ (N ≤ b ∧ some b ≠ v.ownBlock)) ∧ b < w.heap.size) a' k' := h1.kept fun b hx => by
   have hne : some b ≠ v.ownBlock := by
    rcases hx.1 with hy | hy
    ·exact h.ne (hY b hy)
    ·exact hy.2
   rw [hg.block b (by simp; omega) hne, Below.heap_alloc _ _ _ (by omega), hb.block b hx.2]
  refine h2.mono fun b hx _ => ?_
  rcases hx.1 with hy | hy
  ·exact Or.inl hy
  ·refine Or.inr ⟨hy.1, fun e => ?_⟩
   simp [Value.ownBlock] at e
   rcases hg1 with e' | e'
   ·exact hy.2 (by rw [e', e])
   ·simp at e'; omega
 ·obtain ⟨a2, c2, e, hs⟩ := ht
  simp at e
  obtain ⟨rfl, rfl, rfl, rfl⟩ := e
  refine ⟨a, c, [], rfl, ?_, rfl⟩
  have h1 : Sl w1 (fun b => (Y b ∨ w.heap.size ≤ b) ∧ b < w1.heap.size) a t.args := hs.mono fun b h1 h2 => ⟨h1, h2⟩
  have h2 : Sl w3 (fun b => (Y b ∨ w.heap.size ≤ b) ∧ b < w1.heap.size) a t.args := h1.kept fun b hx => by
   have hne : some b ≠ v.ownBlock := by
    rcases hx.1 with hy | hy
    ·exact h.ne (hY b hy)
    ·intro e; have := (hlt b e.symm).2; omega
   rw [hg.block b (by simp; omega) hne, Below.heap_alloc _ _ _ hx.2]
  refine h2.mono fun b hx _ => ?_
  rcases hx.1 with hy | hy
  ·exact Or.inl hy
  ·refine Or.inr ⟨by omega, fun e => ?_⟩
   simp [Value.ownBlock] at e
   rcases hg1 with e' | e'
   ·have := (hlt g e').2; omega
   ·simp at e'; omega
theorem Row.setCell {w : World} {N T : Nat} {Y : Nat → Prop} {v : Value} {l : List Tm} {xs : List Value} (h : Row w N T Y v l xs) {b i : Nat} (hb : b < N) (hY : ¬ Y b) (u : Value) : Row (w.setCell ⟨b, i, none⟩ u) N T Y v l xs :=
 ⟨ownsRow_setCell_below h.own (by simpa using hb) u, h.row.imp fun a k hs => hs.kept fun c hc => Below.heap_setCell _ _ _ _ (by
  simp
  rcases hc with hc | hc
  ·intro e; subst e; exact hY hc
  ·omega)⟩
theorem Row.sl {w : World} {N T : Nat} {Y : Nat → Prop} {v : Value} {l : List Tm} {xs : List Value} (h : Row w N T Y v l xs) : ∃ a c, v = .slice a l.length c ∧ Sl w (fun b => Y b ∨ N ≤ b) a l := by
 have hml : l.length ≤ 9223372036854775807 := by
  rcases h.own.2 with ⟨_, h0⟩ | ⟨g, cap, cur, _, _, _, h1, h2, _⟩
  ·omega
  ·unfold maxLen at h2; omega
 by_cases h0 : 0 < l.length
 ·obtain ⟨g, cap, rfl, hg, hlt, hc⟩ := owned_val h.own h0
  exact ⟨_, _, rfl, hml, Or.inr ⟨g, 0, rfl, lies_of_rowT g (Or.inr hg) l xs 0 h.row (fun a k hs => hs.mono fun b hb _ => hb.imp id (fun h => h.1)) (fun j u hj => by simpa using hc j u hj)⟩⟩
 ·have e : l = [] := List.length_eq_zero_iff.1 (by omega)
  subst e
  rcases h.own.2 with ⟨hv, _⟩ | ⟨g, cap, cur, hv, _⟩
  ·exact ⟨none, 0, hv, hml, Or.inl rfl⟩
  ·exact ⟨_, _, hv, hml, Or.inl rfl⟩
theorem copy_blk {wr w1 w3 : World} {o1 o2 : Obj} {b T : Nat} {cs : Array Value} {row : Option Nat} (h : Blk wr b cs T) (hb1 : Below (wr.alloc o1).drew.heap.size (wr.alloc o1).drew w1) (hg : (w1.alloc o2).grownBy w3 row) (hr : some b ≠ row) : Blk w3 b cs T :=
 (((((h.alloc o1).drewN 1).below hb1 (by have := h.lt; simp; omega)).alloc o2).grown hg hr)
abbrev Bc := Bd × Option Addr × Nat
instance : Inhabited Bc := ⟨(⟨⟨#[]⟩, ⟨⟨#[]⟩, []⟩⟩, none, 0)⟩
def enc3 (x : Bc) : List Value := [.string x.1.nm, .string x.1.t.name, .slice x.2.1 x.1.t.args.length x.2.2]
def flat3 : List Bc → List Value
 | [] => []
 | x :: r => enc3 x ++ flat3 r
theorem flat3_append (b : List Bc) : ∀ a, flat3 (a ++ b) = flat3 a ++ flat3 b
 | [] => rfl
 | x :: r => by rw [List.cons_append, flat3, flat3, flat3_append b r, List.append_assoc]
theorem flat3_length : ∀ a : List Bc, (flat3 a).length = a.length * 3
 | [] => rfl
 | x :: r => by rw [flat3, List.length_append, flat3_length r]; simp [enc3]; omega
theorem flat3_get : ∀ (a : List Bc) (i : Nat) (h : i < a.length) (j : Nat), j < 3 → (flat3 a)[i * 3 + j]? = (enc3 a[i])[j]?
 | [], i, h, j, hj => by simp at h
 | x :: r, 0, h, j, hj => by
  rw [flat3, List.getElem?_append_left (by simp [enc3]; omega)]; simp
 | x :: r, i + 1, h, j, hj => by
  rw [flat3, List.getElem?_append_right (by simp [enc3]; omega)]
  have e : (i + 1) * 3 + j - (enc3 x).length = i * 3 + j := by simp [enc3]; omega
  rw [e, flat3_get r i (by simpa using h) j hj]
  simp
structure BRow (w : World) (N : Nat) (Y : Nat → Prop) (v : Value) (cs : List Bc) : Prop where
 own : w.ownsRow N 50 3 v cs.length (flat3 cs)
 row : ∀ x ∈ cs, Sl w (fun b => Y b ∨ (N ≤ b ∧ some b ≠ v.ownBlock)) x.2.1 x.1.t.args
theorem BRow.start (w : World) (N : Nat) (Y : Nat → Prop) : BRow w N Y (.slice none 0 0) [] := ⟨World.ownsRow_nil w N _ 3, by simp⟩
theorem BRow.below {w w' : World} {N : Nat} {Y : Nat → Prop} {v : Value} {cs : List Bc} (h : BRow w N Y v cs) (hb : Below w.heap.size w w') : BRow w' N Y v cs :=
 ⟨h.own.kept (w' := w') (row := none) ⟨hb.os, hb.tape, hb.output, hb.size, fun j hj _ => hb.block j hj⟩ (by rcases Option.eq_none_or_eq_some (Value.ownBlock v) with h | ⟨x, h⟩; exact Or.inl h; exact Or.inr (by rw [h]; simp)),
  fun x hx => (h.row x hx).later hb⟩
theorem BRow.ne {w : World} {N : Nat} {Y : Nat → Prop} {v : Value} {cs : List Bc} (h : BRow w N Y v cs) {b : Nat} (hb : b < N) : some b ≠ v.ownBlock := fun e => by
 have := (h.own.lt b e.symm).1; omega
theorem BRow.kept {w w' : World} {N : Nat} {Y : Nat → Prop} {v : Value} {cs : List Bc} {r : Nat} (h : BRow w N Y v cs) (hr : r < N) (hY : ¬ Y r) (ho : w'.os = w.os) (ht : w'.tape = w.tape) (hu : w'.output = w.output) (hz : w.heap.size ≤ w'.heap.size) (hk : ∀ j, j ≠ r → j < w.heap.size → w'.heap[j]? = w.heap[j]?) : BRow w' N Y v cs :=
 ⟨h.own.kept (w' := w') (row := some r) ⟨ho, ht, hu, hz, fun j hj hne => hk j (fun e => hne (by rw [e])) hj⟩ (Or.inr (fun e => h.ne hr e.symm)),
  fun x hx => by
  have h1 := (h.row x hx).mono (Y := fun b => (Y b ∨ (N ≤ b ∧ some b ≠ v.ownBlock)) ∧ b < w.heap.size) fun b h1 h2 => ⟨h1, h2⟩
  refine (h1.kept fun b hb => hk b (fun e => ?_) hb.2).mono fun b hb _ => hb.1
  rcases hb.1 with h2 | h2
  ·exact hY (e ▸ h2)
  ·omega⟩
theorem BRow.push {w w1 w2 w3 : World} {N : Nat} {Y : Nat → Prop} {v : Value} {cs : List Bc} (h : BRow w N Y v cs) (hN : N ≤ w.heap.size) (hY : ∀ b, Y b → b < N) (hb : Below w.heap.size w w1) {x : Bc}
  (ht : Sl w1 (fun b => Y b ∨ w.heap.size ≤ b) x.2.1 x.1.t.args) (o : Obj) (hw2 : w2 = w1.alloc o) {g cap : Nat}
  (hown : w3.ownsRow N 50 3 (.slice (some ⟨g, 0, none⟩) (cs.length + 1) cap) (cs.length + 1) (flat3 cs ++ enc3 x)) (hg : w2.grownBy w3 v.ownBlock) (hg1 : v.ownBlock = some g ∨ g = w2.heap.size) :
  BRow w3 N Y (.slice (some ⟨g, 0, none⟩) (cs.length + 1) cap) (cs ++ [x]) := by
 subst hw2
 have hlt := h.own.lt
 refine ⟨by rw [flat3_append]; simpa [flat3] using hown, fun y hy => ?_⟩
 have hsz : w1.heap.size ≤ (w1.alloc o).heap.size := by simp
 have hbs := hb.size
 have hgN : N ≤ g := by
  rcases hg1 with e | e
  ·exact (hlt g e).1
  ·simp at e; omega
 rcases List.mem_append.1 hy with hy | hy
 ·have h1 : Sl w (fun b => (Y b ∨ (N ≤ b ∧ some b ≠ v.ownBlock)) ∧ b < w.heap.size) y.2.1 y.1.t.args := (h.row y hy).mono fun b h1 h2 => ⟨h1, h2⟩
  have h2 : Sl w3 (fun b => (Y b ∨ (N ≤ b ∧ some b ≠ v.ownBlock)) ∧ b < w.heap.size) y.2.1 y.1.t.args := h1.kept fun b hx => by
   have hne : some b ≠ v.ownBlock := by
    rcases hx.1 with hy | hy
    ·exact h.ne (hY b hy)
    ·exact hy.2
   rw [hg.block b (by simp; omega) hne, Below.heap_alloc _ _ _ (by omega), hb.block b hx.2]
  refine h2.mono fun b hx _ => ?_
  rcases hx.1 with hy | hy
  ·exact Or.inl hy
  ·refine Or.inr ⟨hy.1, fun e => ?_⟩
   simp [Value.ownBlock] at e
   rcases hg1 with e' | e'
   ·exact hy.2 (by rw [e', e])
   ·simp at e'; omega
 ·have e : y = x := by simpa using hy
  subst e
  have h1 : Sl w1 (fun b => (Y b ∨ w.heap.size ≤ b) ∧ b < w1.heap.size) y.2.1 y.1.t.args := ht.mono fun b h1 h2 => ⟨h1, h2⟩
  have h2 : Sl w3 (fun b => (Y b ∨ w.heap.size ≤ b) ∧ b < w1.heap.size) y.2.1 y.1.t.args := h1.kept fun b hx => by
   have hne : some b ≠ v.ownBlock := by
    rcases hx.1 with hy | hy
    ·exact h.ne (hY b hy)
    ·intro e; have := (hlt b e.symm).2; omega
   rw [hg.block b (by simp; omega) hne, Below.heap_alloc _ _ _ hx.2]
  refine h2.mono fun b hx _ => ?_
  rcases hx.1 with hy | hy
  ·exact Or.inl hy
  ·refine Or.inr ⟨by omega, fun e => ?_⟩
   simp [Value.ownBlock] at e
   rcases hg1 with e' | e'
   ·have := (hlt g e').2; omega
   ·simp at e'; omega
theorem BRow.bv {w : World} {N : Nat} {Y : Nat → Prop} {v : Value} {cs : List Bc} (h : BRow w N Y v cs) : BV w (fun b => Y b ∨ N ≤ b) v (cs.map (·.1)) := by
 have hml : cs.length ≤ 9223372036854775807 := by
  rcases h.own.2 with ⟨_, h0⟩ | ⟨g, cap, cur, _, _, _, h1, h2, _⟩
  ·omega
  ·unfold maxLen at h2; omega
 by_cases h0 : 0 < cs.length
 ·obtain ⟨g, cap, rfl, hg, hlt, hc⟩ := owned_val h.own h0
  have hcap : cs.length ≤ cap := by
   rcases h.own.2 with ⟨e, _⟩ | ⟨g', cap', cur, e, _, _, h1, _⟩
   ·cases e
   ·simp at e; omega
  refine ⟨_, cap, by simp, ⟨by simpa using hml, by simpa using hcap⟩, Or.inr ⟨g, 0, rfl, Or.inr hg, fun i hi => ?_⟩⟩
  have hi' : i < cs.length := by simpa using hi
  have g0 := hc (i * 3 + 0) (.string cs[i].1.nm) (by rw [flat3_get cs i hi' 0 (by decide)]; rfl)
  have g1 := hc (i * 3 + 1) (.string cs[i].1.t.name) (by rw [flat3_get cs i hi' 1 (by decide)]; rfl)
  have g2 := hc (i * 3 + 2) (.slice cs[i].2.1 cs[i].1.t.args.length cs[i].2.2) (by rw [flat3_get cs i hi' 2 (by decide)]; rfl)
  simp only [List.getElem_map, Nat.zero_add]
  exact ⟨g0, g1, _, _, g2, (h.row cs[i] (List.getElem_mem hi')).mono fun b hb _ => hb.imp id (fun h => h.1)⟩
 ·have e : cs = [] := List.length_eq_zero_iff.1 (by omega)
  subst e
  rcases h.own.2 with ⟨hv, _⟩ | ⟨g, cap, cur, hv, _⟩
  ·exact ⟨none, 0, hv, by simp, Or.inl rfl⟩
  ·exact ⟨_, _, hv, by simp, Or.inl rfl⟩
def ltB (a b : ByteArray) : Bool := Op.bytesLess a.toList b.toList
theorem bl_irrefl : ∀ a : List UInt8, Op.bytesLess a a = false
 | [] => rfl
 | x :: r => by simp [Op.bytesLess, bl_irrefl r]
theorem bl_trans : ∀ a b c : List UInt8, Op.bytesLess a b = true → Op.bytesLess b c = true → Op.bytesLess a c = true
 | _, [], _, h, _ => by simp [Op.bytesLess] at h
 | _, _ :: _, [], _, h => by simp [Op.bytesLess] at h
 | [], _ :: _, _ :: _, _, _ => by simp [Op.bytesLess]
 | x :: a, y :: b, z :: c, h1, h2 => by
  simp only [Op.bytesLess, Bool.or_eq_true, Bool.and_eq_true, decide_eq_true_eq, beq_iff_eq] at h1 h2 ⊢
  rw [UInt8.lt_iff_toNat_lt] at h1 h2 ⊢
  rcases h1 with h1 | ⟨rfl, h1⟩ <;> rcases h2 with h2 | ⟨rfl, h2⟩
  ·left; omega
  ·left; exact h1
  ·left; exact h2
  ·right; exact ⟨rfl, bl_trans a b c h1 h2⟩
theorem bl_conn : ∀ a b : List UInt8, Op.bytesLess a b = false → Op.bytesLess b a = false → a = b
 | [], [], _, _ => rfl
 | [], _ :: _, h, _ => by simp [Op.bytesLess] at h
 | _ :: _, [], _, h => by simp [Op.bytesLess] at h
 | x :: a, y :: b, h1, h2 => by
  simp only [Op.bytesLess, Bool.or_eq_false_iff, decide_eq_false_iff_not] at h1 h2
  obtain ⟨h1, h3⟩ := h1
  obtain ⟨h2, h4⟩ := h2
  rw [UInt8.lt_iff_toNat_lt] at h1 h2
  have e : x = y := UInt8.toNat_inj.mp (by omega)
  subst e
  simp only [BEq.rfl, Bool.true_and] at h3 h4
  rw [bl_conn a b h3 h4]
theorem ltB_irrefl (a : ByteArray) : ltB a a = false := bl_irrefl _
theorem ltB_trans {a b c : ByteArray} (h1 : ltB a b = true) (h2 : ltB b c = true) : ltB a c = true := bl_trans _ _ _ h1 h2
theorem ltB_conn {a b : ByteArray} (h1 : ltB a b = false) (h2 : ltB b a = false) : a = b := bytes_inj (bl_conn _ _ h1 h2)
theorem ltB_asymm {a b : ByteArray} (h : ltB a b = true) : ltB b a = false := by
 cases hb : ltB b a with
 | false => rfl
 | true => have := ltB_trans h hb; rw [ltB_irrefl] at this; cases this
def SortedB (l : List Bd) : Prop := l.Pairwise fun a b => ltB a.nm b.nm = true
def ApartB (l : List Bd) : Prop := l.Pairwise fun a b => a.nm ≠ b.nm
theorem SortedB.apart {l : List Bd} (h : SortedB l) : ApartB l := h.imp fun {a b} h e => by rw [e, ltB_irrefl] at h; cases h
theorem ApartB.perm {l k : List Bd} (h : ApartB l) (hp : k.Perm l) : ApartB k := (hp.pairwise_iff (fun {_ _} hne => Ne.symm hne)).2 h
theorem sortedB_unique {l k : List Bd} (hp : l.Perm k) (h1 : SortedB l) (h2 : SortedB k) : l = k :=
 List.Perm.eq_of_pairwise (le := fun a b : Bd => ltB a.nm b.nm = true) (fun a b _ _ h3 h4 => by rw [ltB_asymm h3] at h4; cases h4) h1 h2 hp
theorem sortedB_of {l : List Bd} (ha : ApartB l) (h : l.Pairwise fun a b => ltB b.nm a.nm = false) : SortedB l := by
 unfold SortedB ApartB at *
 refine (List.pairwise_and_iff.2 ⟨ha, h⟩).imp fun {a b} ⟨h1, h2⟩ => ?_
 cases h3 : ltB a.nm b.nm with
 | true => rfl
 | false => exact absurd (ltB_conn h3 h2) h1
def toP (x : Bc) : ByteArray × Value := (x.1.nm, .agg #[.string x.1.t.name, .slice x.2.1 x.1.t.args.length x.2.2])
def atT : Tm → List Int → Option Tm
 | t, [] => some t
 | t, i :: r => if h : 0 ≤ i ∧ i.toNat < t.args.length then atT (t.args[i.toNat]'h.2) r else none
def PV (w : World) (X : Nat → Prop) (v : Value) (zs : List Int) : Prop :=
 ∃ a c, v = .slice a zs.length c ∧ (zs.length ≤ 9223372036854775807 ∧ zs.length ≤ c) ∧ (zs = [] ∨ ∃ b o, a = some ⟨b, o, none⟩ ∧ X b ∧ ∀ i (h : i < zs.length), w.cell? ⟨b, o + i, none⟩ = some (.int .i64 zs[i]))
theorem PV.kept {w w' : World} {X : Nat → Prop} {v : Value} {zs : List Int} (h : PV w X v zs) (hk : ∀ b, X b → w'.heap[b]? = w.heap[b]?) : PV w' X v zs := by
 obtain ⟨a, c, e, hl, h⟩ := h
 refine ⟨a, c, e, hl, ?_⟩
 rcases h with h | ⟨b, o, e, hx, h⟩
 ·exact Or.inl h
 ·exact Or.inr ⟨b, o, e, hx, fun i hi => by rw [World.cell?_of_block (hk b hx)]; exact h i hi⟩
theorem PV.mono {w : World} {X Y : Nat → Prop} {v : Value} {zs : List Int} (h : PV w X v zs) (hk : ∀ b, X b → b < w.heap.size → Y b) : PV w Y v zs := by
 obtain ⟨a, c, e, hl, h⟩ := h
 refine ⟨a, c, e, hl, ?_⟩
 rcases h with h | ⟨b, o, e, hx, h⟩
 ·exact Or.inl h
 ·by_cases h0 : zs = []
  ·exact Or.inl h0
  ·have hp : 0 < zs.length := List.length_pos_iff.2 h0
   exact Or.inr ⟨b, o, e, hk b hx (World.block_lt_of_cell? w _ (h 0 hp)), h⟩
theorem PV.below {w w' : World} {X : Nat → Prop} {v : Value} {zs : List Int} {B : Nat} (h : PV w X v zs) (hb : Below B w w') (hX : ∀ b, X b → b < w.heap.size → b < B) : PV w' X v zs := by
 have h1 : PV w (fun b => X b ∧ b < B) v zs := h.mono fun b hx hs => ⟨hx, hX b hx hs⟩
 have h2 : PV w' (fun b => X b ∧ b < B) v zs := h1.kept fun b hx => hb.block b hx.2
 exact h2.mono fun b hx _ => hx.1
theorem PV.later {w w' : World} {X : Nat → Prop} {v : Value} {zs : List Int} (h : PV w X v zs) (hb : Below w.heap.size w w') : PV w' X v zs := h.below hb (fun _ _ h => h)
theorem PV.alloc {w : World} {X : Nat → Prop} {v : Value} {zs : List Int} (h : PV w X v zs) (o : Obj) : PV (w.alloc o) X v zs := h.later ((Below.refl _ _).alloc (Nat.le_refl _) o)
theorem below2 {w : World} (o1 o2 : Obj) : Below w.heap.size w ((w.alloc o1).alloc o2) := ((Below.refl _ _).alloc (Nat.le_refl _) _).alloc (by simp) _
theorem PV.tail {w : World} {X : Nat → Prop} {b o c : Nat} {z : Int} {zs : List Int} (hl : zs.length + 1 ≤ 9223372036854775807 ∧ zs.length + 1 ≤ c) (hx : X b) (h : ∀ i (h : i < (z :: zs).length), w.cell? ⟨b, o + i, none⟩ = some (.int .i64 (z :: zs)[i])) :
  PV w X (.slice (some ⟨b, o + 1, none⟩) zs.length (c - 1)) zs := by
 refine ⟨_, _, rfl, by omega, Or.inr ⟨b, o + 1, rfl, hx, fun i hi => ?_⟩⟩
 have := h (i + 1) (by simpa using hi)
 rw [show o + 1 + i = o + (i + 1) by omega]
 simpa using this
theorem set2_keep {w : World} {K i j : Nat} {u u' v : Value} {p : Addr} (h : w.cell? p = some v) (hp : p.block ≠ K) : ((w.setCell ⟨K, i, none⟩ u).setCell ⟨K, j, none⟩ u').cell? p = some v := by
 rw [World.cell?_of_block (Below.heap_setCell _ _ _ _ (by simpa using hp)), World.cell?_of_block (Below.heap_setCell _ _ _ _ (by simpa using hp)), h]
theorem below3 {w : World} (o1 o2 o3 : Obj) : Below w.heap.size w (((w.alloc o1).alloc o2).alloc o3) := (below2 o1 o2).alloc (by simp; omega) o3
theorem copy_step {w wr w1 w3 : World} {T k : Nat} {u : Value} {l : List Tm} {xs : List Value} {o1 o2 : Obj} {s s' : ByteArray} {a1 : Option Addr} {n1 c1 g cap : Nat} {c0 : Array Value} (hrow : Row wr (w.heap.size + 3) T (fun _ => False) u (l.take k) xs) (hb : Below w.heap.size w wr)
  (h1 : Blk wr (w.heap.size + 1) c0 T) (h2 : Blk wr (w.heap.size + 1 + 1) #[.string s, u] T) (hsz : w.heap.size + 3 ≤ wr.heap.size) (hlt : k < l.length)
  (hb1 : Below (wr.alloc o1).drew.heap.size (wr.alloc o1).drew w1) (ht : TV w1 (fun b => (wr.alloc o1).drew.heap.size ≤ b) (.agg #[.string s', .slice a1 n1 c1]) l[k])
  (hown : w3.ownsRow (w.heap.size + 3) T 2 (.slice (some ⟨g, 0, none⟩) ((l.take k).length + 1) cap) ((l.take k).length + 1) (xs ++ [.string s', .slice a1 n1 c1])) (hg : (w1.alloc o2).grownBy w3 u.ownBlock) (hat : u.ownBlock = some g ∨ g = (w1.alloc o2).heap.size) :
  let w4 := w3.setCell ⟨w.heap.size + 1 + 1, 1, none⟩ (.slice (some ⟨g, 0, none⟩) ((l.take k).length + 1) cap)
  Row w4 (w.heap.size + 3) T (fun _ => False) (.slice (some ⟨g, 0, none⟩) ((l.take k).length + 1) cap) (l.take (k + 1)) (xs ++ [.string s', .slice a1 n1 c1]) ∧ Below w.heap.size w w4 ∧ Blk w4 (w.heap.size + 1) c0 T ∧ Blk w4 (w.heap.size + 1 + 1) #[.string s, .slice (some ⟨g, 0, none⟩) ((l.take k).length + 1) cap] T ∧ w.heap.size + 3 ≤ w4.heap.size := by
 intro w4
 have hbb : Below wr.heap.size wr (wr.alloc o1).drew := ((Below.refl _ _).alloc (Nat.le_refl _) o1).drew
 have hr1 := hrow.below hbb
 have hlt' := hrow.own.lt
 have hs1 := hb1.size
 have hsg := hg.size
 simp at hs1 hsg
 have hp := hr1.push (w1 := w1) (w2 := w1.alloc o2) (w3 := w3) (by simp; omega) (fun _ h => h.elim) hb1 (ht.mono fun b h _ => Or.inr h) o2 rfl hown hg hat
 have hw3 : Below w.heap.size w w3 := (((hb.trans (hbb.mono (by omega))).trans (hb1.mono (by simp; omega))).alloc (by omega) o2).grown hg (by simp; omega) (fun j hj => by have := (hlt' j hj).1; omega)
 have hA : Below w.heap.size w w4 := hw3.setCell (p := ⟨w.heap.size + 1 + 1, 1, none⟩) (by simp; omega) _
 refine ⟨?_, hA, (copy_blk h1 hb1 hg (fun e => by have := (hlt' _ e.symm).1; omega)).setOther _ _ (by omega), ?_, by simp [w4, World.setCell]; omega⟩
 ·rw [List.take_succ_eq_append_getElem hlt]
  exact hp.setCell (by omega) (fun h => h) _
 ·exact (copy_blk h2 hb1 hg (fun e => by have := (hlt' _ e.symm).1; omega)).set 1 _
set_option maxHeartbeats 1000000 in
theorem copyOf_any (t : Tm) : ∀ (v : Value) (w : World) (X : Nat → Prop), TV w X v t → sizeL [t] ≤ 1000000 →
  Calls Tryz.prog 54 #[v] w fun e w' => ∃ v', e = .returned v' ∧ TV w' (fun b => w.heap.size ≤ b) v' t ∧ Below w.heap.size w w' := by
 induction t using Tm.ind with
 | h s l ih =>
  intro v w X hv hsm
  have IH := hide ih
  clear ih
  obtain ⟨a, c, rfl, hs⟩ := hv
  have hl := hs.1
  have hz : sizeL [(⟨s, l⟩ : Tm)] = 1 + sizeL l := by simp [sizeL]
  rw [hz] at hsm
  clear hz
  have hlen := sizeL_len l
  obtain ⟨i0, hi, hz0, hz1, hz2⟩ := info_parts Tryz.infoTerm
  go_enter Tryz.func54, Tryz.ntmps54
  go_wp2_with fail
  go_loopw [12] (fun i wr => ∃ (k : Nat) (u : Value) (xs : List Value), k ≤ l.length ∧ i = .int .i64 k ∧ Row wr (w.heap.size + 3) 32 (fun _ => False) u (l.take k) xs ∧ Below w.heap.size w wr ∧ Blk wr (w.heap.size + 1) #[.string ⟨#[]⟩, .slice none 0 0] 32 ∧ Blk wr (w.heap.size + 1 + 1) #[.string s, u] 32 ∧ w.heap.size + 3 ≤ wr.heap.size) (fun i wr => l.length - (intOf i).toNat)
  case atStart =>
   refine ⟨0, .slice none 0 0, [], Nat.zero_le _, rfl, Row.start _ _ _ _, below3 _ _ _, ?_, ?_, by simp⟩
   ·have := ((Blk.new (w.alloc (.cells #[.string s, .slice a l.length c] 32)) #[.string ⟨#[]⟩, .slice none 0 0] 32)).alloc (.cells #[.string s, .slice none 0 0] 32)
    simpa using this
   ·have := Blk.new ((w.alloc (.cells #[.string s, .slice a l.length c] 32)).alloc (.cells #[.string ⟨#[]⟩, .slice none 0 0] 32)) #[.string s, .slice none 0 0] 32
    simpa using this
  case round =>
   obtain ⟨k, u, xs, hk, rfl, hrow, hb, hbl1, hbl2, hsz⟩ := hrel
   have HROW := hide hrow
   have HBL1 := hide hbl1
   have HBL2 := hide hbl2
   have HB := hide hb
   clear hrow hbl1
   by_cases hlt : k < l.length
   ·obtain ⟨b, o, a', c', rfl, d0, d1, hx⟩ := hs.get hb (fun _ _ h => h) k hlt
    have hc2 : ∀ o, (wr.alloc o).cell? ⟨w.heap.size + 1 + 1, 1, none⟩ = some u := fun o => (hbl2.alloc o).cell 1
    have HX := hide hx
    have hszk : sizeL [l[k]] ≤ 1000000 := by
     have := sizeL_take l k hlt; have := sizeL_take_le l (k + 1); omega
    clear hbl2 hb hx
    go_wp2_with fail
    go_region_law (first
     | (go_simp; go_at_call 54; refine (IH.out _ (List.getElem_mem hlt) _ _ X (by exact (HX.out.alloc _).later (below_drewN (Below.refl _ _) 1)) hszk).mono ?_; rintro e w1 ⟨v1, rfl, ht1, hb1⟩; obtain ⟨a1, c1, rfl, hs1⟩ := ht1; have hc3 : ∀ o, (w1.alloc o).cell? ⟨w.heap.size + 1 + 1, 1, none⟩ = some u := fun o => ((((HBL2.out.alloc _).drewN 1).below hb1 (by simp; omega)).alloc o).cell 1; have hc4 : w1.cell? ⟨w.heap.size + 1 + 1, 1, none⟩ = some u := (((HBL2.out.alloc _).drewN 1).below hb1 (by simp; omega)).cell 1)
     | (refine step_append_lies _ rfl _ _ 30 rfl (w.heap.size + 3) 32 i0 _ 2 40 Tryz.underlying30 hi hz0 hz1 hz2 rfl (by decide) u (l.take k).length xs rfl (by exact (((HROW.out.below ((Below.refl _ _).alloc (Nat.le_refl _) _)).below (below_drewN (Below.refl _ _) 1)).below hb1).own.alloc _) ⟨w1.heap.size, 0, none⟩ 1 1 [.string l[k].name, .slice a1 l[k].args.length c1] rfl rfl (cell_two_new _ _ _ _) (fun x hx => by simp at hx; rcases hx with rfl | rfl <;> rfl) (by decide) (by unfold maxLen; simp; omega) (by simp; omega) (by have := hb1.size; simp at this ⊢; omega) _ rfl ?_; intro g cap w3 hown3 hgrow3 hat3 hlt3; have hB3 := hide (copy_blk HBL2.out hb1 hgrow3 (HROW.out.ne (Nat.lt_succ_self _))); have hc5 : w3.cell? ⟨w.heap.size + 1 + 1, 1, none⟩ = some u := hB3.out.cell 1; have hf5 := hB3.out.frozen 1))
    all_goals
     have HFIN := hide (copy_step HROW.out HB.out HBL1.out HBL2.out hsz hlt hb1 ⟨a1, c1, rfl, hs1⟩ hown3 hgrow3 hat3)
     clear hown3 hgrow3 hat3 hc2 hc3 hc4
     go_wp2_with fail
     go_roundw
     case rel =>
      have hkl : (l.take k).length = k := by simp; omega
      obtain ⟨r1, r2, r3, r4, r5⟩ := HFIN.out
      simp only [hkl] at r1 r2 r3 r4 r5
      exact ⟨k + 1, _, _, by omega, by go_num, r1, r2, r3, r4, r5⟩
     case measure => simp [intOf]; omega
   ·have htk : l.take k = l := List.take_of_length_le (by omega)
    have hc0 := hbl2.cell 0
    have hc1 := hbl2.cell 1
    have hr0 := HBL1.out.cell 0
    have hr1 := HBL1.out.cell 1
    have hrf := HBL1.out.frozen
    obtain ⟨a9, c9, hu9, hsl9⟩ := HROW.out.sl
    rw [htk] at hu9 hsl9
    have HSL := hide hsl9
    subst hu9
    clear hsl9 htk hbl2
    go_wp2_with fail
    refine bodyPost_ret (v := .agg #[.string s, .slice a9 l.length c9]) (by simp [results, Tryz.results54, go_sem, hr0, hr1, World.cell?_setCell_same, World.cell?_setCell_other]) rfl ⟨_, rfl, ?_, ?_⟩
    ·refine ⟨a9, c9, rfl, ?_⟩
     have hk9 : Sl wr (fun b => w.heap.size + 3 ≤ b) a9 l := HSL.out.mono fun b h _ => h.elim False.elim id
     exact ((hk9.kept fun b hb => by rw [Below.heap_setCell _ _ _ _ (by simp; omega), Below.heap_setCell _ _ _ _ (by simp; omega)]).mono fun b hb _ => by omega)
    ·exact (HB.out.setCell (by simp) _).setCell (by simp) _
set_option maxRecDepth 8000
def mapGet : List (ByteArray × Value) → ByteArray → Option Value
 | [], _ => none
 | p :: r, n => if p.1 = n then some p.2 else mapGet r n
def Stamps (es : Array MapEntry) (clk : Nat) : Prop := (∀ x ∈ es.toList, x.born < clk) ∧ (es.toList.map (·.born)).Nodup
def MapAt (w : World) (r : Nat) (L : List (ByteArray × Value)) : Prop :=
 ∃ es clk, w.heap[r]? = some (.map es clk) ∧ es.toList.map (fun e => (e.key, e.val)) = L.map (fun p => (Value.string p.1, p.2)) ∧ Stamps es clk
theorem Stamps.push {es : Array MapEntry} {clk : Nat} (h : Stamps es clk) (k v : Value) : Stamps (es.push { key := k, val := v, born := clk }) (clk + 1) := by
 obtain ⟨h1, h2⟩ := h
 refine ⟨fun x hx => ?_, ?_⟩
 ·rw [Array.toList_push, List.mem_append] at hx
  rcases hx with hx | hx
  ·have := h1 x hx; omega
  ·have e : x = { key := k, val := v, born := clk } := by simpa using hx
   subst e; exact Nat.lt_succ_self _
 ·rw [Array.toList_push, List.map_append, List.nodup_append]
  refine ⟨h2, by simp, fun a ha b hb => ?_⟩
  obtain ⟨x, hx, rfl⟩ := List.mem_map.1 ha
  have := h1 x hx
  have e : b = clk := by simpa using hb
  omega
theorem map_born_modify (j : Nat) (k v : Value) : ∀ l : List MapEntry, (l.modify j fun e => { e with key := k, val := v }).map (·.born) = l.map (·.born) := by
 induction j with
 | zero => intro l; cases l <;> simp
 | succ j ih => intro l; cases l with
  | nil => simp
  | cons a r => simp [List.modify_succ_cons, ih r]
theorem Stamps.modify {es : Array MapEntry} {clk : Nat} (h : Stamps es clk) (j : Nat) (k v : Value) : Stamps (es.modify j fun e => { e with key := k, val := v }) clk := by
 obtain ⟨h1, h2⟩ := h
 have e := map_born_modify j k v es.toList
 refine ⟨fun x hx => ?_, by rw [Array.toList_modify, e]; exact h2⟩
 rw [Array.toList_modify] at hx
 have : x.born ∈ es.toList.map (·.born) := by rw [← e]; exact List.mem_map.2 ⟨x, hx, rfl⟩
 obtain ⟨y, hy, hb⟩ := List.mem_map.1 this
 rw [← hb]; exact h1 y hy
theorem MapAt.new (w : World) : MapAt (w.alloc (.map #[] 0)) w.heap.size [] := ⟨#[], 0, heap_alloc_new w _, rfl, by simp [Stamps]⟩
theorem MapAt.lt {w : World} {r : Nat} {L : List (ByteArray × Value)} (h : MapAt w r L) : r < w.heap.size := by
 obtain ⟨es, clk, h, _⟩ := h
 exact (Array.getElem?_eq_some_iff.1 h).1
theorem MapAt.kept {w w' : World} {r : Nat} {L : List (ByteArray × Value)} (h : MapAt w r L) (hk : w'.heap[r]? = w.heap[r]?) : MapAt w' r L := by
 obtain ⟨es, clk, h1, h2⟩ := h
 exact ⟨es, clk, hk.trans h1, h2⟩
theorem MapAt.below {w w' : World} {r B : Nat} {L : List (ByteArray × Value)} (h : MapAt w r L) (hb : Below B w w') (hB : r < B) : MapAt w' r L := h.kept (hb.block r hB)
theorem findNow_map (n : ByteArray) : ∀ (l : List MapEntry) (L : List (ByteArray × Value)) (i : Nat), l.map (fun e => (e.key, e.val)) = L.map (fun p => (Value.string p.1, p.2)) →
  (mapGet L n = none → Instr.findNow .string (.string n) l i = some none) ∧ (∀ v, mapGet L n = some v → ∃ j, Instr.findNow .string (.string n) l i = some (some (j, v)))
 | [], [], i, h => ⟨fun _ => rfl, fun v h => by simp [mapGet] at h⟩
 | [], p :: L, i, h => by simp at h
 | e :: l, [], i, h => by simp at h
 | e :: l, p :: L, i, h => by
  simp only [List.map_cons, List.cons.injEq, Prod.mk.injEq] at h
  obtain ⟨⟨hk, hv⟩, ht⟩ := h
  obtain ⟨ih1, ih2⟩ := findNow_map n l L (i + 1) ht
  by_cases hn : p.1 = n
  ·have hs : Instr.sameNow .string (.string n) e.key = some true := by
    rw [hk, hn]
    show some (n == n) = some true
    rw [show (n == n) = true from (MapKept.bytes_beq _ _).2 rfl]
   refine ⟨fun h => by simp [mapGet, hn] at h, fun v h => ⟨i, ?_⟩⟩
   simp only [mapGet, hn, if_true, Option.some.injEq] at h
   simp [Instr.findNow, hs, hv, h]
  ·have hs : Instr.sameNow .string (.string n) e.key = some false := by
    rw [hk]
    show some (n == p.1) = some false
    have hb : (n == p.1) = false := by
     cases hh : (n == p.1) with
     | false => rfl
     | true => exact absurd ((MapKept.bytes_beq _ _).1 hh).symm hn
    rw [hb]
   refine ⟨fun h => ?_, fun v h => ?_⟩
   ·rw [mapGet, if_neg hn] at h
    simp [Instr.findNow, hs, ih1 h]
   ·rw [mapGet, if_neg hn] at h
    obtain ⟨j, hj⟩ := ih2 v h
    exact ⟨j, by simp [Instr.findNow, hs, hj]⟩
theorem run_look {P : Program} {w : World} {T kt et : TypeId} {r : Nat} {L : List (ByteArray × Value)} {z : Value} (hm : P.underlying T = some (.map kt et)) (hk : P.underlying kt = some .string) (hz : (zeroValue et).run P w = .ok z w) (h : MapAt w r L) (n : ByteArray) :
  (Instr.lookup T (.map (some r)) (.string n) true).run P w = .ok (.tuple #[(mapGet L n).getD z, .bool (mapGet L n).isSome]) w := by
 obtain ⟨es, clk, hb, he, hst⟩ := h
 obtain ⟨h1, h2⟩ := findNow_map n es.toList L 0 he
 have hc : ∀ b, (Instr.checkKey b 10000 kt (.string n)).run P w = .ok () w := fun b => MapKept.run_checkKey (k := .string n) hk (by simp [MapKept.IsKey]) b 9999
 cases hg : mapGet L n with
 | none => simp [Instr.lookup, run_underlying hm, MapKept.run_getObj_map hb, hc, MapKept.run_findKey hk (h1 hg), Result.andThen, hz]
 | some v =>
  obtain ⟨j, hj⟩ := h2 v hg
  simp [Instr.lookup, run_underlying hm, MapKept.run_getObj_map hb, hc, MapKept.run_findKey hk hj, Result.andThen]
theorem run_put {P : Program} {w : World} {T kt et : TypeId} {r : Nat} {L : List (ByteArray × Value)} (hm : P.underlying T = some (.map kt et)) (hk : P.underlying kt = some .string) (h : MapAt w r L) (n : ByteArray) (v : Value) (hn : mapGet L n = none) :
  ∃ w', (Instr.mapUpdate T (.map (some r)) (.string n) v).run P w = .ok () w' ∧ MapAt w' r (L ++ [(n, v)]) ∧ w'.heap.size = w.heap.size ∧ w'.os = w.os ∧ w'.tape = w.tape ∧ w'.output = w.output ∧ (∀ b, b ≠ r → w'.heap[b]? = w.heap[b]?) := by
 obtain ⟨es, clk, hb, he, hst⟩ := h
 obtain ⟨h1, h2⟩ := findNow_map n es.toList L 0 he
 have hc : (Instr.checkKey false 10000 kt (.string n)).run P w = .ok () w := MapKept.run_checkKey (k := .string n) hk (by simp [MapKept.IsKey]) false 9999
 have hlt : r < w.heap.size := (Array.getElem?_eq_some_iff.1 hb).1
 refine ⟨{ w with heap := w.heap.setIfInBounds r (.map (es.push { key := .string n, val := v, born := clk }) (clk + 1)) }, ?_, ⟨_, _, (MapKept.heap_set hb).1, by simp [he], hst.push _ _⟩, by simp, rfl, rfl, rfl, fun b hne => (MapKept.heap_set hb).2 b hne⟩
 simp [Instr.mapUpdate, run_underlying hm, MapKept.run_getObj_map hb, hc, MapKept.run_findKey hk (h1 hn), MapKept.run_setObj_map _ hb, Result.andThen]
def setAt : List (ByteArray × Value) → ByteArray → Value → List (ByteArray × Value)
 | [], _, _ => []
 | p :: r, n, v => if p.1 = n then (p.1, v) :: r else p :: setAt r n v
theorem findNow_set (n : ByteArray) (x : Value) : ∀ (l : List MapEntry) (L : List (ByteArray × Value)) (i : Nat) (v : Value), l.map (fun e => (e.key, e.val)) = L.map (fun p => (Value.string p.1, p.2)) → mapGet L n = some v →
  ∃ j e, Instr.findNow .string (.string n) l i = some (some (i + j, v)) ∧ l[j]? = some e ∧ e.key = .string n ∧ (l.modify j fun e => { e with key := .string n, val := x }).map (fun e => (e.key, e.val)) = (setAt L n x).map (fun p => (Value.string p.1, p.2))
 | [], [], i, v, h, hv => by simp [mapGet] at hv
 | [], p :: L, i, v, h, hv => by simp at h
 | e :: l, [], i, v, h, hv => by simp at h
 | e :: l, p :: L, i, v, h, hv => by
  simp only [List.map_cons, List.cons.injEq, Prod.mk.injEq] at h
  obtain ⟨⟨hk, he⟩, ht⟩ := h
  by_cases hn : p.1 = n
  ·have hs : Instr.sameNow .string (.string n) e.key = some true := by
    rw [hk, hn]
    show some (n == n) = some true
    rw [show (n == n) = true from (MapKept.bytes_beq _ _).2 rfl]
   simp only [mapGet, hn, if_true, Option.some.injEq] at hv
   refine ⟨0, e, by simp [Instr.findNow, hs, he, hv], rfl, by rw [hk, hn], ?_⟩
   simp [setAt, hn, ht]
  ·have hs : Instr.sameNow .string (.string n) e.key = some false := by
    rw [hk]
    show some (n == p.1) = some false
    have hb : (n == p.1) = false := by
     cases hh : (n == p.1) with
     | false => rfl
     | true => exact absurd ((MapKept.bytes_beq _ _).1 hh).symm hn
    rw [hb]
   rw [mapGet, if_neg hn] at hv
   obtain ⟨j, e', h1, h2, h3, h4⟩ := findNow_set n x l L (i + 1) v ht hv
   refine ⟨j + 1, e', by simp [Instr.findNow, hs, h1]; omega, by simpa using h2, h3, ?_⟩
   rw [setAt, if_neg hn]
   simp [List.modify_succ_cons, h4, hk, he]
theorem run_look1 {P : Program} {w : World} {T kt et : TypeId} {r : Nat} {L : List (ByteArray × Value)} {z : Value} (hm : P.underlying T = some (.map kt et)) (hk : P.underlying kt = some .string) (hz : (zeroValue et).run P w = .ok z w) (h : MapAt w r L) (n : ByteArray) :
  (Instr.lookup T (.map (some r)) (.string n) false).run P w = .ok ((mapGet L n).getD z) w := by
 obtain ⟨es, clk, hb, he, hstm⟩ := h
 obtain ⟨h1, h2⟩ := findNow_map n es.toList L 0 he
 have hc : ∀ b, (Instr.checkKey b 10000 kt (.string n)).run P w = .ok () w := fun b => MapKept.run_checkKey (k := .string n) hk (by simp [MapKept.IsKey]) b 9999
 cases hg : mapGet L n with
 | none => simp [Instr.lookup, run_underlying hm, MapKept.run_getObj_map hb, hc, MapKept.run_findKey hk (h1 hg), Result.andThen, hz]
 | some v =>
  obtain ⟨j, hj⟩ := h2 v hg
  simp [Instr.lookup, run_underlying hm, MapKept.run_getObj_map hb, hc, MapKept.run_findKey hk hj, Result.andThen]
theorem run_set {P : Program} {w : World} {T kt et : TypeId} {r : Nat} {L : List (ByteArray × Value)} (hm : P.underlying T = some (.map kt et)) (hk : P.underlying kt = some .string) (h : MapAt w r L) (n : ByteArray) (v old : Value) (hn : mapGet L n = some old) :
  ∃ w', (Instr.mapUpdate T (.map (some r)) (.string n) v).run P w = .ok () w' ∧ MapAt w' r (setAt L n v) ∧ w'.heap.size = w.heap.size ∧ w'.os = w.os ∧ w'.tape = w.tape ∧ w'.output = w.output ∧ (∀ b, b ≠ r → w'.heap[b]? = w.heap[b]?) := by
 obtain ⟨es, clk, hb, he, hstm⟩ := h
 obtain ⟨j, e0, h1, h2, h3, h4⟩ := findNow_set n v es.toList L 0 old he hn
 have hc : (Instr.checkKey false 10000 kt (.string n)).run P w = .ok () w := MapKept.run_checkKey (k := .string n) hk (by simp [MapKept.IsKey]) false 9999
 have hj : es[j]? = some e0 := by simpa using h2
 rw [Nat.zero_add] at h1
 have hst : (Instr.keyThatStays (.string n) (.string n)).run P w = .ok (.string n) w := MapKept.run_keyThatStays (d := .string) (by simp [MapKept.IsKey])
 refine ⟨{ w with heap := w.heap.setIfInBounds r (.map (es.modify j fun e => { e with key := .string n, val := v }) clk) }, ?_, ⟨_, _, (MapKept.heap_set hb).1, by rw [Array.toList_modify]; exact h4, hstm.modify _ _ _⟩, by simp, rfl, rfl, rfl, fun b hne => (MapKept.heap_set hb).2 b hne⟩
 simp [Instr.mapUpdate, run_underlying hm, MapKept.run_getObj_map hb, hc, MapKept.run_findKey hk h1, hj, h3, hst, MapKept.run_setObj_map _ hb, Result.andThen]
open Go.ChangeMaps (setBlock)
def RangeAt (w : World) (b r : Nat) (L rem : List (ByteArray × Value)) : Prop :=
 ∃ es clk since seen c0, w.heap[b]? = some (.map es clk) ∧ es.toList.map (fun e => (e.key, e.val)) = L.map (fun p => (Value.string p.1, p.2)) ∧ Stamps es clk ∧
  w.heap[r]? = some (.mapIter (some b) since seen c0) ∧ (∀ x ∈ es.toList, x.born < since) ∧ since ≤ c0 ∧ since ≤ clk ∧
  (leftOf es seen).toList.map (fun e => (e.key, e.val)) = rem.map (fun p => (Value.string p.1, p.2))
def leftAt (w : World) (b r : Nat) : Nat :=
 match w.heap[b]?, w.heap[r]? with
 | some (.map es _), some (.mapIter _ _ seen _) => (leftOf es seen).size
 | _, _ => 0
theorem RangeAt.left {w : World} {b r : Nat} {L rem : List (ByteArray × Value)} (h : RangeAt w b r L rem) : leftAt w b r = rem.length := by
 obtain ⟨es, clk, since, seen, c0, hb, _, _, hr, _, _, _, hl⟩ := h
 have := congrArg List.length hl
 simp only [List.length_map, Array.length_toList] at this
 simp only [leftAt, hb, hr]
 exact this
theorem RangeAt.map {w : World} {b r : Nat} {L rem : List (ByteArray × Value)} (h : RangeAt w b r L rem) : MapAt w b L := by
 obtain ⟨es, clk, since, seen, c0, hb, he, hs, _⟩ := h
 exact ⟨es, clk, hb, he, hs⟩
theorem RangeAt.ne {w : World} {b r : Nat} {L rem : List (ByteArray × Value)} (h : RangeAt w b r L rem) : r ≠ b := by
 obtain ⟨es, clk, since, seen, c0, hb, he, hs, hr, _⟩ := h
 intro e
 rw [e, hb] at hr
 cases hr
theorem RangeAt.lt {w : World} {b r : Nat} {L rem : List (ByteArray × Value)} (h : RangeAt w b r L rem) : r < w.heap.size := by
 obtain ⟨es, clk, since, seen, c0, hb, he, hs, hr, _⟩ := h
 exact (Array.getElem?_eq_some_iff.1 hr).1
theorem RangeAt.kept {w w' : World} {b r : Nat} {L rem : List (ByteArray × Value)} (h : RangeAt w b r L rem) (hb' : w'.heap[b]? = w.heap[b]?) (hr' : w'.heap[r]? = w.heap[r]?) : RangeAt w' b r L rem := by
 obtain ⟨es, clk, since, seen, c0, hb, he, hs, hr, rest⟩ := h
 exact ⟨es, clk, since, seen, c0, hb'.trans hb, he, hs, hr'.trans hr, rest⟩
theorem RangeAt.below {w w' : World} {b r B : Nat} {L rem : List (ByteArray × Value)} (h : RangeAt w b r L rem) (hb : Below B w w') (h1 : b < B) (h2 : r < B) : RangeAt w' b r L rem := h.kept (hb.block b h1) (hb.block r h2)
theorem MapAt.range {P : Program} {w : World} {T kt et : TypeId} {b : Nat} {L : List (ByteArray × Value)} (h : MapAt w b L) (hm : P.underlying T = some (.map kt et)) :
  ∃ o, (Instr.range T (.map (some b))).run P w = .ok (.pointer (some ⟨w.heap.size, 0, none⟩)) (w.alloc o) ∧ RangeAt (w.alloc o) b w.heap.size L L := by
 have hlt := h.lt
 obtain ⟨es, clk, hb, he, hs⟩ := h
 refine ⟨_, run_range_map w T kt et b es clk hm hb, es, clk, clk, #[], clk, (Below.heap_alloc _ _ _ hlt).trans hb, he, hs, heap_alloc_new w _, hs.1, Nat.le_refl _, Nat.le_refl _, ?_⟩
 rw [← he]
 congr 1
 simp [leftOf]
theorem kv_inj {l : List MapEntry} {L : List (ByteArray × Value)} (h : l.map (fun e => (e.key, e.val)) = L.map (fun p => (Value.string p.1, p.2))) {e : MapEntry} (he : e ∈ l) : ∃ p ∈ L, e.key = .string p.1 ∧ e.val = p.2 := by
 have : (e.key, e.val) ∈ L.map (fun p => (Value.string p.1, p.2)) := by rw [← h]; exact List.mem_map.2 ⟨e, he, rfl⟩
 obtain ⟨p, hp, e2⟩ := List.mem_map.1 this
 simp only [Prod.mk.injEq] at e2
 exact ⟨p, hp, e2.1.symm, e2.2.symm⟩
theorem left_out (seen : Array Nat) (e : MapEntry) : ∀ (l : List MapEntry) (R : List (ByteArray × Value)), (l.map (·.born)).Nodup → e ∈ l → seen.contains e.born = false → (l.filter fun x => !seen.contains x.born).map (fun e => (e.key, e.val)) = R.map (fun p => (Value.string p.1, p.2)) →
  ∃ p R', e.key = .string p.1 ∧ e.val = p.2 ∧ R.Perm (p :: R') ∧ (l.filter fun x => !(seen.push e.born).contains x.born).map (fun e => (e.key, e.val)) = R'.map (fun p => (Value.string p.1, p.2))
 | [], R, _, he, _, _ => by cases he
 | a :: l, R, hn, he, hs, hR => by
  simp only [List.map_cons, List.nodup_cons] at hn
  obtain ⟨hn1, hn2⟩ := hn
  by_cases ha : a.born = e.born
  ·have hae : e = a := by
    rcases List.mem_cons.1 he with h | h
    ·exact h
    ·exact absurd (List.mem_map.2 ⟨e, h, ha.symm⟩) hn1
   subst hae
   have hs' : (!seen.contains e.born) = true := by rw [hs]; rfl
   rw [List.filter_cons_of_pos (by simpa using hs')] at hR
   match R, hR with
   | p :: R', hR =>
    simp only [List.map_cons, List.cons.injEq, Prod.mk.injEq] at hR
    refine ⟨p, R', hR.1.1, hR.1.2, List.Perm.refl _, ?_⟩
    rw [List.filter_cons_of_neg (by simp), ← hR.2]
    congr 1
    refine List.filter_congr fun x hx => ?_
    have hne : x.born ≠ e.born := fun h => hn1 (List.mem_map.2 ⟨x, hx, h⟩)
    simp [hne]
  ·have he' : e ∈ l := by
    rcases List.mem_cons.1 he with h | h
    ·exact absurd (by rw [h]) ha
    ·exact h
   by_cases hsa : seen.contains a.born = true
   ·rw [List.filter_cons_of_neg (by simpa using hsa)] at hR
    obtain ⟨p, R', h1, h2, h3, h4⟩ := left_out seen e l R hn2 he' hs hR
    refine ⟨p, R', h1, h2, h3, ?_⟩
    rw [List.filter_cons_of_neg (by simp at hsa ⊢; exact fun h => absurd hsa h), h4]
   ·have hsa' : seen.contains a.born = false := by simpa using hsa
    rw [List.filter_cons_of_pos (by simpa using hsa')] at hR
    match R, hR with
    | q :: R0, hR =>
     simp only [List.map_cons, List.cons.injEq] at hR
     obtain ⟨p, R', h1, h2, h3, h4⟩ := left_out seen e l R0 hn2 he' hs hR.2
     refine ⟨p, q :: R', h1, h2, (List.Perm.cons q h3).trans (List.Perm.swap p q R'), ?_⟩
     rw [List.filter_cons_of_pos (by simp at hsa' ⊢; exact ⟨hsa', ha⟩), List.map_cons, List.map_cons, h4, hR.1]
theorem RangeAt.next {P : Program} {w : World} {b r : Nat} {L rem : List (ByteArray × Value)} (h : RangeAt w b r L rem) (ty : TypeId) :
  (rem = [] ∧ (Instr.next (.pointer (some ⟨r, 0, none⟩)) false ty).run P w = .ok (.tuple #[.bool false]) w) ∨
  ∃ p rem' w', rem.Perm (p :: rem') ∧ (Instr.next (.pointer (some ⟨r, 0, none⟩)) false ty).run P w = .ok (.tuple #[.bool true, .string p.1, p.2]) w' ∧ RangeAt w' b r L rem' ∧
   w'.heap.size = w.heap.size ∧ w'.os = w.os ∧ w'.tape = w.tape ∧ w'.output = w.output ∧ (∀ j, j ≠ r → w'.heap[j]? = w.heap[j]?) ∧ (Instr.entry (.pointer (some ⟨r, 0, none⟩))).run P w' = .ok (.tuple #[.string p.1, p.2]) w' := by
 have hne := h.ne
 obtain ⟨es, clk, since, seen, c0, hb, he, hs, hr, hold, hsc, hsk, hl⟩ := h
 rcases run_next_at (P := P) w ty r b since c0 seen es clk hr hb hold hsc with ⟨h0, hrun⟩ | ⟨e, hem, w1, hal, hrun⟩
 ·refine Or.inl ⟨?_, hrun⟩
  have := congrArg List.length hl
  simp only [List.length_map, Array.length_toList, h0] at this
  exact List.length_eq_zero_iff.1 this.symm
 ·obtain ⟨hm1, hm2⟩ := mem_left hem
  have hl' : (es.toList.filter fun x => !seen.contains x.born).map (fun e => (e.key, e.val)) = rem.map (fun p => (Value.string p.1, p.2)) := by
   rw [← hl]; unfold leftOf; rw [Array.toList_filter]
  obtain ⟨p, rem', hk, hv, hperm, hrem⟩ := left_out seen e es.toList rem hs.2 hm1 hm2 hl'
  have hr1 : w1.heap[r]? = some (.mapIter (some b) since seen c0) := by rcases hal with rfl | rfl <;> exact hr
  have hb1 : w1.heap[b]? = some (.map es clk) := by rcases hal with rfl | rfl <;> exact hb
  have hset := MapKept.heap_set (o' := .mapIter (some b) since (seen.push e.born) clk) hr1
  have hb' : (setBlock w1 r (.mapIter (some b) since (seen.push e.born) clk)).heap[b]? = some (.map es clk) := (hset.2 b (fun e1 => hne e1.symm)).trans hb1
  rw [hk, hv] at hrun
  refine Or.inr ⟨p, rem', _, hperm, hrun, ⟨es, clk, since, seen.push e.born, clk, hb', he, hs, hset.1, hold, hsk, hsk, ?_⟩, ?_, ?_, ?_, ?_, ?_, ?_⟩
  ·rw [← hrem]; unfold leftOf; rw [Array.toList_filter]
  ·rcases hal with rfl | rfl <;> simp [setBlock]
  ·rcases hal with rfl | rfl <;> rfl
  ·rcases hal with rfl | rfl <;> rfl
  ·rcases hal with rfl | rfl <;> rfl
  ·intro j hj
   have := hset.2 j hj
   rcases hal with rfl | rfl <;> exact this
  ·have := run_entry_at (P := P) _ r b since seen es clk e hset.1 hb' hm1 hs.2
   rw [hk, hv] at this
   exact this
def delP : List (ByteArray × Value) → ByteArray → List (ByteArray × Value)
 | [], _ => []
 | p :: r, n => if p.1 = n then r else p :: delP r n
theorem findNow_del (n : ByteArray) (q : MapEntry → Bool) : ∀ (l : List MapEntry) (L : List (ByteArray × Value)) (i : Nat), l.map (fun e => (e.key, e.val)) = L.map (fun p => (Value.string p.1, p.2)) → (∀ e ∈ l, e.key = .string n → q e = false) →
  (mapGet L n = none → delP L n = L) ∧ (∀ v, mapGet L n = some v → ∃ j, Instr.findNow .string (.string n) l i = some (some (i + j, v)) ∧ j < l.length ∧ (l.eraseIdx j).map (fun e => (e.key, e.val)) = (delP L n).map (fun p => (Value.string p.1, p.2)) ∧ (l.eraseIdx j).filter q = l.filter q)
 | [], [], i, h, _ => ⟨fun _ => rfl, fun v hv => by simp [mapGet] at hv⟩
 | [], p :: L, i, h, _ => by simp at h
 | e :: l, [], i, h, _ => by simp at h
 | e :: l, p :: L, i, h, hq => by
  simp only [List.map_cons, List.cons.injEq, Prod.mk.injEq] at h
  obtain ⟨⟨hk, he⟩, ht⟩ := h
  obtain ⟨ih1, ih2⟩ := findNow_del n q l L (i + 1) ht fun e he => hq e (by simp [he])
  by_cases hn : p.1 = n
  ·have hs : Instr.sameNow .string (.string n) e.key = some true := by
    rw [hk, hn]
    show some (n == n) = some true
    rw [show (n == n) = true from (MapKept.bytes_beq _ _).2 rfl]
   refine ⟨fun h => by simp [mapGet, hn] at h, fun v hv => ?_⟩
   simp only [mapGet, hn, if_true, Option.some.injEq] at hv
   refine ⟨0, by simp [Instr.findNow, hs, he, hv], by simp, ?_, ?_⟩
   ·simp [delP, hn, ht]
   ·rw [List.eraseIdx_cons_zero, List.filter_cons_of_neg (by rw [hq e (by simp) (by rw [hk, hn])]; simp)]
  ·have hs : Instr.sameNow .string (.string n) e.key = some false := by
    rw [hk]
    show some (n == p.1) = some false
    have hb : (n == p.1) = false := by
     cases hh : (n == p.1) with
     | false => rfl
     | true => exact absurd ((MapKept.bytes_beq _ _).1 hh).symm hn
    rw [hb]
   refine ⟨fun h => ?_, fun v hv => ?_⟩
   ·rw [mapGet, if_neg hn] at h
    rw [delP, if_neg hn, ih1 h]
   ·rw [mapGet, if_neg hn] at hv
    obtain ⟨j, h1, h2, h3, h4⟩ := ih2 v hv
    refine ⟨j + 1, by simp [Instr.findNow, hs, h1]; omega, by simpa using h2, ?_, ?_⟩
    ·rw [delP, if_neg hn]; simp [h3, hk, he]
    ·rw [List.eraseIdx_cons_succ]
     cases hqe : q e with
     | true => rw [List.filter_cons_of_pos hqe, List.filter_cons_of_pos hqe, h4]
     | false => rw [List.filter_cons_of_neg (by simp [hqe]), List.filter_cons_of_neg (by simp [hqe]), h4]
theorem RangeAt.drop {P : Program} {w : World} {T kt et ty : TypeId} {b r : Nat} {L rem : List (ByteArray × Value)} (h : RangeAt w b r L rem) (hm : P.underlying T = some (.map kt et)) (hk : P.underlying kt = some .string) (n : ByteArray) (hr0 : ∀ p ∈ rem, p.1 ≠ n) (v : Value) (hv : mapGet L n = some v) :
  ∃ w', (Builtin.delete_ #[T, kt] ty #[.map (some b), .string n]).run P w = .ok (.tuple #[]) w' ∧ RangeAt w' b r (delP L n) rem ∧ w'.heap.size = w.heap.size ∧ w'.os = w.os ∧ w'.tape = w.tape ∧ w'.output = w.output ∧ (∀ j, j ≠ b → w'.heap[j]? = w.heap[j]?) := by
 have hne := h.ne
 obtain ⟨es, clk, since, seen, c0, hb, he, hs, hr, hold, hsc, hsk, hl⟩ := h
 have hl' : (es.toList.filter fun x => !seen.contains x.born).map (fun e => (e.key, e.val)) = rem.map (fun p => (Value.string p.1, p.2)) := by
  rw [← hl]; unfold leftOf; rw [Array.toList_filter]
 have hq : ∀ e ∈ es.toList, e.key = .string n → (!seen.contains e.born) = false := fun e hee hke => by
  cases hc : seen.contains e.born with
  | true => rfl
  | false =>
   obtain ⟨p, hp, h1, _⟩ := kv_inj hl' (List.mem_filter.2 ⟨hee, by rw [hc]; rfl⟩)
   rw [hke] at h1
   exact absurd (Value.string.inj h1).symm (hr0 p hp)
 obtain ⟨j, h1, h2, h3, h4⟩ := (findNow_del n (fun x => !seen.contains x.born) es.toList L 0 he hq).2 v hv
 rw [Nat.zero_add] at h1
 have hc : ∀ b, (Instr.checkKey b 10000 kt (.string n)).run P w = .ok () w := fun b => MapKept.run_checkKey (k := .string n) hk (by simp [MapKept.IsKey]) b 9999
 have hsub : (es.eraseIdxIfInBounds j).toList = es.toList.eraseIdx j := by
  unfold Array.eraseIdxIfInBounds
  rw [dif_pos (by simpa using h2)]
  simp
 have hmem : ∀ x ∈ (es.eraseIdxIfInBounds j).toList, x ∈ es.toList := fun x hx => by rw [hsub] at hx; exact (List.eraseIdx_sublist _ _).subset hx
 refine ⟨setBlock w b (.map (es.eraseIdxIfInBounds j) clk), ?_, ⟨es.eraseIdxIfInBounds j, clk, since, seen, c0, (MapKept.heap_set hb).1, by rw [hsub]; exact h3, ⟨fun x hx => hs.1 x (hmem x hx), ?_⟩, ((MapKept.heap_set hb).2 r hne).trans hr, fun x hx => hold x (hmem x hx), hsc, hsk, ?_⟩, by simp [setBlock], rfl, rfl, rfl, fun i hi => (MapKept.heap_set hb).2 i hi⟩
 ·simp [Builtin.delete_, run_underlying hm, MapKept.run_getObj_map hb, hc, MapKept.run_findKey hk h1, MapKept.run_setObj_map _ hb, Result.andThen, setBlock]
 ·rw [hsub]
  exact hs.2.sublist ((List.eraseIdx_sublist _ _).map _)
 ·unfold leftOf
  rw [Array.toList_filter, hsub, h4]
  exact hl'
theorem Tryz.infoBind : (Tryz.prog.info? 50).map (fun i => (i.zero, i.size, i.bytes)) = some (some (.agg #[.string ByteArray.empty, .string ByteArray.empty, .slice none 0 0]), 3, 56) := by kernel_rfl
theorem cell_three_new (w : World) (c0 c1 c2 : Value) (T : Nat) : ∀ j u, [c0, c1, c2][j]? = some u → (w.alloc (.cells #[c0, c1, c2] T)).cell? ((⟨w.heap.size, 0, none⟩ : Addr).add j) = some u :=
 World.news_of_block (cs := #[c0, c1, c2]) (heap_alloc_new w _)
abbrev Pc := Pr × (Option Addr × Nat) × (Option Addr × Nat)
instance : Inhabited Pc := ⟨(⟨⟨⟨#[]⟩, []⟩, ⟨⟨#[]⟩, []⟩⟩, (none, 0), (none, 0))⟩
def enc4 (x : Pc) : List Value := [.string x.1.l.name, .slice x.2.1.1 x.1.l.args.length x.2.1.2, .string x.1.r.name, .slice x.2.2.1 x.1.r.args.length x.2.2.2]
def flat4 : List Pc → List Value
 | [] => []
 | x :: r => enc4 x ++ flat4 r
theorem flat4_append (b : List Pc) : ∀ a, flat4 (a ++ b) = flat4 a ++ flat4 b
 | [] => rfl
 | x :: r => by rw [List.cons_append, flat4, flat4, flat4_append b r, List.append_assoc]
theorem flat4_length : ∀ a : List Pc, (flat4 a).length = a.length * 4
 | [] => rfl
 | x :: r => by rw [flat4, List.length_append, flat4_length r]; simp [enc4]; omega
theorem flat4_get : ∀ (a : List Pc) (i : Nat) (h : i < a.length) (j : Nat), j < 4 → (flat4 a)[i * 4 + j]? = (enc4 a[i])[j]?
 | [], i, h, j, hj => by simp at h
 | x :: r, 0, h, j, hj => by
  rw [flat4, List.getElem?_append_left (by simp [enc4]; omega)]; simp
 | x :: r, i + 1, h, j, hj => by
  rw [flat4, List.getElem?_append_right (by simp [enc4]; omega)]
  have e : (i + 1) * 4 + j - (enc4 x).length = i * 4 + j := by simp [enc4]; omega
  rw [e, flat4_get r i (by simpa using h) j hj]
  simp
structure QRow (w : World) (N : Nat) (Y : Nat → Prop) (v : Value) (cs : List Pc) : Prop where
 own : w.ownsRow N 34 4 v cs.length (flat4 cs)
 row : ∀ x ∈ cs, Sl w (fun b => Y b ∨ (N ≤ b ∧ some b ≠ v.ownBlock)) x.2.1.1 x.1.l.args ∧ Sl w (fun b => Y b ∨ (N ≤ b ∧ some b ≠ v.ownBlock)) x.2.2.1 x.1.r.args
theorem QRow.start (w : World) (N : Nat) (Y : Nat → Prop) : QRow w N Y (.slice none 0 0) [] := ⟨World.ownsRow_nil w N _ 4, by simp⟩
theorem QRow.below {w w' : World} {N : Nat} {Y : Nat → Prop} {v : Value} {cs : List Pc} (h : QRow w N Y v cs) (hb : Below w.heap.size w w') : QRow w' N Y v cs :=
 ⟨h.own.kept (w' := w') (row := none) ⟨hb.os, hb.tape, hb.output, hb.size, fun j hj _ => hb.block j hj⟩ (by rcases Option.eq_none_or_eq_some (Value.ownBlock v) with h | ⟨x, h⟩; exact Or.inl h; exact Or.inr (by rw [h]; simp)),
  fun x hx => ⟨(h.row x hx).1.later hb, (h.row x hx).2.later hb⟩⟩
theorem QRow.ne {w : World} {N : Nat} {Y : Nat → Prop} {v : Value} {cs : List Pc} (h : QRow w N Y v cs) {b : Nat} (hb : b < N) : some b ≠ v.ownBlock := fun e => by
 have := (h.own.lt b e.symm).1; omega
theorem QRow.push {w w1 w2 w3 : World} {N : Nat} {Y : Nat → Prop} {v : Value} {cs : List Pc} (h : QRow w N Y v cs) (hN : N ≤ w.heap.size) (hY : ∀ b, Y b → b < N) (hb : Below w.heap.size w w1) {x : Pc}
  (ht : Sl w1 (fun b => Y b ∨ w.heap.size ≤ b) x.2.1.1 x.1.l.args ∧ Sl w1 (fun b => Y b ∨ w.heap.size ≤ b) x.2.2.1 x.1.r.args) (o : Obj) (hw2 : w2 = w1.alloc o) {g cap : Nat}
  (hown : w3.ownsRow N 34 4 (.slice (some ⟨g, 0, none⟩) (cs.length + 1) cap) (cs.length + 1) (flat4 cs ++ enc4 x)) (hg : w2.grownBy w3 v.ownBlock) (hg1 : v.ownBlock = some g ∨ g = w2.heap.size) :
  QRow w3 N Y (.slice (some ⟨g, 0, none⟩) (cs.length + 1) cap) (cs ++ [x]) := by
 subst hw2
 have hlt := h.own.lt
 have hsz : w1.heap.size ≤ (w1.alloc o).heap.size := by simp
 have hbs := hb.size
 have hgN : N ≤ g := by
  rcases hg1 with e | e
  ·exact (hlt g e).1
  ·simp at e; omega
 have old : ∀ (a : Option Addr) (l : List Tm), Sl w (fun b => Y b ∨ (N ≤ b ∧ some b ≠ v.ownBlock)) a l → Sl w3 (fun b => Y b ∨ (N ≤ b ∧ some b ≠ (Value.slice (some ⟨g, 0, none⟩) (cs.length + 1) cap).ownBlock)) a l := fun a l h0 => by
  have h1 : Sl w (fun b => (Y b ∨ (N ≤ b ∧ some b ≠ v.ownBlock)) ∧ b < w.heap.size) a l := h0.mono fun b h1 h2 => ⟨h1, h2⟩
  have h2 : Sl w3 (fun b => (Y b ∨ (N ≤ b ∧ some b ≠ v.ownBlock)) ∧ b < w.heap.size) a l := h1.kept fun b hx => by
   have hne : some b ≠ v.ownBlock := by
    rcases hx.1 with hy | hy
    ·exact h.ne (hY b hy)
    ·exact hy.2
   rw [hg.block b (by simp; omega) hne, Below.heap_alloc _ _ _ (by omega), hb.block b hx.2]
  refine h2.mono fun b hx _ => ?_
  rcases hx.1 with hy | hy
  ·exact Or.inl hy
  ·refine Or.inr ⟨hy.1, fun e => ?_⟩
   simp [Value.ownBlock] at e
   rcases hg1 with e' | e'
   ·exact hy.2 (by rw [e', e])
   ·simp at e'; omega
 have new : ∀ (a : Option Addr) (l : List Tm), Sl w1 (fun b => Y b ∨ w.heap.size ≤ b) a l → Sl w3 (fun b => Y b ∨ (N ≤ b ∧ some b ≠ (Value.slice (some ⟨g, 0, none⟩) (cs.length + 1) cap).ownBlock)) a l := fun a l h0 => by
  have h1 : Sl w1 (fun b => (Y b ∨ w.heap.size ≤ b) ∧ b < w1.heap.size) a l := h0.mono fun b h1 h2 => ⟨h1, h2⟩
  have h2 : Sl w3 (fun b => (Y b ∨ w.heap.size ≤ b) ∧ b < w1.heap.size) a l := h1.kept fun b hx => by
   have hne : some b ≠ v.ownBlock := by
    rcases hx.1 with hy | hy
    ·exact h.ne (hY b hy)
    ·intro e; have := (hlt b e.symm).2; omega
   rw [hg.block b (by simp; omega) hne, Below.heap_alloc _ _ _ hx.2]
  refine h2.mono fun b hx _ => ?_
  rcases hx.1 with hy | hy
  ·exact Or.inl hy
  ·refine Or.inr ⟨by omega, fun e => ?_⟩
   simp [Value.ownBlock] at e
   rcases hg1 with e' | e'
   ·have := (hlt g e').2; omega
   ·simp at e'; omega
 refine ⟨by rw [flat4_append]; simpa [flat4] using hown, fun y hy => ?_⟩
 rcases List.mem_append.1 hy with hy | hy
 ·exact ⟨old _ _ (h.row y hy).1, old _ _ (h.row y hy).2⟩
 ·have e : y = x := by simpa using hy
  subst e
  exact ⟨new _ _ ht.1, new _ _ ht.2⟩
theorem QRow.qv {w : World} {N : Nat} {Y : Nat → Prop} {v : Value} {cs : List Pc} (h : QRow w N Y v cs) : QV w (fun b => Y b ∨ N ≤ b) v (cs.map (·.1)) := by
 have hml : cs.length ≤ 9223372036854775807 := by
  rcases h.own.2 with ⟨_, h0⟩ | ⟨g, cap, cur, _, _, _, h1, h2, _⟩
  ·omega
  ·unfold maxLen at h2; omega
 by_cases h0 : 0 < cs.length
 ·obtain ⟨g, cap, rfl, hg, hlt, hc⟩ := owned_val h.own h0
  have hcap : cs.length ≤ cap := by
   rcases h.own.2 with ⟨e, _⟩ | ⟨g', cap', cur, e, _, _, h1, _⟩
   ·cases e
   ·simp at e; omega
  refine ⟨_, cap, by simp, ⟨by simpa using hml, by simpa using hcap⟩, Or.inr ⟨g, 0, rfl, Or.inr hg, fun i hi => ?_⟩⟩
  have hi' : i < cs.length := by simpa using hi
  have g0 := hc (i * 4 + 0) (.string cs[i].1.l.name) (by rw [flat4_get cs i hi' 0 (by decide)]; rfl)
  have g1 := hc (i * 4 + 1) (.slice cs[i].2.1.1 cs[i].1.l.args.length cs[i].2.1.2) (by rw [flat4_get cs i hi' 1 (by decide)]; rfl)
  have g2 := hc (i * 4 + 2) (.string cs[i].1.r.name) (by rw [flat4_get cs i hi' 2 (by decide)]; rfl)
  have g3 := hc (i * 4 + 3) (.slice cs[i].2.2.1 cs[i].1.r.args.length cs[i].2.2.2) (by rw [flat4_get cs i hi' 3 (by decide)]; rfl)
  simp only [List.getElem_map, Nat.zero_add]
  obtain ⟨r1, r2⟩ := h.row cs[i] (List.getElem_mem hi')
  exact ⟨_, _, _, _, g0, g1, g2, g3, r1.mono fun b hb _ => hb.imp id (fun h => h.1), r2.mono fun b hb _ => hb.imp id (fun h => h.1)⟩
 ·have e : cs = [] := List.length_eq_zero_iff.1 (by omega)
  subst e
  rcases h.own.2 with ⟨hv, _⟩ | ⟨g, cap, cur, hv, _⟩
  ·exact ⟨none, 0, hv, by simp, Or.inl rfl⟩
  ·exact ⟨_, _, hv, by simp, Or.inl rfl⟩
theorem Tryz.infoPair : (Tryz.prog.info? 34).map (fun i => (i.zero, i.size, i.bytes)) = some (some (.agg #[.string ByteArray.empty, .slice none 0 0, .string ByteArray.empty, .slice none 0 0]), 4, 80) := by kernel_rfl
theorem cell_four_new (w : World) (c0 c1 c2 c3 : Value) (T : Nat) : ∀ j u, [c0, c1, c2, c3][j]? = some u → (w.alloc (.cells #[c0, c1, c2, c3] T)).cell? ((⟨w.heap.size, 0, none⟩ : Addr).add j) = some u :=
 World.news_of_block (cs := #[c0, c1, c2, c3]) (heap_alloc_new w _)
theorem pairs_append {w w1 : World} {N : Nat} {Y : Nat → Prop} {v : Value} {cs : List Pc} (h : QRow w N Y v cs) (hN : N ≤ w.heap.size) (hY : ∀ b, Y b → b < N) (hb : Below w.heap.size w w1) (x : Pc) (ht : Sl w1 (fun b => Y b ∨ w.heap.size ≤ b) x.2.1.1 x.1.l.args ∧ Sl w1 (fun b => Y b ∨ w.heap.size ≤ b) x.2.2.1 x.1.r.args) (hn : cs.length ≤ 1000000) (A : Nat) (hA : w1.heap.size = A) :
  ∃ v2 w3, (Builtin.append_ #[22, 22] 22 #[v, .slice (some ⟨A, 0, none⟩) 1 1]).run Tryz.prog (w1.alloc (.cells #[.string x.1.l.name, .slice x.2.1.1 x.1.l.args.length x.2.1.2, .string x.1.r.name, .slice x.2.2.1 x.1.r.args.length x.2.2.2] 34)) = .ok v2 w3 ∧ QRow w3 N Y v2 (cs ++ [x]) ∧
   (w1.alloc (.cells #[.string x.1.l.name, .slice x.2.1.1 x.1.l.args.length x.2.1.2, .string x.1.r.name, .slice x.2.2.1 x.1.r.args.length x.2.2.2] 34)).grownBy w3 v.ownBlock ∧ ∀ k, v2.ownBlock = some k → v.ownBlock = some k ∨ w1.heap.size ≤ k := by
 subst hA
 obtain ⟨i0, hi, hz0, hz1, hz2⟩ := info_parts Tryz.infoPair
 have hbs := hb.size
 obtain ⟨g, cap, w3, hr, ho, hg, hat, hlt⟩ := run_append_lies (P := Tryz.prog) (w := w1.alloc (.cells #[.string x.1.l.name, .slice x.2.1.1 x.1.l.args.length x.2.1.2, .string x.1.r.name, .slice x.2.2.1 x.1.r.args.length x.2.2.2] 34)) 22 22 N 34 i0 _ 4 80 Tryz.underlying22 hi hz0 hz1 hz2 rfl (by decide) v cs.length (flat4 cs) ((h.below hb).own.alloc _)
  ⟨w1.heap.size, 0, none⟩ 1 1 (enc4 x) rfl (cell_four_new _ _ _ _ _ _) (fun y hy => by simp [enc4] at hy; rcases hy with rfl | rfl | rfl | rfl <;> rfl) (by decide) (by unfold maxLen; omega) (by omega) (by simp; omega) _ rfl
 refine ⟨_, w3, hr, h.push hN hY hb ht _ rfl ho hg hat, hg, fun k hk => ?_⟩
 have e : g = k := by simpa [Value.ownBlock] using hk
 rcases hat with h1 | h1
 ·exact Or.inl (by rw [h1, e])
 ·right; simp at h1; omega
theorem pairs_cells {w : World} {X : Nat → Prop} : ∀ (l : List Pr) (b o : Nat), (∀ i (h : i < l.length), ∃ a1 c1 a2 c2, w.cell? ⟨b, o + i * 4, none⟩ = some (.string l[i].l.name) ∧ w.cell? ⟨b, o + i * 4 + 1, none⟩ = some (.slice a1 l[i].l.args.length c1) ∧ w.cell? ⟨b, o + i * 4 + 2, none⟩ = some (.string l[i].r.name) ∧ w.cell? ⟨b, o + i * 4 + 3, none⟩ = some (.slice a2 l[i].r.args.length c2) ∧ Sl w X a1 l[i].l.args ∧ Sl w X a2 l[i].r.args) →
  ∃ cs : List Pc, cs.map (·.1) = l ∧ (∀ j u, (flat4 cs)[j]? = some u → w.cell? ⟨b, o + j, none⟩ = some u) ∧ ∀ x ∈ cs, Sl w X x.2.1.1 x.1.l.args ∧ Sl w X x.2.2.1 x.1.r.args
 | [], b, o, _ => ⟨[], rfl, fun j u h => by simp [flat4] at h, fun x h => by cases h⟩
 | p :: r, b, o, h => by
  obtain ⟨a1, c1, a2, c2, h1, h2, h3, h4, h5, h6⟩ := h 0 (by simp)
  obtain ⟨cs, e1, e2, e3⟩ := pairs_cells r b (o + 4) fun i hi => by
   have h7 := h (i + 1) (by simpa using hi)
   simp only [List.getElem_cons_succ] at h7
   rw [show o + (i + 1) * 4 = o + 4 + i * 4 by omega] at h7
   exact h7
  simp only [List.getElem_cons_zero, Nat.zero_mul, Nat.add_zero] at h1 h2 h3 h4 h5 h6
  refine ⟨(p, (a1, c1), (a2, c2)) :: cs, by simp [e1], fun j u hj => ?_, fun x hx => ?_⟩
  ·rw [flat4] at hj
   match j, hj with
   | 0, hj => simp [enc4] at hj; subst hj; exact h1
   | 1, hj => simp [enc4] at hj; subst hj; exact h2
   | 2, hj => simp [enc4] at hj; subst hj; exact h3
   | 3, hj => simp [enc4] at hj; subst hj; exact h4
   | j + 4, hj =>
    rw [List.getElem?_append_right (by simp [enc4])] at hj
    have := e2 j u (by simpa [enc4] using hj)
    rwa [show o + (j + 4) = o + 4 + j by omega]
  ·rcases List.mem_cons.1 hx with rfl | hx
   ·exact ⟨h5, h6⟩
   ·exact e3 x hx
theorem enc4_one (x : Pc) : ∀ u ∈ enc4 x, u.oneCell' = true := fun y hy => by
 simp [enc4] at hy
 rcases hy with rfl | rfl | rfl | rfl <;> rfl
theorem flat4_one : ∀ cs : List Pc, ∀ u ∈ flat4 cs, u.oneCell' = true
 | [], u, h => by cases h
 | x :: r, u, h => by
  rw [flat4] at h
  rcases List.mem_append.1 h with h | h
  ·exact enc4_one x u h
  ·exact flat4_one r u h
theorem QV.tail {w : World} {X : Nat → Prop} {b o n pc : Nat} {p : Pr} {l : List Pr} (h : QV w X (.slice (some ⟨b, o, none⟩) n pc) (p :: l)) : QV w X (.slice (if pc = 1 then some ⟨b, o, none⟩ else some ⟨b, o + 4, none⟩) l.length (pc - 1)) l := by
 obtain ⟨a', c', e, ⟨hl1, hl2⟩, hq⟩ := h
 simp at e
 obtain ⟨rfl, rfl, rfl⟩ := e
 simp only [List.length_cons] at hl1 hl2
 refine ⟨_, _, rfl, ⟨by omega, by omega⟩, ?_⟩
 by_cases h0 : l = []
 ·exact Or.inl h0
 ·have hp : 0 < l.length := List.length_pos_iff.2 h0
  rcases hq with hq | ⟨b', o', e, hX, hq⟩
  ·cases hq
  ·simp at e
   obtain ⟨rfl, rfl⟩ := e
   refine Or.inr ⟨b, o + 4, by rw [if_neg (by omega)], hX, fun i hi => ?_⟩
   have h7 := hq (i + 1) (by simpa using hi)
   simp only [List.getElem_cons_succ] at h7
   rw [show o + (i + 1) * 4 = o + 4 + i * 4 by omega] at h7
   exact h7
def LV {α : Type} (f : α → Value) (w : World) (X : Nat → Prop) (v : Value) (l : List α) : Prop :=
 ∃ a c, v = .slice a l.length c ∧ (l.length ≤ 9223372036854775807 ∧ l.length ≤ c) ∧ (l = [] ∨ ∃ b o, a = some ⟨b, o, none⟩ ∧ X b ∧ ∀ i (h : i < l.length), w.cell? ⟨b, o + i, none⟩ = some (f l[i]))
theorem LV.kept {α : Type} {f : α → Value} {w w' : World} {X : Nat → Prop} {v : Value} {l : List α} (h : LV f w X v l) (hk : ∀ b, X b → w'.heap[b]? = w.heap[b]?) : LV f w' X v l := by
 obtain ⟨a, c, e, hl, h⟩ := h
 refine ⟨a, c, e, hl, ?_⟩
 rcases h with h | ⟨b, o, e, hx, h⟩
 ·exact Or.inl h
 ·exact Or.inr ⟨b, o, e, hx, fun i hi => by rw [World.cell?_of_block (hk b hx)]; exact h i hi⟩
theorem LV.mono {α : Type} {f : α → Value} {w : World} {X Y : Nat → Prop} {v : Value} {l : List α} (h : LV f w X v l) (hk : ∀ b, X b → b < w.heap.size → Y b) : LV f w Y v l := by
 obtain ⟨a, c, e, hl, h⟩ := h
 refine ⟨a, c, e, hl, ?_⟩
 rcases h with h | ⟨b, o, e, hx, h⟩
 ·exact Or.inl h
 ·by_cases h0 : l = []
  ·exact Or.inl h0
  ·have hp : 0 < l.length := List.length_pos_iff.2 h0
   exact Or.inr ⟨b, o, e, hk b hx (World.block_lt_of_cell? w _ (h 0 hp)), h⟩
theorem LV.below {α : Type} {f : α → Value} {w w' : World} {X : Nat → Prop} {v : Value} {l : List α} {B : Nat} (h : LV f w X v l) (hb : Below B w w') (hX : ∀ b, X b → b < w.heap.size → b < B) : LV f w' X v l := by
 have h1 : LV f w (fun b => X b ∧ b < B) v l := h.mono fun b hx hs => ⟨hx, hX b hx hs⟩
 have h2 : LV f w' (fun b => X b ∧ b < B) v l := h1.kept fun b hx => hb.block b hx.2
 exact h2.mono fun b hx _ => hx.1
theorem LV.later {α : Type} {f : α → Value} {w w' : World} {X : Nat → Prop} {v : Value} {l : List α} (h : LV f w X v l) (hb : Below w.heap.size w w') : LV f w' X v l := h.below hb (fun _ _ h => h)
theorem LV.alloc {α : Type} {f : α → Value} {w : World} {X : Nat → Prop} {v : Value} {l : List α} (h : LV f w X v l) (o : Obj) : LV f (w.alloc o) X v l := h.later ((Below.refl _ _).alloc (Nat.le_refl _) o)
theorem LV.of_own {α : Type} {f : α → Value} {w : World} {N T : Nat} {v : Value} {l : List α} (h : w.ownsRow N T 1 v l.length (l.map f)) : LV f w (fun b => N ≤ b) v l := by
 have h' := h
 obtain ⟨_, h1⟩ := h
 rcases h1 with ⟨rfl, h0⟩ | ⟨g, cap, cur, hv, hg, hh, hnc, hcm, _⟩
 ·have e : l = [] := List.length_eq_zero_iff.1 h0
  subst e
  exact ⟨none, 0, rfl, by simp, Or.inl rfl⟩
 ·unfold maxLen at hcm
  refine ⟨some ⟨g, 0, none⟩, cap, hv, ⟨by omega, hnc⟩, ?_⟩
  by_cases h0 : l = []
  ·exact Or.inl h0
  ·have hp : 0 < l.length := List.length_pos_iff.2 h0
   obtain ⟨g2, cap2, hv2, _, _, hc⟩ := owned_val h' hp
   rw [hv] at hv2
   simp at hv2
   obtain ⟨rfl, rfl⟩ := hv2
   exact Or.inr ⟨g, 0, rfl, hg, fun i hi => by rw [Nat.zero_add]; exact hc i _ (by simp [hi])⟩
def inB (x : ByteArray) (l : List ByteArray) : Bool := l.any fun y => y.toList == x.toList
theorem inB_take {x : ByteArray} {l : List ByteArray} {k : Nat} (h : k < l.length) (h0 : inB x (l.take k) = false) (h1 : (l[k].toList == x.toList) = false) : inB x (l.take (k + 1)) = false := by
 unfold inB at *
 rw [List.take_succ_eq_append_getElem h, List.any_append, h0]
 simpa using h1
theorem inB_yes {x : ByteArray} {l : List ByteArray} {k : Nat} (h : k < l.length) (h1 : (l[k].toList == x.toList) = true) : inB x l = true := by
 unfold inB
 rw [List.any_eq_true]
 exact ⟨l[k], List.getElem_mem h, h1⟩
theorem Tryz.infoStr : (Tryz.prog.info? 9).map (fun i => (i.zero, i.size, i.bytes)) = some (some (.string ByteArray.empty), 1, 16) := by kernel_rfl
theorem beq_comm' (a b : ByteArray) : (a.toList == b.toList) = (b.toList == a.toList) := by
 rw [Bool.eq_iff_iff]; simp; exact eq_comm
set_option maxHeartbeats 400000 in
theorem index_any (x : ByteArray) (l : List ByteArray) (v : Value) (w : World) (X : Nat → Prop) (hv : LV Value.string w X v l) :
  Calls Tryz.prog 108 #[v, .string x] w fun e w' => (∃ n : Int, e = .returned (.int .i64 n) ∧ decide (0 ≤ n) = inB x l) ∧ w' = w := by
 obtain ⟨a, c, rfl, ⟨hl, _⟩, h1⟩ := hv
 go_enter Tryz.func108, Tryz.ntmps108
 go_wp2_with fail
 go_loop [8] (fun i => ∃ k : Nat, k ≤ l.length ∧ i = .int .i64 k ∧ inB x (l.take k) = false) (fun i => l.length - (intOf i).toNat)
 case atStart => exact ⟨0, Nat.zero_le _, rfl, by simp [inB]⟩
 case round =>
  obtain ⟨k, hk, rfl, ha⟩ := hrel
  have HA := hide ha
  clear ha
  by_cases hlt : k < l.length
  ·obtain ⟨b, o, rfl, _, hc⟩ := h1.resolve_left (fun h => by rw [h] at hlt; simp at hlt)
   have d1 := hc k hlt
   clear hc h1
   cases hq : (x.toList == l[k].toList) with
   | true =>
    have HQ := hide (inB_yes hlt (by rw [beq_comm']; exact hq))
    go_wp2_with fail
    go_ret
    exact ⟨⟨k, rfl, by rw [HQ.out]; simp⟩, rfl⟩
   | false =>
    have HQ := hide (inB_take hlt HA.out (by rw [beq_comm']; exact hq))
    go_wp2_with fail
    go_round
    case rel => exact ⟨k + 1, by omega, by go_num, HQ.out⟩
    case measure => simp [intOf]; omega
  ·have htk : l.take k = l := List.take_of_length_le (by omega)
   have HF : Hid (false = inB x l) := by unfold Hid; rw [← HA.out, htk]
   go_wp2_with fail
   go_ret
   exact ⟨⟨-1, rfl, by rw [← HF.out]; decide⟩, rfl⟩
set_option maxHeartbeats 400000 in
theorem contains_any (x : ByteArray) (l : List ByteArray) (v : Value) (w : World) (X : Nat → Prop) (hv : LV Value.string w X v l) :
  Calls Tryz.prog 87 #[v, .string x] w fun e w' => e = .returned (.bool (inB x l)) ∧ w' = w := by
 have HV := hide hv
 clear hv
 go_enter Tryz.func87, Tryz.ntmps87
 go_wp2_with fail
 refine (index_any x l _ _ X HV.out).mono ?_
 rintro e w1 ⟨⟨n, rfl, hn⟩, rfl⟩
 have HN := hide hn
 clear hn
 go_wp2_with fail
 go_ret
 exact ⟨ret_bool HN.out, rfl⟩
def addV (acc : List ByteArray) (s : ByteArray) : List ByteArray := if (varB s && !inB s acc) = true then acc ++ [s] else acc
def varsP (acc : List ByteArray) (ks : List Tm) : List ByteArray := ks.foldl (fun acc k => addV acc k.name) acc
theorem addV_yes {acc : List ByteArray} {s : ByteArray} (h : varB s = true) (h2 : inB s acc = false) : addV acc s = acc ++ [s] := by simp [addV, h, h2]
theorem addV_in {acc : List ByteArray} {s : ByteArray} (h : varB s = true) (h2 : inB s acc = true) : addV acc s = acc := by simp [addV, h, h2]
theorem addV_no {acc : List ByteArray} {s : ByteArray} (h : varB s = false) : addV acc s = acc := by simp [addV, h]
theorem addV_len (acc : List ByteArray) (s : ByteArray) : (addV acc s).length ≤ acc.length + 1 := by
 unfold addV; split <;> simp
theorem varsP_append (acc : List ByteArray) (a b : List Tm) : varsP acc (a ++ b) = varsP (varsP acc a) b := by simp [varsP, List.foldl_append]
theorem varsP_len (ks : List Tm) : ∀ acc, (varsP acc ks).length ≤ acc.length + ks.length := by
 induction ks with
 | nil => intro acc; simp [varsP]
 | cons k r ih => intro acc; have := ih (addV acc k.name); have h2 := addV_len acc k.name; simp only [varsP, List.foldl_cons, List.length_cons] at *; omega
theorem grown_trans {w w1 w2 : World} {r r1 : Option Nat} (h : w.grownBy w1 r) (h1 : w1.grownBy w2 r1) (hr : ∀ k, r1 = some k → r = some k ∨ w.heap.size ≤ k) : w.grownBy w2 r :=
 ⟨h1.os.trans h.os, h1.tape.trans h.tape, h1.output.trans h.output, Nat.le_trans h.size h1.size, fun k hk hne => (h1.block k (Nat.lt_of_lt_of_le hk h.size) (fun e => by
  rcases hr k e.symm with h2 | h2
  ·exact hne h2.symm
  ·omega)).trans (h.block k hk hne)⟩
theorem grown_of_below {w w' : World} (hb : Below w.heap.size w w') (r : Option Nat) : w.grownBy w' r := ⟨hb.os, hb.tape, hb.output, hb.size, fun k hk _ => hb.block k hk⟩
theorem TV.grown {w w' : World} {X : Nat → Prop} {v : Value} {t : Tm} {r : Option Nat} (h : TV w X v t) (hg : w.grownBy w' r) (hX : ∀ b, X b → some b ≠ r) : TV w' X v t := by
 have h1 : TV w (fun b => X b ∧ b < w.heap.size) v t := h.mono fun b h1 h2 => ⟨h1, h2⟩
 have h2 : TV w' (fun b => X b ∧ b < w.heap.size) v t := h1.kept fun b hx => hg.block b hx.2 (hX b hx.1)
 exact h2.mono fun b hx _ => hx.1
def NamesAt (w0 : World) (B : Nat) (q0 : Value) (acc : List ByteArray) (q : Value) (wr : World) : Prop :=
 wr.ownsRow B 9 1 q acc.length (acc.map Value.string) ∧ w0.grownBy wr q0.ownBlock ∧ (∀ k, q.ownBlock = some k → q0.ownBlock = some k ∨ w0.heap.size ≤ k)
theorem NamesAt.step {w0 w1 w2 : World} {B : Nat} {q0 q1 q2 : Value} {acc1 acc2 : List ByteArray} (h1 : NamesAt w0 B q0 acc1 q1 w1) (h2 : NamesAt w1 B q1 acc2 q2 w2) : NamesAt w0 B q0 acc2 q2 w2 := by
 refine ⟨h2.1, grown_trans h1.2.1 h2.2.1 h1.2.2, fun k hk => ?_⟩
 rcases h2.2.2 k hk with h | h
 ·exact h1.2.2 k h
 ·exact Or.inr (Nat.le_trans h1.2.1.size h)
theorem NamesAt.below {w0 w1 w2 : World} {B : Nat} {q0 q1 : Value} {acc1 : List ByteArray} (h1 : NamesAt w0 B q0 acc1 q1 w1) (hb : Below w1.heap.size w1 w2) : NamesAt w0 B q0 acc1 q1 w2 :=
 ⟨h1.1.kept (w' := w2) (row := none) ⟨hb.os, hb.tape, hb.output, hb.size, fun j hj _ => hb.block j hj⟩ (by rcases Option.eq_none_or_eq_some (Value.ownBlock q1) with h | ⟨x, h⟩; exact Or.inl h; exact Or.inr (by rw [h]; simp)),
  grown_trans h1.2.1 (grown_of_below hb q1.ownBlock) h1.2.2, h1.2.2⟩
def BFr (w w' : World) (b : Nat) (v v' : Value) : Prop :=
 w'.os = w.os ∧ w'.tape = w.tape ∧ w'.output = w.output ∧ w.heap.size ≤ w'.heap.size ∧ (∀ k, k < w.heap.size → k ≠ b → some k ≠ v.ownBlock → w'.heap[k]? = w.heap[k]?) ∧ (∀ k, v'.ownBlock = some k → v.ownBlock = some k ∨ w.heap.size ≤ k)
theorem BFr.refl (w : World) (b : Nat) (v : Value) : BFr w w b v v := ⟨rfl, rfl, rfl, Nat.le_refl _, fun _ _ _ _ => rfl, fun _ h => Or.inl h⟩
theorem BFr.trans {w w1 w2 : World} {b : Nat} {v v1 v2 : Value} (h : BFr w w1 b v v1) (h1 : BFr w1 w2 b v1 v2) : BFr w w2 b v v2 := by
 obtain ⟨a1, a2, a3, a4, a5, a6⟩ := h
 obtain ⟨c1, c2, c3, c4, c5, c6⟩ := h1
 refine ⟨c1.trans a1, c2.trans a2, c3.trans a3, Nat.le_trans a4 c4, fun k hk hb hv => ?_, fun k hk => ?_⟩
 ·refine (c5 k (Nat.lt_of_lt_of_le hk a4) hb (fun e => ?_)).trans (a5 k hk hb hv)
  rcases a6 k e.symm with h | h
  ·exact hv h.symm
  ·omega
 ·rcases c6 k hk with h | h
  ·exact a6 k h
  ·exact Or.inr (Nat.le_trans a4 h)
theorem BFr.of_below {w w' : World} (hb : Below w.heap.size w w') (b : Nat) (v : Value) : BFr w w' b v v := ⟨hb.os, hb.tape, hb.output, hb.size, fun k hk _ _ => hb.block k hk, fun _ h => Or.inl h⟩
structure Lm where
 kind : Int
 idx : Int
 subs : List Lm
theorem Lm.ind {P : Lm → Prop} (h : ∀ k x l, (∀ y ∈ l, P y) → P ⟨k, x, l⟩) (t : Lm) : P t :=
 Lm.rec (motive_1 := P) (motive_2 := fun l => ∀ x ∈ l, P x) (fun k x l ih => h k x l ih) (fun x hx => by cases hx)
  (fun a l ha hl x hx => by
   rcases List.mem_cons.1 hx with e | e
   ·subst e; exact ha
   ·exact hl x e) t
theorem Lm.indL {P : List Lm → Prop} (h0 : P []) (h : ∀ k x l r, P l → P r → P (⟨k, x, l⟩ :: r)) (l : List Lm) : P l :=
 Lm.rec_1 (motive_1 := fun t => P t.subs) (motive_2 := P) (fun _ _ _ ih => ih) h0 (fun a l ha hl => by obtain ⟨k, x, m⟩ := a; exact h k x m l ha hl) l
def LiesM (w : World) (X : Nat → Prop) : Nat → Nat → List Lm → Prop
 | _, _, [] => True
 | b, o, ⟨k, x, l⟩ :: r => X b ∧ w.cell? ⟨b, o, none⟩ = some (.int .i64 k) ∧ w.cell? ⟨b, o + 1, none⟩ = some (.int .i64 x) ∧
   (∃ a c, w.cell? ⟨b, o + 2, none⟩ = some (.slice a l.length c) ∧ l.length ≤ 9223372036854775807 ∧ (l = [] ∨ ∃ b' o', a = some ⟨b', o', none⟩ ∧ LiesM w X b' o' l)) ∧ LiesM w X b (o + 3) r
def SlM (w : World) (X : Nat → Prop) (a : Option Addr) (l : List Lm) : Prop := l.length ≤ 9223372036854775807 ∧ (l = [] ∨ ∃ b o, a = some ⟨b, o, none⟩ ∧ LiesM w X b o l)
def MV (w : World) (X : Nat → Prop) (v : Value) (t : Lm) : Prop := ∃ a c, v = .agg #[.int .i64 t.kind, .int .i64 t.idx, .slice a t.subs.length c] ∧ SlM w X a t.subs
theorem liesM_kept {w w' : World} {X : Nat → Prop} (h : ∀ b, X b → w'.heap[b]? = w.heap[b]?) (l : List Lm) : ∀ b o, LiesM w X b o l → LiesM w' X b o l := by
 induction l using Lm.indL with
 | h0 => intro b o _; simp [LiesM]
 | h k x l r ihl ihr =>
  intro b o hl
  simp only [LiesM] at hl ⊢
  obtain ⟨hx, h1, h1', ⟨a, c, h2, h2', h3⟩, h4⟩ := hl
  refine ⟨hx, by rw [World.cell?_of_block (h b hx)]; exact h1, by rw [World.cell?_of_block (h b hx)]; exact h1', ⟨a, c, by rw [World.cell?_of_block (h b hx)]; exact h2, h2', ?_⟩, ihr _ _ h4⟩
  rcases h3 with h3 | ⟨b', o', h3, h5⟩
  ·exact Or.inl h3
  ·exact Or.inr ⟨b', o', h3, ihl _ _ h5⟩
theorem liesM_mono {w : World} {X Y : Nat → Prop} (h : ∀ b, X b → b < w.heap.size → Y b) (l : List Lm) : ∀ b o, LiesM w X b o l → LiesM w Y b o l := by
 induction l using Lm.indL with
 | h0 => intro b o _; simp [LiesM]
 | h k x l r ihl ihr =>
  intro b o hl
  simp only [LiesM] at hl ⊢
  obtain ⟨hx, h1, h1', ⟨a, c, h2, h2', h3⟩, h4⟩ := hl
  have hb : b < w.heap.size := by
   apply Classical.byContradiction
   intro hn
   have e : w.heap[b]? = none := Array.getElem?_eq_none (by omega)
   simp [World.cell?, e] at h1
  refine ⟨h b hx hb, h1, h1', ⟨a, c, h2, h2', ?_⟩, ihr _ _ h4⟩
  rcases h3 with h3 | ⟨b', o', h3, h5⟩
  ·exact Or.inl h3
  ·exact Or.inr ⟨b', o', h3, ihl _ _ h5⟩
theorem SlM.kept {w w' : World} {X : Nat → Prop} {a : Option Addr} {l : List Lm} (h : SlM w X a l) (hk : ∀ b, X b → w'.heap[b]? = w.heap[b]?) : SlM w' X a l := by
 obtain ⟨hl, h⟩ := h
 refine ⟨hl, ?_⟩
 rcases h with h | ⟨b, o, e, h⟩
 ·exact Or.inl h
 ·exact Or.inr ⟨b, o, e, liesM_kept hk _ _ _ h⟩
theorem SlM.mono {w : World} {X Y : Nat → Prop} {a : Option Addr} {l : List Lm} (h : SlM w X a l) (hk : ∀ b, X b → b < w.heap.size → Y b) : SlM w Y a l := by
 obtain ⟨hl, h⟩ := h
 refine ⟨hl, ?_⟩
 rcases h with h | ⟨b, o, e, h⟩
 ·exact Or.inl h
 ·exact Or.inr ⟨b, o, e, liesM_mono hk _ _ _ h⟩
theorem SlM.below {w w' : World} {X : Nat → Prop} {a : Option Addr} {l : List Lm} {B : Nat} (h : SlM w X a l) (hb : Below B w w') (hX : ∀ b, X b → b < w.heap.size → b < B) : SlM w' X a l := by
 have h1 : SlM w (fun b => X b ∧ b < B) a l := h.mono fun b hx hs => ⟨hx, hX b hx hs⟩
 have h2 : SlM w' (fun b => X b ∧ b < B) a l := h1.kept fun b hx => hb.block b hx.2
 exact h2.mono fun b hx _ => hx.1
theorem MV.kept {w w' : World} {X : Nat → Prop} {v : Value} {t : Lm} (h : MV w X v t) (hk : ∀ b, X b → w'.heap[b]? = w.heap[b]?) : MV w' X v t := by
 obtain ⟨a, c, e, h⟩ := h
 exact ⟨a, c, e, h.kept hk⟩
theorem MV.mono {w : World} {X Y : Nat → Prop} {v : Value} {t : Lm} (h : MV w X v t) (hk : ∀ b, X b → b < w.heap.size → Y b) : MV w Y v t := by
 obtain ⟨a, c, e, h⟩ := h
 exact ⟨a, c, e, h.mono hk⟩
theorem MV.below {w w' : World} {X : Nat → Prop} {v : Value} {t : Lm} {B : Nat} (h : MV w X v t) (hb : Below B w w') (hX : ∀ b, X b → b < w.heap.size → b < B) : MV w' X v t := by
 obtain ⟨a, c, e, h⟩ := h
 exact ⟨a, c, e, h.below hb hX⟩
theorem MV.alloc {w : World} {X : Nat → Prop} {v : Value} {t : Lm} (h : MV w X v t) (o : Obj) : MV (w.alloc o) X v t :=
 h.below ((Below.refl _ _).alloc (Nat.le_refl _) o) (fun _ _ h => h)
theorem MV.later {w w' : World} {X : Nat → Prop} {v : Value} {t : Lm} (h : MV w X v t) (hb : Below w.heap.size w w') : MV w' X v t := h.below hb (fun _ _ h => h)
theorem SlM.later {w w' : World} {X : Nat → Prop} {a : Option Addr} {l : List Lm} (h : SlM w X a l) (hb : Below w.heap.size w w') : SlM w' X a l := h.below hb (fun _ _ h => h)
theorem liesM_get {w : World} {X : Nat → Prop} : ∀ (l : List Lm) (b o : Nat), LiesM w X b o l → ∀ i (h : i < l.length),
  X b ∧ w.cell? ⟨b, o + i * 3, none⟩ = some (.int .i64 l[i].kind) ∧ w.cell? ⟨b, o + i * 3 + 1, none⟩ = some (.int .i64 l[i].idx) ∧ ∃ a c, w.cell? ⟨b, o + i * 3 + 2, none⟩ = some (.slice a l[i].subs.length c) ∧ SlM w X a l[i].subs := by
 intro l
 induction l with
 | nil => intro b o _ i h; simp at h
 | cons t r ih =>
  intro b o hl i h
  obtain ⟨s, x, k⟩ := t
  simp only [LiesM] at hl
  obtain ⟨hx, h1, h1', ⟨a, c, h2, h3⟩, h4⟩ := hl
  cases i with
  | zero => exact ⟨hx, h1, h1', a, c, h2, h3⟩
  | succ i =>
   have := ih b (o + 3) h4 i (by simpa using h)
   simp only [List.getElem_cons_succ]
   rw [show o + (i + 1) * 3 = o + 3 + i * 3 by omega]
   exact this
theorem SlM.get {w wr : World} {X : Nat → Prop} {a : Option Addr} {l : List Lm} {B : Nat} (h : SlM w X a l) (hb : Below B w wr) (hX : ∀ b, X b → b < w.heap.size → b < B) (k : Nat) (hk : k < l.length) :
  ∃ b o a' c', a = some ⟨b, o, none⟩ ∧ wr.cell? ⟨b, o + k * 3, none⟩ = some (.int .i64 l[k].kind) ∧ wr.cell? ⟨b, o + k * 3 + 1, none⟩ = some (.int .i64 l[k].idx) ∧ wr.cell? ⟨b, o + k * 3 + 2, none⟩ = some (.slice a' l[k].subs.length c') ∧ MV wr X (.agg #[.int .i64 l[k].kind, .int .i64 l[k].idx, .slice a' l[k].subs.length c']) l[k] := by
 have h' := h.below hb hX
 obtain ⟨_, h1⟩ := h'
 rcases h1 with h1 | ⟨b, o, e, h1⟩
 ·subst h1; simp at hk
 ·obtain ⟨_, h2, h2', a', c', h3, h4⟩ := liesM_get _ _ _ h1 k hk
  exact ⟨b, o, a', c', e, h2, h2', h3, a', c', rfl, h4⟩
theorem dec_len (n : Nat) : (Lib.decDigits n).length ≤ n + 1 := by
 induction n using Nat.strongRecOn with
 | ind n ih =>
  rw [Lib.decDigits]
  by_cases h : n < 10
  ·rw [dif_pos h]; simp
  ·rw [dif_neg h]
   have := ih (n / 10) (by omega)
   simp only [List.length_append, List.length_cons, List.length_nil]
   omega
def RowTM (w : World) (X : Nat → Prop) : List Lm → List Value → Prop
 | [], xs => xs = []
 | t :: l, xs => ∃ a c r, xs = .int .i64 t.kind :: .int .i64 t.idx :: .slice a t.subs.length c :: r ∧ SlM w X a t.subs ∧ RowTM w X l r
theorem RowTM.len {w : World} {X : Nat → Prop} : ∀ {l : List Lm} {xs : List Value}, RowTM w X l xs → xs.length = l.length * 3
 | [], xs, h => by simp [RowTM] at h; simp [h]
 | t :: l, xs, h => by
  obtain ⟨a, c, r, rfl, _, h⟩ := h
  simp only [List.length_cons]
  rw [RowTM.len h]; omega
theorem RowTM.append {w : World} {X : Nat → Prop} : ∀ {l k : List Lm} {xs ys : List Value}, RowTM w X l xs → RowTM w X k ys → RowTM w X (l ++ k) (xs ++ ys)
 | [], k, xs, ys, h, h' => by simp [RowTM] at h; subst h; simpa using h'
 | t :: l, k, xs, ys, h, h' => by
  obtain ⟨a, c, r, rfl, hs, h⟩ := h
  exact ⟨a, c, r ++ ys, rfl, hs, RowTM.append h h'⟩
theorem RowTM.imp {w w' : World} {X Y : Nat → Prop} (hs : ∀ a l, SlM w X a l → SlM w' Y a l) : ∀ {l : List Lm} {xs : List Value}, RowTM w X l xs → RowTM w' Y l xs
 | [], xs, h => h
 | t :: l, xs, h => by
  obtain ⟨a, c, r, e, h1, h⟩ := h
  exact ⟨a, c, r, e, hs _ _ h1, RowTM.imp hs h⟩
theorem liesM_of_row {w w' : World} {X Y : Nat → Prop} (b : Nat) (hb : Y b) : ∀ (l : List Lm) (xs : List Value) (o : Nat), RowTM w X l xs → (∀ a k, SlM w X a k → SlM w' Y a k) → (∀ j u, xs[j]? = some u → w'.cell? ⟨b, o + j, none⟩ = some u) → LiesM w' Y b o l := by
 intro l
 induction l with
 | nil => intro xs o _ _ _; simp [LiesM]
 | cons t r ih =>
  intro xs o h hs hc
  obtain ⟨s, x, k⟩ := t
  obtain ⟨a, c, r', rfl, h1, h2⟩ := h
  simp only [LiesM]
  obtain ⟨h3, h4⟩ := hs _ _ h1
  refine ⟨hb, hc 0 _ rfl, hc 1 _ rfl, ⟨a, c, hc 2 _ rfl, h3, h4⟩, ih r' (o + 3) h2 hs fun j u hj => ?_⟩
  have := hc (j + 3) u (by simpa using hj)
  rwa [show o + (j + 3) = o + 3 + j by omega] at this
structure RowM (w : World) (N : Nat) (T : Nat) (Y : Nat → Prop) (v : Value) (l : List Lm) (xs : List Value) : Prop where
 own : w.ownsRow N T 3 v l.length xs
 row : RowTM w (fun b => Y b ∨ (N ≤ b ∧ some b ≠ v.ownBlock)) l xs
theorem RowM.start (w : World) (N T : Nat) (Y : Nat → Prop) : RowM w N T Y (.slice none 0 0) [] [] := ⟨World.ownsRow_nil w N T 3, rfl⟩
theorem RowM.below {w w' : World} {N T : Nat} {Y : Nat → Prop} {v : Value} {l : List Lm} {xs : List Value} (h : RowM w N T Y v l xs) (hb : Below w.heap.size w w') : RowM w' N T Y v l xs :=
 ⟨h.own.kept (w' := w') (row := none) ⟨hb.os, hb.tape, hb.output, hb.size, fun j hj _ => hb.block j hj⟩ (by rcases Option.eq_none_or_eq_some (Value.ownBlock v) with h | ⟨x, h⟩; exact Or.inl h; exact Or.inr (by rw [h]; simp)),
  h.row.imp fun a l h => h.later hb⟩
theorem RowM.ne {w : World} {N T : Nat} {Y : Nat → Prop} {v : Value} {l : List Lm} {xs : List Value} (h : RowM w N T Y v l xs) {b : Nat} (hb : b < N) : some b ≠ v.ownBlock := fun e => by
 have := (h.own.lt b e.symm).1; omega
theorem RowM.push {w w1 w2 w3 : World} {N T : Nat} {Y : Nat → Prop} {v : Value} {l : List Lm} {xs : List Value} (h : RowM w N T Y v l xs) (hN : N ≤ w.heap.size) (hY : ∀ b, Y b → b < N) (hb : Below w.heap.size w w1) {s s2 : Int} {a : Option Addr} {n c : Nat} {t : Lm}
  (ht : MV w1 (fun b => Y b ∨ w.heap.size ≤ b) (.agg #[.int .i64 s, .int .i64 s2, .slice a n c]) t) (o : Obj) (hw2 : w2 = w1.alloc o) {g cap : Nat}
  (hown : w3.ownsRow N T 3 (.slice (some ⟨g, 0, none⟩) (l.length + 1) cap) (l.length + 1) (xs ++ [.int .i64 s, .int .i64 s2, .slice a n c])) (hg : w2.grownBy w3 v.ownBlock) (hg1 : v.ownBlock = some g ∨ g = w2.heap.size) :
  RowM w3 N T Y (.slice (some ⟨g, 0, none⟩) (l.length + 1) cap) (l ++ [t]) (xs ++ [.int .i64 s, .int .i64 s2, .slice a n c]) := by
 subst hw2
 have hlt := h.own.lt
 refine ⟨by simpa using hown, ?_⟩
 have hsz : w1.heap.size ≤ (w1.alloc o).heap.size := by simp
 have hbs := hb.size
 have hgN : N ≤ g := by
  rcases hg1 with e | e
  ·exact (hlt g e).1
  ·simp at e; omega
 refine RowTM.append (h.row.imp fun a' k' hs => ?_) ?_
 ·have h1 : SlM w (fun b => (Y b ∨ (N ≤ b ∧ some b ≠ v.ownBlock)) ∧ b < w.heap.size) a' k' := hs.mono fun b h1 h2 => ⟨h1, h2⟩
  have h2 : SlM w3 (fun b => (Y b ∨ (N ≤ b ∧ some b ≠ v.ownBlock)) ∧ b < w.heap.size) a' k' := h1.kept fun b hx => by
   have hne : some b ≠ v.ownBlock := by
    rcases hx.1 with hy | hy
    ·exact h.ne (hY b hy)
    ·exact hy.2
   rw [hg.block b (by simp; omega) hne, Below.heap_alloc _ _ _ (by omega), hb.block b hx.2]
  refine h2.mono fun b hx _ => ?_
  rcases hx.1 with hy | hy
  ·exact Or.inl hy
  ·refine Or.inr ⟨hy.1, fun e => ?_⟩
   simp [Value.ownBlock] at e
   rcases hg1 with e' | e'
   ·exact hy.2 (by rw [e', e])
   ·simp at e'; omega
 ·obtain ⟨a2, c2, e, hs⟩ := ht
  simp at e
  obtain ⟨rfl, rfl, rfl, rfl, rfl⟩ := e
  refine ⟨a, c, [], rfl, ?_, rfl⟩
  have h1 : SlM w1 (fun b => (Y b ∨ w.heap.size ≤ b) ∧ b < w1.heap.size) a t.subs := hs.mono fun b h1 h2 => ⟨h1, h2⟩
  have h2 : SlM w3 (fun b => (Y b ∨ w.heap.size ≤ b) ∧ b < w1.heap.size) a t.subs := h1.kept fun b hx => by
   have hne : some b ≠ v.ownBlock := by
    rcases hx.1 with hy | hy
    ·exact h.ne (hY b hy)
    ·intro e; have := (hlt b e.symm).2; omega
   rw [hg.block b (by simp; omega) hne, Below.heap_alloc _ _ _ hx.2]
  refine h2.mono fun b hx _ => ?_
  rcases hx.1 with hy | hy
  ·exact Or.inl hy
  ·refine Or.inr ⟨by omega, fun e => ?_⟩
   simp [Value.ownBlock] at e
   rcases hg1 with e' | e'
   ·have := (hlt g e').2; omega
   ·simp at e'; omega
theorem RowM.setCell {w : World} {N T : Nat} {Y : Nat → Prop} {v : Value} {l : List Lm} {xs : List Value} (h : RowM w N T Y v l xs) {b i : Nat} (hb : b < N) (hY : ¬ Y b) (u : Value) : RowM (w.setCell ⟨b, i, none⟩ u) N T Y v l xs :=
 ⟨ownsRow_setCell_below h.own (by simpa using hb) u, h.row.imp fun a k hs => hs.kept fun c hc => Below.heap_setCell _ _ _ _ (by
  simp
  rcases hc with hc | hc
  ·intro e; subst e; exact hY hc
  ·omega)⟩
theorem RowM.sl {w : World} {N T : Nat} {Y : Nat → Prop} {v : Value} {l : List Lm} {xs : List Value} (h : RowM w N T Y v l xs) : ∃ a c, v = .slice a l.length c ∧ SlM w (fun b => Y b ∨ N ≤ b) a l := by
 have hml : l.length ≤ 9223372036854775807 := by
  rcases h.own.2 with ⟨_, h0⟩ | ⟨g, cap, cur, _, _, _, h1, h2, _⟩
  ·omega
  ·unfold maxLen at h2; omega
 by_cases h0 : 0 < l.length
 ·obtain ⟨g, cap, rfl, hg, hlt, hc⟩ := owned_val h.own h0
  exact ⟨_, _, rfl, hml, Or.inr ⟨g, 0, rfl, liesM_of_row g (Or.inr hg) l xs 0 h.row (fun a k hs => hs.mono fun b hb _ => hb.imp id (fun h => h.1)) (fun j u hj => by simpa using hc j u hj)⟩⟩
 ·have e : l = [] := List.length_eq_zero_iff.1 (by omega)
  subst e
  rcases h.own.2 with ⟨hv, _⟩ | ⟨g, cap, cur, hv, _⟩
  ·exact ⟨none, 0, hv, hml, Or.inl rfl⟩
  ·exact ⟨_, _, hv, hml, Or.inl rfl⟩
structure Ex (B : Nat) (w w' : World) : Prop where
 os : w'.os = w.os
 tape : w'.tape = w.tape
 output : w'.output = w.output
 size : w.heap.size ≤ w'.heap.size
 block : ∀ k, k < w.heap.size → k ≠ B → w'.heap[k]? = w.heap[k]?
theorem Ex.refl (B : Nat) (w : World) : Ex B w w := ⟨rfl, rfl, rfl, Nat.le_refl _, fun _ _ _ => rfl⟩
theorem Ex.trans {B : Nat} {a b c : World} (h : Ex B a b) (k : Ex B b c) : Ex B a c :=
 ⟨k.os.trans h.os, k.tape.trans h.tape, k.output.trans h.output, Nat.le_trans h.size k.size, fun i hi hn => (k.block i (Nat.lt_of_lt_of_le hi h.size) hn).trans (h.block i hi hn)⟩
theorem Ex.drewN {B : Nat} {a w : World} (h : Ex B a w) (n : Nat) : Ex B a (w.drewN n) := ⟨h.os, h.tape, h.output, h.size, h.block⟩
theorem Ex.drew {B : Nat} {a w : World} (h : Ex B a w) : Ex B a w.drew := ⟨h.os, h.tape, h.output, h.size, h.block⟩
theorem Ex.set {B : Nat} {a w : World} (h : Ex B a w) (i : Nat) (v : Value) : Ex B a (w.setCell ⟨B, i, none⟩ v) :=
 ⟨h.os, h.tape, h.output, by simpa [World.setCell] using h.size, fun k hk hn => (Below.heap_setCell _ _ _ _ (by simpa using hn)).trans (h.block k hk hn)⟩
theorem Ex.alloc {B : Nat} {a w : World} (h : Ex B a w) (o : Obj) : Ex B a (w.alloc o) :=
 ⟨h.os, h.tape, h.output, by have := h.size; simp; omega, fun k hk hn => (Below.heap_alloc _ _ _ (Nat.lt_of_lt_of_le hk h.size)).trans (h.block k hk hn)⟩
theorem Blk.ex {w w' : World} {B b T : Nat} {cs : Array Value} (h : Blk w b cs T) (he : Ex B w w') (hne : b ≠ B) : Blk w' b cs T := by
 unfold Blk at *
 rw [he.block b (Blk.lt h) hne]; exact h
theorem Ex.mid {B : Nat} {w w1 : World} (h : Ex B w w1) : ∃ wm, Below wm.heap.size wm w1 ∧ wm.heap.size = w.heap.size ∧ Ex B w wm := by
 by_cases hB : B < w.heap.size
 ·have hB1 : B < w1.heap.size := Nat.lt_of_lt_of_le hB h.size
  refine ⟨{ w with heap := w.heap.setIfInBounds B w1.heap[B] }, ⟨h.os, h.tape, h.output, by simpa using h.size, fun k hk => ?_⟩, by simp, ⟨rfl, rfl, rfl, by simp, fun k hk hn => ?_⟩⟩
  ·simp at hk
   by_cases e : k = B
   ·subst e
    simp [Array.getElem?_setIfInBounds, hB, hB1]
   ·rw [h.block k hk e]
    simp [Array.getElem?_setIfInBounds, Ne.symm e]
  ·simp [Array.getElem?_setIfInBounds, Ne.symm hn]
 ·exact ⟨w, ⟨h.os, h.tape, h.output, h.size, fun k hk => h.block k hk (by omega)⟩, rfl, Ex.refl _ _⟩
theorem Row.ex {w w' : World} {B N T : Nat} {Y : Nat → Prop} {v : Value} {l : List Tm} {xs : List Value} (h : Row w N T Y v l xs) (he : Ex B w w') (hB : B < N) (hY : ¬ Y B) : Row w' N T Y v l xs :=
 ⟨h.own.kept (w' := w') (row := some B) ⟨he.os, he.tape, he.output, he.size, fun j hj hn => he.block j hj (fun e => hn (by rw [e]))⟩ (Or.inr (fun e => by have := (h.own.lt B e).1; omega)),
  h.row.imp fun a l hs => ((hs.mono (Y := fun b => (Y b ∨ (N ≤ b ∧ some b ≠ v.ownBlock)) ∧ b < w.heap.size) fun b h1 h2 => ⟨h1, h2⟩).kept fun b hb => he.block b hb.2 (fun e => by
   rcases hb.1 with h1 | h1
   ·rw [e] at h1; exact hY h1
   ·omega)).mono fun b hb _ => hb.1⟩
theorem Ex.grown {B : Nat} {a w w' : World} {row : Option Nat} (h : Ex B a w) (hg : w.grownBy w' row) (hr : ∀ k, row = some k → a.heap.size ≤ k) : Ex B a w' :=
 ⟨hg.os.trans h.os, hg.tape.trans h.tape, hg.output.trans h.output, Nat.le_trans h.size hg.size, fun k hk hn => (hg.block k (Nat.lt_of_lt_of_le hk h.size) (fun e => by have := hr k e.symm; omega)).trans (h.block k hk hn)⟩
theorem Ex.setNew {B : Nat} {a w : World} (h : Ex B a w) {b : Nat} (hb : a.heap.size ≤ b) (i : Nat) (v : Value) : Ex B a (w.setCell ⟨b, i, none⟩ v) :=
 ⟨h.os, h.tape, h.output, by simpa [World.setCell] using h.size, fun k hk hn => (Below.heap_setCell _ _ _ _ (by simp; omega)).trans (h.block k hk hn)⟩
def BndM : List Lm → Prop
 | [] => True
 | ⟨_, x, l⟩ :: r => (0 ≤ x ∧ x ≤ 100000) ∧ BndM l ∧ BndM r
theorem BndM_nil : BndM [] := by simp [BndM]
theorem BndM_cons (k x : Int) (l r : List Lm) : BndM (⟨k, x, l⟩ :: r) ↔ (0 ≤ x ∧ x ≤ 100000) ∧ BndM l ∧ BndM r := by simp [BndM]
theorem BndM.at : ∀ {l : List Lm} (k : Nat) (h : k < l.length), BndM l → BndM [l[k]]
 | [], k, h, _ => by simp at h
 | ⟨s, x, l⟩ :: r, 0, h, hb => by
  rw [BndM_cons] at hb
  exact (BndM_cons s x l []).2 ⟨hb.1, hb.2.1, BndM_nil⟩
 | ⟨s, x, l⟩ :: r, k + 1, h, hb => by
  rw [BndM_cons] at hb
  have := BndM.at (l := r) k (by simpa using h) hb.2.2
  simpa using this
theorem step_append_eqM {P : Program} {ops : Array Oper} {o : Oper} {a : Act} {K : Act → World → Prop} {Q : Exit → Act → World → Prop} {E : Prop} {w w' : World} {v u v' : Value} (hgd : o.guard = none) (s x : Operand) (t t' : TypeId)
  (ho : o.op = .call { callee := .builtin .append, args := #[s, x], argTypes := #[t, t'] }) (hs : a.eval s = v) (hx : a.eval x = u)
  (hr : (Builtin.append_ #[t, t'] o.type #[v, u]).run P w = .ok v' w') (h : K (a.put o.dst v') w') : if Region.wanted o (yielded ops a.tmps) = true then Oper.wp P o a w K Q else E := by
 have hw : Region.wanted o (yielded ops a.tmps) = true := by simp [Region.wanted, hgd]
 rw [if_pos hw]
 unfold Oper.wp execOp
 simp only [ho, resolve, invoke, builtin, Sem.run_bind, Sem.run_pure, Result.andThen_ok, List.map_toArray, List.map_cons, List.map_nil, hs, hx, hr]
 exact h
def Tb (B : Nat) (w : World) : Prop := Lib.TabBelow Tryz.prog B w "internal/strconv.uint64pow10" .u64 Lib.pow10Tab
theorem Tb.on {B : Nat} {w w1 : World} (h : Tb B w) (hb : Below B w w1) : Tb B w1 := Lib.TabBelow.on h hb
theorem itoa_any (n B : Nat) (hn : n ≤ 1000000) (w : World) (hT : Tb B w) : Calls Tryz.prog 43 #[.int .i64 n] w fun e w' => e = .returned (.string ⟨(Lib.decDigits n).toArray⟩) ∧ Below w.heap.size w w' := by
 refine (Tryz.strconv_Itoa n (by omega) (by omega) w hT.here).mono ?_
 rintro e w' ⟨rfl, k, os, rfl⟩
 refine ⟨?_, Lib.below_grow _ _ (Nat.le_refl _) _ _⟩
 have : Lib.itoa (n : Int) = Lib.decDigits n := by simp [Lib.itoa]
 rw [this]
structure ExQ (Q : Nat → Prop) (w w' : World) : Prop where
 os : w'.os = w.os
 tape : w'.tape = w.tape
 output : w'.output = w.output
 size : w.heap.size ≤ w'.heap.size
 block : ∀ k, k < w.heap.size → ¬ Q k → w'.heap[k]? = w.heap[k]?
theorem ExQ.refl (Q : Nat → Prop) (w : World) : ExQ Q w w := ⟨rfl, rfl, rfl, Nat.le_refl _, fun _ _ _ => rfl⟩
theorem ExQ.trans {Q : Nat → Prop} {a b c : World} (h : ExQ Q a b) (k : ExQ Q b c) : ExQ Q a c :=
 ⟨k.os.trans h.os, k.tape.trans h.tape, k.output.trans h.output, Nat.le_trans h.size k.size, fun i hi hn => (k.block i (Nat.lt_of_lt_of_le hi h.size) hn).trans (h.block i hi hn)⟩
theorem ExQ.transN {Q R : Nat → Prop} {a b c : World} (h : ExQ Q a b) (k : ExQ R b c) (hR : ∀ i, R i → i < a.heap.size → Q i) : ExQ Q a c :=
 ⟨k.os.trans h.os, k.tape.trans h.tape, k.output.trans h.output, Nat.le_trans h.size k.size, fun i hi hn => (k.block i (Nat.lt_of_lt_of_le hi h.size) (fun hr => hn (hR i hr hi))).trans (h.block i hi hn)⟩
theorem ExQ.mono {Q R : Nat → Prop} {a b : World} (h : ExQ Q a b) (hR : ∀ i, Q i → i < a.heap.size → R i) : ExQ R a b := ⟨h.os, h.tape, h.output, h.size, fun i hi hn => h.block i hi (fun hq => hn (hR i hq hi))⟩
theorem ExQ.drewN {Q : Nat → Prop} {a w : World} (h : ExQ Q a w) (n : Nat) : ExQ Q a (w.drewN n) := ⟨h.os, h.tape, h.output, h.size, h.block⟩
theorem ExQ.drew {Q : Nat → Prop} {a w : World} (h : ExQ Q a w) : ExQ Q a w.drew := ⟨h.os, h.tape, h.output, h.size, h.block⟩
theorem ExQ.set {Q : Nat → Prop} {a w : World} (h : ExQ Q a w) {B : Nat} (hB : Q B) (i : Nat) (v : Value) : ExQ Q a (w.setCell ⟨B, i, none⟩ v) :=
 ⟨h.os, h.tape, h.output, by simpa [World.setCell] using h.size, fun k hk hn => (Below.heap_setCell _ _ _ _ (by simp; intro e; subst e; exact hn hB)).trans (h.block k hk hn)⟩
theorem ExQ.alloc {Q : Nat → Prop} {a w : World} (h : ExQ Q a w) (o : Obj) : ExQ Q a (w.alloc o) :=
 ⟨h.os, h.tape, h.output, by have := h.size; simp; omega, fun k hk hn => (Below.heap_alloc _ _ _ (Nat.lt_of_lt_of_le hk h.size)).trans (h.block k hk hn)⟩
theorem ExQ.grown {Q : Nat → Prop} {a w w' : World} {row : Option Nat} (h : ExQ Q a w) (hg : w.grownBy w' row) (hr : ∀ k, row = some k → a.heap.size ≤ k ∨ Q k) : ExQ Q a w' :=
 ⟨hg.os.trans h.os, hg.tape.trans h.tape, hg.output.trans h.output, Nat.le_trans h.size hg.size, fun k hk hn => (hg.block k (Nat.lt_of_lt_of_le hk h.size) (fun e => by rcases hr k e.symm with h1 | h1; omega; exact hn h1)).trans (h.block k hk hn)⟩
theorem ExQ.setNew {Q : Nat → Prop} {a w : World} (h : ExQ Q a w) {b : Nat} (hb : a.heap.size ≤ b) (i : Nat) (v : Value) : ExQ Q a (w.setCell ⟨b, i, none⟩ v) :=
 ⟨h.os, h.tape, h.output, by simpa [World.setCell] using h.size, fun k hk hn => (Below.heap_setCell _ _ _ _ (by simp; omega)).trans (h.block k hk hn)⟩
theorem ExQ.ofBelow {Q : Nat → Prop} {w w' : World} (h : Below w.heap.size w w') : ExQ Q w w' := ⟨h.os, h.tape, h.output, h.size, fun k hk _ => h.block k hk⟩
theorem ExQ.ofEx {Q : Nat → Prop} {B : Nat} {w w' : World} (h : Ex B w w') (hB : Q B) : ExQ Q w w' := ⟨h.os, h.tape, h.output, h.size, fun k hk hn => h.block k hk (fun e => hn (by rw [e]; exact hB))⟩
theorem ExQ.below {Q : Nat → Prop} {w w' : World} {B : Nat} (h : ExQ Q w w') (hB : B ≤ w.heap.size) (hQ : ∀ b, Q b → B ≤ b) : Below B w w' :=
 ⟨h.os, h.tape, h.output, h.size, fun k hk => h.block k (by omega) (fun hq => by have := hQ k hq; omega)⟩
theorem Blk.exq {w w' : World} {Q : Nat → Prop} {b T : Nat} {cs : Array Value} (h : Blk w b cs T) (he : ExQ Q w w') (hne : ¬ Q b) : Blk w' b cs T := by
 unfold Blk at *
 rw [he.block b (Blk.lt h) hne]; exact h
theorem Sl.exq {w w' : World} {Q X : Nat → Prop} {a : Option Addr} {l : List Tm} (h : Sl w X a l) (he : ExQ Q w w') (hX : ∀ b, X b → ¬ Q b) : Sl w' X a l :=
 ((h.mono (Y := fun b => X b ∧ b < w.heap.size) fun b h1 h2 => ⟨h1, h2⟩).kept fun b hb => he.block b hb.2 (hX b hb.1)).mono fun b hb _ => hb.1
theorem ExQ.mid {Q : Nat → Prop} {w w1 : World} (h : ExQ Q w w1) : ∃ wm, Below wm.heap.size wm w1 ∧ wm.heap.size = w.heap.size ∧ ExQ Q w wm := by
 have hs := h.size
 have hz : (w1.heap.extract 0 w.heap.size).size = w.heap.size := by simp; omega
 refine ⟨{ w1 with heap := w1.heap.extract 0 w.heap.size }, ⟨rfl, rfl, rfl, by simp; omega, fun k hk => ?_⟩, hz, ⟨h.os, h.tape, h.output, by simp [hz], fun k hk hn => ?_⟩⟩
 ·have hk2 : k < w.heap.size := by simp at hk; omega
  simp [Array.getElem?_extract, hk2]
  omega
 ·rw [← h.block k hk hn]
  simp [Array.getElem?_extract, hk]
  omega
theorem ownsRow_at {w w' : World} {base e size n : Nat} {v : Value} {xs : List Value} (h : w.ownsRow base e size v n xs) (hk : ∀ g, v.ownBlock = some g → w'.heap[g]? = w.heap[g]?) : w'.ownsRow base e size v n xs := by
 obtain ⟨hl, h1⟩ := h
 refine ⟨hl, ?_⟩
 rcases h1 with h1 | ⟨g, cap, cur, hv, hg, hh, hr⟩
 ·exact Or.inl h1
 ·refine Or.inr ⟨g, cap, cur, hv, hg, ?_, hr⟩
  rw [hk g (by rw [hv]; rfl)]
  exact hh
theorem Row.exq {w w' : World} {Q : Nat → Prop} {N T : Nat} {Y : Nat → Prop} {v : Value} {l : List Tm} {xs : List Value} (h : Row w N T Y v l xs) (he : ExQ Q w w') (hQ : ∀ b, Q b → b < N) (hY : ∀ b, Q b → ¬ Y b) : Row w' N T Y v l xs :=
 ⟨ownsRow_at h.own fun g hg => he.block g (h.own.lt g hg).2 (fun hq => by have := hQ g hq; have := (h.own.lt g hg).1; omega),
  h.row.imp fun a l hs => hs.exq he fun b hb hq => by
   rcases hb with h1 | h1
   ·exact hY b hq h1
   ·have := hQ b hq; omega⟩
theorem BRow.exq {w w' : World} {Q : Nat → Prop} {N : Nat} {Y : Nat → Prop} {v : Value} {cs : List Bc} (h : BRow w N Y v cs) (he : ExQ Q w w') (hQ : ∀ b, Q b → b < N) (hY : ∀ b, Q b → ¬ Y b) : BRow w' N Y v cs :=
 ⟨ownsRow_at h.own fun g hg => he.block g (h.own.lt g hg).2 (fun hq => by have := hQ g hq; have := (h.own.lt g hg).1; omega),
  fun x hx => (h.row x hx).exq he fun b hb hq => by
   rcases hb with h1 | h1
   ·exact hY b hq h1
   ·have := hQ b hq; omega⟩
def nmZ (k : Nat) : ByteArray := ⟨(90 :: Lib.decDigits k).toArray⟩
def numS : Nat → List ByteArray → List (ByteArray × Value)
 | _, [] => []
 | k, n :: r => (n, .int .i64 ((k + 1 : Nat) : Int)) :: numS (k + 1) r
def idxS (s : ByteArray) : List ByteArray → Nat
 | [] => 0
 | n :: r => if n = s then 0 else idxS s r + 1
def adZ (ns : List ByteArray) (s : ByteArray) : List ByteArray := if idxS s ns < ns.length then ns else ns ++ [s]
theorem idxS_le (s : ByteArray) : ∀ ns : List ByteArray, idxS s ns ≤ ns.length
 | [] => by simp [idxS]
 | n :: r => by
  have := idxS_le s r
  simp only [idxS, List.length_cons]
  split <;> omega
theorem numS_len : ∀ (k : Nat) (ns : List ByteArray), (numS k ns).length = ns.length
 | _, [] => rfl
 | k, n :: r => by simp [numS, numS_len (k + 1) r]
theorem numS_get (s : ByteArray) : ∀ (k : Nat) (ns : List ByteArray), mapGet (numS k ns) s = if idxS s ns < ns.length then some (.int .i64 ((k + idxS s ns + 1 : Nat) : Int)) else none
 | _, [] => by simp [numS, mapGet]
 | k, n :: r => by
  have ih := numS_get s (k + 1) r
  by_cases h : n = s
  ·have e : idxS s (n :: r) = 0 := by simp [idxS, h]
   rw [if_pos (show idxS s (n :: r) < (n :: r).length by rw [e]; simp), e]
   simp [numS, mapGet, h]
  ·have e : idxS s (n :: r) = idxS s r + 1 := by simp [idxS, h]
   have e2 : mapGet (numS k (n :: r)) s = mapGet (numS (k + 1) r) s := by simp [numS, mapGet, h]
   rw [e2, ih]
   by_cases h2 : idxS s r < r.length
   ·rw [if_pos h2, if_pos (show idxS s (n :: r) < (n :: r).length by rw [e]; simp; omega), e]
    rw [show k + 1 + idxS s r + 1 = k + (idxS s r + 1) + 1 by omega]
   ·rw [if_neg h2, if_neg (show ¬ idxS s (n :: r) < (n :: r).length by rw [e]; simp; omega)]
theorem numS_push (s : ByteArray) : ∀ (k : Nat) (ns : List ByteArray), numS k (ns ++ [s]) = numS k ns ++ [(s, .int .i64 ((k + ns.length + 1 : Nat) : Int))]
 | k, [] => by simp [numS]
 | k, n :: r => by
  simp only [List.cons_append, numS, numS_push s (k + 1) r, List.length_cons]
  rw [show k + 1 + r.length + 1 = k + (r.length + 1) + 1 by omega]
theorem addS_len (ns : List ByteArray) (s : ByteArray) : (adZ ns s).length ≤ ns.length + 1 := by
 unfold adZ; split <;> simp
structure NmAt (w : World) (B r : Nat) (ns : List ByteArray) : Prop where
 box : Blk w B #[.map (some r)] 107
 map : MapAt w r (numS 0 ns)
 ne : B ≠ r
theorem NmAt.later {w w' : World} {B r : Nat} {ns : List ByteArray} (h : NmAt w B r ns) (hb : Below w.heap.size w w') : NmAt w' B r ns := ⟨h.box.below hb h.box.lt, h.map.below hb h.map.lt, h.ne⟩
theorem NmAt.alloc {w : World} {B r : Nat} {ns : List ByteArray} (h : NmAt w B r ns) (o : Obj) : NmAt (w.alloc o) B r ns := h.later ((Below.refl _ _).alloc (Nat.le_refl _) o)
theorem str_nmZ (k : Nat) : (⟨#[90]⟩ : ByteArray) ++ ⟨(Lib.decDigits k).toArray⟩ = nmZ k := by
 apply ByteArray.ext
 unfold nmZ
 apply Array.ext'
 simp [ByteArray.toList_data_append]
theorem run_lenZ {P : Program} {w : World} {T kt et : TypeId} {r : Nat} {L : List (ByteArray × Value)} (hm : P.underlying T = some (.map kt et)) (h : MapAt w r L) (ty : TypeId) : (Builtin.len_ #[T] ty #[.map (some r)]).run P w = .ok (.int .i64 (L.length : Int)) w := by
 obtain ⟨es, clk, hb, he, _⟩ := h
 have hl : es.size = L.length := by have := congrArg List.length he; simpa using this
 simp [Builtin.len_, run_underlying hm, MapKept.run_getObj_map hb, goInt, Result.andThen, hl]
set_option maxHeartbeats 1000000 in
theorem newNamer_any (w : World) :
  Calls Tryz.prog 41 #[] w fun e w' => ∃ B r, e = .returned (.func (.func 68) #[] #[.pointer (some ⟨B, 0, none⟩)]) ∧ NmAt w' B r [] ∧ w.heap.size ≤ r ∧ w.heap.size ≤ B ∧ Below w.heap.size w w' := by
 have hmf : ∀ (fn : Fn) (first cap : Array Value) (w : World), (Instr.makeFunc fn first cap).run Tryz.prog w = .ok (.func fn first cap) w := fun _ _ _ _ => rfl
 have hmm := @run_makeMap Tryz.prog
 go_enter Tryz.func41, Tryz.ntmps41
 go_wp2_with fail
 go_ret
 have h := Blk.new (w.alloc (.map #[] 0)) #[.map (some w.heap.size)] 107
 have hz : (w.alloc (.map #[] 0)).heap.size = w.heap.size + 1 := by simp
 rw [hz] at h
 have hb : Below w.heap.size w ((w.alloc (.map #[] 0)).alloc (.cells #[.map (some w.heap.size)] 107)) := ((Below.refl _ _).alloc (Nat.le_refl _) _).alloc (by simp) _
 exact ⟨w.heap.size + 1, w.heap.size, rfl, ⟨h, (MapAt.new w).below (B := w.heap.size + 1) ((Below.refl _ _).alloc (by simp) _) (by omega), by omega⟩, Nat.le_refl _, by omega, hb⟩
set_option maxHeartbeats 2000000 in
theorem namer_any (BT : Nat) (s : ByteArray) (ns : List ByteArray) (B r : Nat) (w : World) (h : NmAt w B r ns) (hT : Tb BT w) (hBr : BT ≤ r) (hBw : BT ≤ w.heap.size) (hl : ns.length ≤ 100000) :
  Calls Tryz.prog 68 #[.string s, .pointer (some ⟨B, 0, none⟩)] w fun e w' => e = .returned (.string (nmZ (idxS s ns + 1))) ∧ NmAt w' B r (adZ ns s) ∧ ExQ (fun b => b = r) w w' := by
 have HN := hide h
 have HTB := hide hT
 have b0 := h.box.c0
 have hget := numS_get s 0 ns
 have hz := Tryz.zeroValue3 w
 have hix := idxS_le s ns
 by_cases hin : idxS s ns < ns.length
 ·rw [if_pos hin] at hget
  have hlook : (Instr.lookup 107 (.map (some r)) (.string s) true).run Tryz.prog w = .ok (.tuple #[.int .i64 ((idxS s ns + 1 : Nat) : Int), .bool true]) w := by
   rw [run_look (P := Tryz.prog) Tryz.underlying107 Tryz.underlying9 hz h.map _, hget]
   simp
  have HA : Hid (adZ ns s = ns) := by unfold Hid adZ; rw [if_pos hin]
  obtain ⟨k, hk⟩ : ∃ k, k = idxS s ns + 1 := ⟨_, rfl⟩
  rw [← hk] at hlook
  rw [← hk]
  have hk2 : k ≤ 1000000 := by omega
  have HST := hide (str_nmZ k)
  have hdl : (Lib.decDigits k).length ≤ 1000001 := by have := dec_len k; omega
  have hdl3 : 1 + (Lib.decDigits k).length ≤ 9223372036854775807 := by omega
  have hdl2 : ¬ 9223372036854775807 < 1 + (Lib.decDigits k).length := by omega
  clear hget hz hin hix hk h
  go_enter Tryz.func68, Tryz.ntmps68
  go_wp2_with fail
  refine (itoa_any k BT hk2 _ HTB.out).mono ?_
  rintro e w1 ⟨rfl, hb1⟩
  have HB1 := hide hb1
  clear hb1 b0 hlook
  go_wp2_with fail
  rw [HST.out]
  go_ret
  exact ⟨rfl, by rw [HA.out]; exact HN.out.later HB1.out, ExQ.ofBelow HB1.out⟩
 ·rw [if_neg hin] at hget
  have hlook : (Instr.lookup 107 (.map (some r)) (.string s) true).run Tryz.prog w = .ok (.tuple #[.int .i64 0, .bool false]) w := by
   rw [run_look (P := Tryz.prog) Tryz.underlying107 Tryz.underlying9 hz h.map _, hget]
   simp
  have hlen : (Builtin.len_ #[107] 3 #[.map (some r)]).run Tryz.prog w = .ok (.int .i64 (ns.length : Int)) w := by
   rw [run_lenZ Tryz.underlying107 h.map, numS_len]
  have HA : Hid (adZ ns s = ns ++ [s]) := by unfold Hid adZ; rw [if_neg hin]
  have hnl : idxS s ns = ns.length := by omega
  obtain ⟨k, hk⟩ : ∃ k, k = ns.length + 1 := ⟨_, rfl⟩
  have hki : (ns.length : Int) + 1 = (k : Int) := by omega
  have hk2 : k ≤ 1000000 := by omega
  have hwr : IntKind.i64.wrap ((ns.length : Int) + 1) = (k : Int) := by rw [IntKind.wrap_i64]; omega
  obtain ⟨w2, hrun2, hM2, hz2, ho2, ht2, hu2, hkp⟩ := run_put (P := Tryz.prog) Tryz.underlying107 Tryz.underlying9 h.map s (.int .i64 (k : Int)) hget
  have HE2 : Hid (ExQ (fun b => b = r) w w2) := ⟨ho2, ht2, hu2, by omega, fun b _ hn => hkp b hn⟩
  have HN2 : Hid (NmAt w2 B r (adZ ns s)) := ⟨(hkp B h.ne).trans h.box, by rw [HA.out, numS_push]; rw [show 0 + ns.length + 1 = k by omega]; exact hM2, h.ne⟩
  have HT2 : Hid (Tb BT w2) := HTB.out.on (HE2.out.below (B := BT) hBw (fun b hb => by omega))
  rw [show idxS s ns + 1 = k by omega]
  have HST := hide (str_nmZ k)
  have hdl : (Lib.decDigits k).length ≤ 1000001 := by have := dec_len k; omega
  have hdl3 : 1 + (Lib.decDigits k).length ≤ 9223372036854775807 := by omega
  have hdl2 : ¬ 9223372036854775807 < 1 + (Lib.decDigits k).length := by omega
  have HKI := hide hki
  generalize (ns.length : Int) = nl at *
  clear hget hz hin hix hk h hM2 hz2 ho2 ht2 hu2 hkp hnl hki
  go_enter Tryz.func68, Tryz.ntmps68
  go_wp2_with fail
  refine (itoa_any k BT hk2 _ HT2.out).mono ?_
  rintro e w1 ⟨rfl, hb1⟩
  have HB1 := hide hb1
  clear hb1 b0 hlook
  go_wp2_with fail
  rw [HST.out]
  go_ret
  exact ⟨rfl, HN2.out.later HB1.out, HE2.out.trans (ExQ.ofBelow HB1.out)⟩
def renL : List ByteArray → List Tm → List Tm × List ByteArray
 | ns, [] => ([], ns)
 | ns, ⟨s, l⟩ :: r =>
  if varB s = true then (⟨nmZ (idxS s ns + 1), []⟩ :: (renL (adZ ns s) r).1, (renL (adZ ns s) r).2)
  else (⟨s, (renL ns l).1⟩ :: (renL (renL ns l).2 r).1, (renL (renL ns l).2 r).2)
def renT (ns : List ByteArray) (t : Tm) : Tm × List ByteArray :=
 if varB t.name = true then (⟨nmZ (idxS t.name ns + 1), []⟩, adZ ns t.name) else (⟨t.name, (renL ns t.args).1⟩, (renL ns t.args).2)
theorem renL_nil (ns : List ByteArray) : renL ns [] = ([], ns) := by rw [renL]
theorem renL_cons (ns : List ByteArray) (t : Tm) (r : List Tm) : renL ns (t :: r) = ((renT ns t).1 :: (renL (renT ns t).2 r).1, (renL (renT ns t).2 r).2) := by
 obtain ⟨s, l⟩ := t
 rw [renL]
 unfold renT
 by_cases h : varB s = true
 ·simp [h]
 ·simp [h]
theorem renL_append (b : List Tm) : ∀ (a : List Tm) (ns : List ByteArray), renL ns (a ++ b) = ((renL ns a).1 ++ (renL (renL ns a).2 b).1, (renL (renL ns a).2 b).2)
 | [], ns => by simp [renL_nil]
 | t :: r, ns => by
  rw [List.cons_append, renL_cons, renL_append b r, renL_cons]
  simp
theorem renL_take (ns : List ByteArray) (l : List Tm) (k : Nat) (h : k < l.length) : renL ns (l.take (k + 1)) = ((renL ns (l.take k)).1 ++ [(renT (renL ns (l.take k)).2 l[k]).1], (renT (renL ns (l.take k)).2 l[k]).2) := by
 rw [List.take_succ_eq_append_getElem h, renL_append, renL_cons, renL_nil]
theorem renL_len : ∀ (l : List Tm) (ns : List ByteArray), (renL ns l).1.length = l.length
 | [], ns => by simp [renL_nil]
 | t :: r, ns => by rw [renL_cons]; simp [renL_len r]
theorem renL_names (l : List Tm) : ∀ (ns : List ByteArray), (renL ns l).2.length ≤ ns.length + sizeL l := by
 induction l using Tm.indL with
 | h0 => intro ns; simp [renL_nil]
 | h s l r ihl ihr =>
  intro ns
  have e : sizeL ((⟨s, l⟩ : Tm) :: r) = 1 + sizeL l + sizeL r := by simp [sizeL]
  rw [e, renL_cons]
  have h2 := ihr (renT ns ⟨s, l⟩).2
  have h3 : (renT ns ⟨s, l⟩).2.length ≤ ns.length + (1 + sizeL l) := by
   unfold renT
   split
   ·have := addS_len ns s; simp only; omega
   ·have := ihl ns; simp only; omega
  simp only
  omega
theorem cell_termZ (w : World) (a b : Value) (T : Nat) : ∀ j u, ([a, b] : List Value)[j]? = some u → (w.alloc (.cells #[a, b] T)).cell? ((⟨w.heap.size, 0, none⟩ : Addr).add j) = some u := fun j u h => by
 have hb := Blk.new w #[a, b] T
 have h1 : (⟨w.heap.size, 0, none⟩ : Addr).add j = ⟨w.heap.size, j, none⟩ := by
  by_cases h0 : j = 0
  ·subst h0; simp [Addr.add]
  ·simp [Addr.add, h0]
 rw [h1, hb.cell j]
 simpa using h
def RnS (Q : Nat) (s1 : ByteArray) (v1 : Value) (w' : World) : Prop := w'.cell? ⟨Q, 0, none⟩ = some (.string s1) ∧ w'.cell? ⟨Q, 1, none⟩ = some v1
theorem RnS.kept {Q : Nat} {s1 : ByteArray} {v1 : Value} {w w' : World} (h : RnS Q s1 v1 w) (hk : w'.heap[Q]? = w.heap[Q]?) : RnS Q s1 v1 w' := ⟨by simpa [World.cell?, hk] using h.1, by simpa [World.cell?, hk] using h.2⟩
structure RnI (w : World) (B r : Nat) (s : ByteArray) (T : Array Value) (u : Value) (L : List Tm) (xs : List Value) (ns : List ByteArray) (wr : World) : Prop where
 row : Row wr (w.heap.size + 3) 32 (fun _ => False) u L xs
 ex : ExQ (fun b => b = r) w wr
 res : Blk wr (w.heap.size + 1) #[.string ⟨#[]⟩, .slice none 0 0] 32
 out : Blk wr (w.heap.size + 2) #[.string s, u] 32
 sz : w.heap.size + 3 ≤ wr.heap.size
 nm : NmAt wr B r ns
theorem rn_round {w wq w5 : World} {B r : Nat} {s : ByteArray} {T : Array Value} {u : Value} {L : List Tm} {xs : List Value} {ns ns' : List ByteArray} {t : Tm} {a5 : Option Addr} {c5 Q : Nat} {s1 : ByteArray} {v1 : Value} (hr : r < w.heap.size) (hB : B < w.heap.size) (h : RnI w B r s T u L xs ns wq) (hQ : w.heap.size + 3 ≤ Q ∧ some Q ≠ u.ownBlock) (hS : RnS Q s1 v1 wq) (hl : L.length ≤ 1000000)
  (h5 : ExQ (fun b => b = r) wq w5) (hs5 : Sl w5 (fun b => wq.heap.size ≤ b) a5 t.args) (hn5 : NmAt w5 B r ns') :
  ∃ g cap w3, (Builtin.append_ #[30, 30] 30 #[u, .slice (some ⟨w5.heap.size, 0, none⟩) 1 1]).run Tryz.prog (w5.alloc (.cells #[.string t.name, .slice a5 t.args.length c5] 32)) = .ok (.slice (some ⟨g, 0, none⟩) (L.length + 1) cap) w3 ∧
   RnS Q s1 v1 w5 ∧ RnS Q s1 v1 (w5.alloc (.cells #[.string t.name, .slice a5 t.args.length c5] 32)) ∧ RnS Q s1 v1 w3 ∧ w5.cell? ⟨w.heap.size + 2, 1, none⟩ = some u ∧ (w5.alloc (.cells #[.string t.name, .slice a5 t.args.length c5] 32)).cell? ⟨w.heap.size + 2, 1, none⟩ = some u ∧ w3.cell? ⟨w.heap.size + 2, 1, none⟩ = some u ∧ w3.frozen? ⟨w.heap.size + 2, 1, none⟩ = false ∧ w.heap.size + 2 < w3.heap.size ∧
   RnS Q s1 v1 (w3.setCell ⟨w.heap.size + 2, 1, none⟩ (.slice (some ⟨g, 0, none⟩) (L.length + 1) cap)) ∧ RnI w B r s T (.slice (some ⟨g, 0, none⟩) (L.length + 1) cap) (L ++ [t]) (xs ++ [.string t.name, .slice a5 t.args.length c5]) ns' (w3.setCell ⟨w.heap.size + 2, 1, none⟩ (.slice (some ⟨g, 0, none⟩) (L.length + 1) cap)) := by
 obtain ⟨hrow, hex, hres, hout, hsz, hnm⟩ := h
 obtain ⟨i0, hi, hz0, hz1, hz2⟩ := info_parts Tryz.infoTerm
 obtain ⟨wm, hbm, hsm, hem⟩ := h5.mid
 have hlt := hrow.own.lt
 have hrm := hrow.exq hem (fun b hb => by omega) (fun b _ h => h)
 have hsx := hbm.size
 have hQl : Q < wq.heap.size := by
  apply Classical.byContradiction
  intro hn
  have e : wq.heap[Q]? = none := Array.getElem?_eq_none (by omega)
  have := hS.1
  simp [World.cell?, e] at this
 obtain ⟨g, cap, w3, hr3, ho, hg, hat, hgl⟩ := run_append_lies (P := Tryz.prog) (w := w5.alloc (.cells #[.string t.name, .slice a5 t.args.length c5] 32)) 30 30 (w.heap.size + 3) 32 i0 _ 2 40 Tryz.underlying30 hi hz0 hz1 hz2 rfl (by decide) u L.length xs ((hrm.below hbm).own.alloc _)
  ⟨w5.heap.size, 0, none⟩ 1 1 [.string t.name, .slice a5 t.args.length c5] rfl (cell_termZ _ _ _ _) (fun y hy => by simp at hy; rcases hy with rfl | rfl <;> rfl) (by decide) (by unfold maxLen; omega) (by omega) (by simp; omega) _ rfl
 have hp := hrm.push (w1 := w5) (w3 := w3) (t := t) (by omega) (fun b h => h.elim) hbm ⟨a5, c5, rfl, hs5.mono fun b h _ => Or.inr (by omega)⟩ _ rfl ho hg hat
 have hne : ∀ j, j < w.heap.size + 3 → some j ≠ u.ownBlock := fun j hj e => by have := (hlt j e.symm).1; omega
 have hs3 := hg.size
 simp at hs3
 have hx5 : ExQ (fun b => b = r) w w5 := hex.transN h5 (fun i h _ => h)
 have hx3 : ExQ (fun b => b = r) w w3 := (hx5.alloc _).grown hg (fun k hk => Or.inl (by have := (hlt k hk).1; omega))
 have hO5 := hout.exq h5 (by omega)
 have hO3 := (hO5.alloc (.cells #[.string t.name, .slice a5 t.args.length c5] 32)).grown hg (hne _ (by omega))
 have hR3 := ((hres.exq h5 (by omega)).alloc (.cells #[.string t.name, .slice a5 t.args.length c5] 32)).grown hg (hne _ (by omega))
 have S5 : RnS Q s1 v1 w5 := hS.kept (h5.block Q hQl (by omega))
 have S6 : RnS Q s1 v1 (w5.alloc (.cells #[.string t.name, .slice a5 t.args.length c5] 32)) := S5.kept (Below.heap_alloc _ _ _ (by omega))
 have S3 : RnS Q s1 v1 w3 := S6.kept (hg.block Q (by simp; omega) hQ.2)
 have N3 : NmAt w3 B r ns' := ⟨((hn5.alloc _).box).grown hg (hne _ (by omega)), (hn5.alloc (.cells #[.string t.name, .slice a5 t.args.length c5] 32)).map.kept (hg.block r (by have := hn5.map.lt; simp; omega) (hne _ (by omega))), hn5.ne⟩
 refine ⟨g, cap, w3, hr3, S5, S6, S3, hO5.cell 1, (hO5.alloc _).cell 1, hO3.cell 1, hO3.frozen 1, by omega, S3.kept (Below.heap_setCell _ _ _ _ (by simp; omega)), ?_⟩
 refine ⟨hp.setCell (by omega) (fun h => h) _, hx3.setNew (by omega) _ _, hR3.setOther _ _ (by omega), hO3.set 1 _, by simp [World.setCell]; omega, ⟨N3.box.setOther _ _ (by omega), N3.map.kept (Below.heap_setCell _ _ _ _ (by simp; omega)), N3.ne⟩⟩
def RnP (B r : Nat) (y : Tm × List ByteArray) (w : World) (e : Ending) (w' : World) : Prop :=
 ∃ a c, e = .returned (.agg #[.string y.1.name, .slice a y.1.args.length c]) ∧ Sl w' (fun b => w.heap.size ≤ b) a y.1.args ∧ NmAt w' B r y.2 ∧ ExQ (fun b => b = r) w w'
set_option maxHeartbeats 4000000 in
theorem rename_any (BT B r : Nat) (hBr : BT ≤ r) (t : Tm) : ∀ (v : Value) (ns : List ByteArray) (w : World) (X : Nat → Prop), TV w X v t → (∀ b, X b → b ≠ r) → NmAt w B r ns → Tb BT w → ns.length + sizeL [t] ≤ 100000 →
  Calls Tryz.prog 70 #[v, .func (.func 68) #[] #[.pointer (some ⟨B, 0, none⟩)]] w fun e w' => RnP B r (renT ns t) w e w' := by
 induction t using Tm.ind with
 | h s l ih =>
  intro v ns w X hv hX hN hT hsz
  obtain ⟨a, c, rfl, hs⟩ := hv
  have IH := hide ih
  have HS := hide hs
  have HX := hide hX
  have HN := hide hN
  have HT := hide hT
  have hl := hs.1
  have hz : sizeL [(⟨s, l⟩ : Tm)] = 1 + sizeL l := by simp [sizeL]
  rw [hz] at hsz
  have hlen := sizeL_len l
  have hrl : r < w.heap.size := hN.map.lt
  have hBl : B < w.heap.size := hN.box.lt
  have HRB : Hid (r < w.heap.size ∧ B < w.heap.size) := ⟨hrl, hBl⟩
  have hBw : BT ≤ w.heap.size := by omega
  clear ih hs hz hX hN hT
  have T2 : Hid (Blk ((w.alloc (.cells #[.string s, .slice a l.length c] 32)).alloc (.cells #[.string ⟨#[]⟩, .slice none 0 0] 32)) w.heap.size #[.string s, .slice a l.length c] 32) := (Blk.new w _ _).alloc _
  have R2 : Hid (Blk ((w.alloc (.cells #[.string s, .slice a l.length c] 32)).alloc (.cells #[.string ⟨#[]⟩, .slice none 0 0] 32)) (w.heap.size + 1) #[.string ⟨#[]⟩, .slice none 0 0] 32) := by
   have h := Blk.new (w.alloc (.cells #[.string s, .slice a l.length c] 32)) #[.string ⟨#[]⟩, .slice none 0 0] 32
   rw [World.size_alloc] at h
   exact h
  have B2 : Hid (Below w.heap.size w ((w.alloc (.cells #[.string s, .slice a l.length c] 32)).alloc (.cells #[.string ⟨#[]⟩, .slice none 0 0] 32))) := ((Below.refl _ _).alloc (Nat.le_refl _) _).alloc (by simp) _
  have c0 := T2.out.cell 0
  have c1 := T2.out.cell 1
  cases hvs : varB s with
  | true =>
   have HR : Hid (renT ns ⟨s, l⟩ = (⟨nmZ (idxS s ns + 1), []⟩, adZ ns s)) := by unfold Hid renT; simp [hvs]
   have NM := hide (namer_any BT s ns B r _ (HN.out.later B2.out) (HT.out.on (B2.out.mono hBw)) hBr (Nat.le_trans hBw B2.out.size) (by omega))
   have HV := hide hvs
   clear hvs
   go_enter Tryz.func70, Tryz.ntmps70
   go_wp2_with fail
   refine (isVariable_all s _).mono ?_
   rintro e w2 ⟨rfl, rfl⟩
   rw [HV.out]
   go_wp2_with fail
   refine NM.out.mono ?_
   rintro e w3 ⟨rfl, hn3, hx3⟩
   have R3 := hide (R2.out.exq hx3 (by omega))
   have HN3 := hide hn3
   have HX3 := hide ((ExQ.ofBelow (Q := fun b => b = r) B2.out).transN hx3 (fun i h _ => h))
   clear hn3 hx3 c0 c1 NM
   have r0 := R3.out.c0
   have r1 := R3.out.c1
   have rf := R3.out.frozen
   have hRl : w.heap.size + 1 < w3.heap.size := R3.out.lt
   generalize nmZ (idxS s ns + 1) = nm at *
   go_wp2_with fail
   refine bodyPost_ret (v := .agg #[.string nm, .slice none 0 0]) (by simp [results, Tryz.results70, go_sem, World.cell?_setCell_same, World.cell?_setCell_other, r0, r1, hRl]) rfl ?_
   rw [HR.out]
   refine ⟨none, 0, rfl, ⟨by simp, Or.inl rfl⟩, ⟨(HN3.out.box.setOther _ _ (by omega)).setOther _ _ (by omega), ?_, HN3.out.ne⟩, (HX3.out.setNew (by omega) _ _).setNew (by omega) _ _⟩
   refine HN3.out.map.kept ?_
   rw [Below.heap_setCell _ _ _ _ (by simp; omega), Below.heap_setCell _ _ _ _ (by simp; omega)]
  | false =>
   have HR : Hid (renT ns ⟨s, l⟩ = (⟨s, (renL ns l).1⟩, (renL ns l).2)) := by unfold Hid renT; simp [hvs]
   have HV := hide hvs
   clear hvs
   go_enter Tryz.func70, Tryz.ntmps70
   go_wp2_with fail
   refine (isVariable_all s _).mono ?_
   rintro e w2 ⟨rfl, rfl⟩
   rw [HV.out]
   go_wp2_with fail
   have O3 : Hid (Blk (((w.alloc (.cells #[.string s, .slice a l.length c] 32)).alloc (.cells #[.string ⟨#[]⟩, .slice none 0 0] 32)).alloc (.cells #[.string s, .slice none 0 0] 32)) (w.heap.size + 2) #[.string s, .slice none 0 0] 32) := by
    have h := Blk.new ((w.alloc (.cells #[.string s, .slice a l.length c] 32)).alloc (.cells #[.string ⟨#[]⟩, .slice none 0 0] 32)) #[.string s, .slice none 0 0] 32
    have e : ((w.alloc (.cells #[.string s, .slice a l.length c] 32)).alloc (.cells #[.string ⟨#[]⟩, .slice none 0 0] 32)).heap.size = w.heap.size + 2 := by simp
    rw [e] at h
    exact h
   have R3 := hide (R2.out.alloc (.cells #[.string s, .slice none 0 0] 32))
   have B3 := hide (B2.out.alloc B2.out.size (.cells #[.string s, .slice none 0 0] 32))
   have SZ3 : Hid (w.heap.size + 3 ≤ (((w.alloc (.cells #[.string s, .slice a l.length c] 32)).alloc (.cells #[.string ⟨#[]⟩, .slice none 0 0] 32)).alloc (.cells #[.string s, .slice none 0 0] 32)).heap.size) := by unfold Hid; simp
   clear c0 c1 B2 T2 R2
   generalize (((w.alloc (.cells #[.string s, .slice a l.length c] 32)).alloc (.cells #[.string ⟨#[]⟩, .slice none 0 0] 32)).alloc (.cells #[.string s, .slice none 0 0] 32)) = w3 at *
   go_loopw [22] (fun i wr => ∃ (k : Nat) (u : Value) (xs : List Value), k ≤ l.length ∧ i = .int .i64 (k : Int) ∧ RnI w B r s #[] u (renL ns (l.take k)).1 xs (renL ns (l.take k)).2 wr) (fun i wr => l.length - (intOf i).toNat)
   case atStart => exact ⟨0, .slice none 0 0, [], Nat.zero_le _, rfl, ⟨by have h := Row.start w3 (w.heap.size + 3) 32 (fun _ => False); simpa [renL_nil] using h, ExQ.ofBelow B3.out, R3.out, O3.out, SZ3.out, by simpa [renL_nil] using HN.out.later B3.out⟩⟩
   case round =>
    obtain ⟨k, u9, xs, hk, rfl, hin⟩ := hrel
    have SET := hide hin
    clear hin
    have o0 := SET.out.out.c0
    have o1 : wr.cell? ⟨w.heap.size + 2, 1, none⟩ = some u9 := SET.out.out.cell 1
    by_cases hlt : k < l.length
    ·obtain ⟨b, o, a', c', rfl, d0, d1, hx⟩ := (((HS.out.mono (Y := fun b => X b ∧ b < w.heap.size) fun b h1 h2 => ⟨h1, h2⟩).exq SET.out.ex (fun b h => HX.out b h.1)).mono (Y := fun b => (X b ∧ b < w.heap.size) ∧ b < wr.heap.size) fun b h1 h2 => ⟨h1, h2⟩).get (Below.refl wr.heap.size wr) (fun b h _ => h.2) k hlt
     have hlt2 : (k : Int) < (l.length : Int) := by omega
     have hszk : sizeL [l[k]] ≤ sizeL l - sizeL (l.take k) := by
      have h1 := sizeL_take l k hlt
      have h2 := sizeL_take_le l (k + 1)
      omega
     have hszk2 : sizeL (l.take k) ≤ sizeL l := sizeL_take_le l k
     have HLN : Hid ((renL ns (l.take k)).1.length ≤ 1000000) := by unfold Hid; rw [renL_len]; simp; omega
     have hnn := renL_names (l.take k) ns
     have HTK := hide (renL_take ns l k hlt)
     have BQ : Below wr.heap.size wr (wr.alloc (.cells #[.string l[k].name, .slice a' l[k].args.length c'] 32)) := (Below.refl _ _).alloc (Nat.le_refl _) _
     have HXK := hide (hx.later BQ)
     have HOB : Hid (w.heap.size + 3 ≤ wr.heap.size ∧ some wr.heap.size ≠ u9.ownBlock) := ⟨SET.out.sz, fun e => by have := (SET.out.row.own.lt _ e.symm).2; omega⟩
     have SQ : Hid (RnI w B r s #[] u9 (renL ns (l.take k)).1 xs (renL ns (l.take k)).2 (wr.alloc (.cells #[.string l[k].name, .slice a' l[k].args.length c'] 32))) := ⟨SET.out.row.below BQ, SET.out.ex.alloc _, SET.out.res.alloc _, SET.out.out.alloc _, by have := SET.out.sz; simp; omega, SET.out.nm.alloc _⟩
     have HS8 : Hid (RnS wr.heap.size l[k].name (.slice a' l[k].args.length c') (wr.alloc (.cells #[.string l[k].name, .slice a' l[k].args.length c'] 32))) := ⟨(Blk.new wr _ _).cell 0, (Blk.new wr _ _).cell 1⟩
     have HTW : Hid (Tb BT (wr.alloc (.cells #[.string l[k].name, .slice a' l[k].args.length c'] 32))) := HT.out.on (SQ.out.ex.below hBw (fun b hb => by omega))
     clear hx BQ o0
     go_upto_region 7 with fail
     clear d0 d1 SET o1
     generalize (wr.alloc (.cells #[.string l[k].name, .slice a' l[k].args.length c'] 32)) = wq at *
     generalize wr.heap.size = Q at *
     have IHQ : Hid (Calls Tryz.prog 70 #[.agg #[.string l[k].name, .slice a' l[k].args.length c'], .func (.func 68) #[] #[.pointer (some ⟨B, 0, none⟩)]] wq.drew fun e w'' => ∃ a1 c1, e = .returned (.agg #[.string (renT (renL ns (l.take k)).2 l[k]).1.name, .slice a1 (renT (renL ns (l.take k)).2 l[k]).1.args.length c1]) ∧ Sl w'' (fun b => wq.heap.size ≤ b) a1 (renT (renL ns (l.take k)).2 l[k]).1.args ∧ NmAt w'' B r (renT (renL ns (l.take k)).2 l[k]).2 ∧ ExQ (fun b => b = r) wq w'') := (IH.out l[k] (List.getElem_mem hlt) _ _ wq.drew _ (HXK.out.later ((Below.refl wq.heap.size wq).drew)) (fun b h => HX.out b h.1.1) (SQ.out.nm.later ((Below.refl wq.heap.size wq).drew)) (HTW.out.on ((Below.refl BT wq).drew)) (by omega)).mono fun e w'' hp => by
       obtain ⟨a1, c1, h1, h2, h3, h4⟩ := hp
       exact ⟨a1, c1, h1, h2, h3, ((ExQ.refl _ wq).drew).trans h4⟩
     generalize renT (renL ns (l.take k)).2 l[k] = y at *
     have HSd : Hid (RnS Q l[k].name (.slice a' l[k].args.length c') wq.drew) := HS8.out
     refine wp_region_held_drew (S := RnS Q l[k].name (.slice a' l[k].args.length c')) (by kernel_rfl) HSd.out (fun hHeld => ?_)
     refine tkq (v := ?_) 0 rfl ?_ ?_
     rotate_left
     ·intro w' hSw
      go_simp <;> with_reducible rfl
     try simp only [Act.put, sq]
     refine tkq (v := ?_) 2 rfl ?_ ?_
     rotate_left
     ·intro w' hSw
      have e0 := hSw.1
      have e1 := hSw.2
      go_simp <;> with_reducible rfl
     try simp only [Act.put, sq]
     refine tkq (v := ?_) 3 rfl ?_ ?_
     rotate_left
     ·intro w' hSw
      go_simp <;> with_reducible rfl
     try simp only [Act.put, sq]
     have ob4 : wq.drew.cell? ⟨w.heap.size + 2, 1, none⟩ = some u9 := SQ.out.out.cell 1
     refine wpAnyH_ready (rs := [1, 4]) (by kernel_rfl) (by simp) ?_
     refine AllReadyH.cons rfl (fun K hK => ?_) (AllReadyH.cons rfl (fun K hK => ?_) AllReadyH.nil)
     ·go_simp
      refine hK.out _ _ (by exact HSd.out) (fun hHeld => ?_)
      clear hK K
      try simp only [Act.put, sq]
      refine rdq 4 rfl fun K hK => ?_
      go_simp
      go_at_call 70
      refine IHQ.out.mono ?_
      rintro e w5 ⟨a5, c5, rfl, hs5, hn5, hx5⟩
      obtain ⟨g, cap, w3, hrun, S1, S2, S3, p5, p6, o3, of, ol, S4, hset⟩ := rn_round (t := y.1) (c5 := c5) HRB.out.1 HRB.out.2 SQ.out ⟨HOB.out.1, HOB.out.2⟩ HS8.out HLN.out hx5 hs5 hn5
      have HRUN := hide hrun
      have HSET := hide hset
      have S1h := hide S1
      have S2h := hide S2
      have S3h := hide S3
      have S4h := hide S4
      have O5 := hide (And.intro p5 (And.intro o3 (And.intro of ol)))
      clear hrun hset S1 S2 S3 S4 hs5 hn5 hx5
      go_simp
      refine hK.out _ _ (by exact S1h.out) (fun hHeld => ?_)
      clear hK K
      try simp only [Act.put, sq]
      refine rdq 5 rfl fun K hK => ?_
      go_simp
      refine hK.out _ _ (by exact S2h.out) (fun hHeld => ?_)
      clear hK K
      try simp only [Act.put, sq]
      refine rdq 6 rfl fun K hK => ?_
      refine step_append_eqM rfl _ _ _ _ rfl rfl rfl HRUN.out ?_
      refine hK.out _ _ (by exact S3h.out) (fun hHeld => ?_)
      clear hK K
      try simp only [Act.put, sq]
      refine tkq (v := ?_) 7 rfl ?_ ?_
      rotate_left
      ·intro w' hSw
       go_simp <;> with_reducible rfl
      try simp only [Act.put, sq]
      refine rdq 8 rfl fun K hK => ?_
      go_simp
      refine hK.out _ _ (by exact S4h.out) (fun hHeld => ?_)
      clear hK K
      try simp only [Act.put, sq]
      refine wpAnyH_done (by kernel_rfl) ?_ _
      clear o3 of ol p5 p6
      go_wp2_with fail
      go_roundw
      case rel => exact ⟨k + 1, _, _, by omega, by go_num, by rw [HTK.out]; exact HSET.out⟩
      case measure => simp [intOf]; omega
     ·go_simp
      go_at_call 70
      refine IHQ.out.mono ?_
      rintro e w5 ⟨a5, c5, rfl, hs5, hn5, hx5⟩
      obtain ⟨g, cap, w3, hrun, S1, S2, S3, p5, p6, o3, of, ol, S4, hset⟩ := rn_round (t := y.1) (c5 := c5) HRB.out.1 HRB.out.2 SQ.out ⟨HOB.out.1, HOB.out.2⟩ HS8.out HLN.out hx5 hs5 hn5
      have HRUN := hide hrun
      have HSET := hide hset
      have S1h := hide S1
      have S2h := hide S2
      have S3h := hide S3
      have S4h := hide S4
      have O5 := hide (And.intro p5 (And.intro o3 (And.intro of ol)))
      clear hrun hset S1 S2 S3 S4 hs5 hn5 hx5
      go_simp
      refine hK.out _ _ (by exact S1h.out) (fun hHeld => ?_)
      clear hK K
      try simp only [Act.put, sq]
      refine wpAnyH_ready (rs := [1, 5]) (by kernel_rfl) (by simp) ?_
      refine AllReadyH.cons rfl (fun K hK => ?_) (AllReadyH.cons rfl (fun K hK => ?_) AllReadyH.nil)
      ·go_simp
       refine hK.out _ _ (by exact S1h.out) (fun hHeld => ?_)
       clear hK K
       try simp only [Act.put, sq]
       refine rdq 5 rfl fun K hK => ?_
       go_simp
       refine hK.out _ _ (by exact S2h.out) (fun hHeld => ?_)
       clear hK K
       try simp only [Act.put, sq]
       refine rdq 6 rfl fun K hK => ?_
       refine step_append_eqM rfl _ _ _ _ rfl rfl rfl HRUN.out ?_
       refine hK.out _ _ (by exact S3h.out) (fun hHeld => ?_)
       clear hK K
       try simp only [Act.put, sq]
       refine tkq (v := ?_) 7 rfl ?_ ?_
       rotate_left
       ·intro w' hSw
        go_simp <;> with_reducible rfl
       try simp only [Act.put, sq]
       refine rdq 8 rfl fun K hK => ?_
       go_simp
       refine hK.out _ _ (by exact S4h.out) (fun hHeld => ?_)
       clear hK K
       try simp only [Act.put, sq]
       refine wpAnyH_done (by kernel_rfl) ?_ _
       clear o3 of ol p5 p6
       go_wp2_with fail
       go_roundw
       case rel => exact ⟨k + 1, _, _, by omega, by go_num, by rw [HTK.out]; exact HSET.out⟩
       case measure => simp [intOf]; omega
      ·go_simp
       refine hK.out _ _ (by exact S2h.out) (fun hHeld => ?_)
       clear hK K
       try simp only [Act.put, sq]
       refine rdq 1 rfl fun K hK => ?_
       go_simp
       refine hK.out _ _ (by exact S2h.out) (fun hHeld => ?_)
       clear hK K
       try simp only [Act.put, sq]
       refine rdq 6 rfl fun K hK => ?_
       refine step_append_eqM rfl _ _ _ _ rfl rfl rfl HRUN.out ?_
       refine hK.out _ _ (by exact S3h.out) (fun hHeld => ?_)
       clear hK K
       try simp only [Act.put, sq]
       refine tkq (v := ?_) 7 rfl ?_ ?_
       rotate_left
       ·intro w' hSw
        go_simp <;> with_reducible rfl
       try simp only [Act.put, sq]
       refine rdq 8 rfl fun K hK => ?_
       go_simp
       refine hK.out _ _ (by exact S4h.out) (fun hHeld => ?_)
       clear hK K
       try simp only [Act.put, sq]
       refine wpAnyH_done (by kernel_rfl) ?_ _
       clear o3 of ol p5 p6
       go_wp2_with fail
       go_roundw
       case rel => exact ⟨k + 1, _, _, by omega, by go_num, by rw [HTK.out]; exact HSET.out⟩
       case measure => simp [intOf]; omega
    ·have hge : ¬ ((k : Int) < (l.length : Int)) := by omega
     have htk : l.take k = l := List.take_of_length_le (by omega)
     rw [htk] at SET
     obtain ⟨ae, ce, rfl, hse⟩ := SET.out.row.sl
     have HSE := hide hse
     clear hse
     have r0 := SET.out.res.c0
     have r1 := SET.out.res.c1
     have rf := SET.out.res.frozen
     have hRl : w.heap.size + 1 < wr.heap.size := SET.out.res.lt
     go_wp2_with fail
     refine bodyPost_ret (v := .agg #[.string s, .slice ae (renL ns l).1.length ce]) (by simp [results, Tryz.results70, go_sem, World.cell?_setCell_same, World.cell?_setCell_other, r0, r1, hRl]) rfl ?_
     rw [HR.out]
     have hbs := SET.out.sz
     have hRB := HRB.out
     refine ⟨ae, ce, rfl, (HSE.out.kept fun b hb => ?_).mono fun b hb _ => ?_, ⟨(SET.out.nm.box.setOther _ _ (by omega)).setOther _ _ (by omega), ?_, SET.out.nm.ne⟩, (SET.out.ex.setNew (by omega) _ _).setNew (by omega) _ _⟩
     ·have hbn : b ≠ w.heap.size + 1 := by
       rcases hb with h | h
       ·exact h.elim
       ·omega
      rw [Below.heap_setCell _ _ _ _ (by simpa using hbn), Below.heap_setCell _ _ _ _ (by simpa using hbn)]
     ·rcases hb with h | h
      ·exact h.elim
      ·omega
     ·refine SET.out.nm.map.kept ?_
      rw [Below.heap_setCell _ _ _ _ (by simp; omega), Below.heap_setCell _ _ _ _ (by simp; omega)]
def onN (l : List Bd) (s : ByteArray) (es0 bs : List Tm) : Tm :=
 match forT l s with
 | some x => if es0.isEmpty = true then x else ⟨s, bs⟩
 | none => ⟨s, bs⟩
def onL (l : List Bd) : List Tm → List Tm
 | [] => []
 | ⟨s, es0⟩ :: r => onN l s es0 (onL l es0) :: onL l r
def onT (l : List Bd) (t : Tm) : Tm := onN l t.name t.args (onL l t.args)
theorem onL_cons (l : List Bd) (t : Tm) (r : List Tm) : onL l (t :: r) = onT l t :: onL l r := by
 obtain ⟨s, es0⟩ := t
 simp only [onL, onT]
theorem onL_append (l : List Bd) (b : List Tm) : ∀ a, onL l (a ++ b) = onL l a ++ onL l b
 | [] => by simp [onL]
 | t :: r => by rw [List.cons_append, onL_cons, onL_cons, onL_append l b r]; rfl
theorem onT_some {l : List Bd} {s : ByteArray} {x : Tm} (h : forT l s = some x) : onT l ⟨s, []⟩ = x := by simp [onT, onN, h]
theorem onT_deep {l : List Bd} {s : ByteArray} {es0 : List Tm} (h : es0 ≠ [] ∨ forT l s = none) : onT l ⟨s, es0⟩ = ⟨s, onL l es0⟩ := by
 unfold onT onN
 rcases h with h | h
 ·cases forT l s with
  | none => rfl
  | some x => simp [h]
 ·rw [h]
def insB (d : Bd) : List Bd → List Bd
 | [] => [d]
 | e :: r => if ltB d.nm e.nm = true then d :: e :: r else e :: insB d r
def srtB : List Bd → List Bd
 | [] => []
 | d :: r => insB d (srtB r)
theorem insB_perm (d : Bd) : ∀ l, (insB d l).Perm (d :: l)
 | [] => List.Perm.refl _
 | e :: r => by
  rw [insB]
  split
  ·exact List.Perm.refl _
  ·exact ((insB_perm d r).cons e).trans (List.Perm.swap d e r)
theorem srtB_perm : ∀ l, (srtB l).Perm l
 | [] => List.Perm.refl _
 | d :: r => (insB_perm d _).trans ((srtB_perm r).cons d)
theorem insB_sorted (d : Bd) : ∀ l, SortedB l → (∀ e ∈ l, d.nm ≠ e.nm) → SortedB (insB d l)
 | [], _, _ => by simp [insB, SortedB]
 | e :: r, h, hn => by
  obtain ⟨h1, h2⟩ := List.pairwise_cons.1 h
  rw [insB]
  split
  ·rename_i hlt
   refine List.pairwise_cons.2 ⟨fun x hx => ?_, h⟩
   rcases List.mem_cons.1 hx with rfl | hx
   ·exact hlt
   ·exact ltB_trans hlt (h1 x hx)
  ·rename_i hlt
   refine List.pairwise_cons.2 ⟨fun x hx => ?_, insB_sorted d r h2 fun e he => hn e (by simp [he])⟩
   rcases List.mem_cons.1 ((insB_perm d r).subset hx) with rfl | hx
   ·cases h3 : ltB e.nm x.nm with
    | true => rfl
    | false => exact absurd (ltB_conn (by simpa using hlt) h3) (hn e (by simp))
   ·exact h1 x hx
theorem srtB_sorted : ∀ l, ApartB l → SortedB (srtB l)
 | [], _ => by simp [srtB, SortedB]
 | d :: r, h => by
  obtain ⟨h1, h2⟩ := List.pairwise_cons.1 h
  exact insB_sorted d _ (srtB_sorted r h2) fun e he => h1 e ((srtB_perm r).subset he)
inductive UO where
 | go (s : List Bd) (l : List Pr)
 | stop (e : Int) (s : List Bd)
def zipP : List Tm → List Tm → List Pr
 | a :: r, b :: q => ⟨a, b⟩ :: zipP r q
 | _, _ => []
def putB (x : ByteArray) (t : Tm) (d : Bd) : Bd := ⟨d.nm, onT [⟨x, t⟩] d.t⟩
def grtB (s : List Bd) : Bool := s.any fun d => decide (2000 < sizeL [d.t])
def uBind (lim : Bool) (s : List Bd) (l : List Pr) (x : ByteArray) (t : Tm) : UO :=
 if inB x (varsP [] (preL [t])) = true then .stop 6 s
 else if (lim && grtB (s.map (putB x t))) = true then .stop 8 s
 else .go (srtB (s.map (putB x t) ++ [⟨x, t⟩])) l
def uPair (lim : Bool) (s : List Bd) (l : List Pr) (a b : Tm) : UO :=
 if 2000 < sizeL [a] ∨ 2000 < sizeL [b] then .stop 8 s
 else if varB a.name = true then (if a.name = b.name then .go s l else uBind lim s l a.name b)
 else if varB b.name = true then uBind lim s l b.name a
 else if a.name = b.name ∧ a.args.length = b.args.length then .go s (zipP a.args b.args ++ l)
 else .stop 5 s
def uNext (lim : Bool) (s : List Bd) : List Pr → UO
 | [] => .stop 0 s
 | p :: l => uPair lim s l (onT s p.l) (onT s p.r)
theorem uNext_cons (lim : Bool) (s : List Bd) (p : Pr) (l : List Pr) : uNext lim s (p :: l) = uPair lim s l (onT s p.l) (onT s p.r) := rfl
def uRun (lim : Bool) : Nat → List Bd → List Pr → Option (Int × List Bd)
 | 0, _, _ => none
 | n + 1, s, l => match uNext lim s l with
  | .stop e s' => some (e, s')
  | .go s' l' => uRun lim n s' l'
theorem sizeL_pos (t : Tm) : 1 ≤ sizeL [t] := by
 obtain ⟨s, l⟩ := t
 simp [sizeL]
theorem onL_grow (ls : List Bd) : ∀ l : List Tm, sizeL l ≤ sizeL (onL ls l) := by
 intro l
 induction l using Tm.indL with
 | h0 => simp [onL, sizeL]
 | h s l r ihl ihr =>
  have e1 : sizeL (onL ls (⟨s, l⟩ :: r)) = sizeL [onT ls ⟨s, l⟩] + sizeL (onL ls r) := by
   rw [onL_cons]
   generalize onT ls ⟨s, l⟩ = x
   obtain ⟨s2, m⟩ := x
   simp [sizeL]
  have e2 : sizeL (⟨s, l⟩ :: r) = (1 + sizeL l) + sizeL r := by simp [sizeL]
  have h1 : 1 + sizeL l ≤ sizeL [onT ls ⟨s, l⟩] := by
   by_cases hl : l = []
   ·subst hl
    have := sizeL_pos (onT ls ⟨s, []⟩)
    simpa [sizeL] using this
   ·rw [onT_deep (Or.inl hl)]
    simp only [sizeL]
    omega
  rw [e1, e2]
  omega
theorem onT_grow (ls : List Bd) (t : Tm) : sizeL [t] ≤ sizeL [onT ls t] := by
 have h := onL_grow ls [t]
 rw [onL_cons] at h
 simpa [onL] using h
theorem grtB_perm {l k : List Bd} (h : l.Perm k) : grtB l = grtB k := by
 unfold grtB
 rw [Bool.eq_iff_iff, List.any_eq_true, List.any_eq_true]
 exact ⟨fun ⟨d, hd, e⟩ => ⟨d, h.subset hd, e⟩, fun ⟨d, hd, e⟩ => ⟨d, h.symm.subset hd, e⟩⟩
theorem grtB_put {s : List Bd} (x : ByteArray) (t : Tm) (h : grtB s = true) : grtB (s.map (putB x t)) = true := by
 unfold grtB at *
 rw [List.any_eq_true] at *
 obtain ⟨d, hd, e⟩ := h
 refine ⟨putB x t d, List.mem_map.2 ⟨d, hd, rfl⟩, ?_⟩
 have h1 := onT_grow [⟨x, t⟩] d.t
 simp only [decide_eq_true_eq] at e ⊢
 exact Nat.lt_of_lt_of_le e h1
theorem grtB_new {s : List Bd} (x : ByteArray) (t : Tm) : grtB (srtB (s.map (putB x t) ++ [⟨x, t⟩])) = (grtB (s.map (putB x t)) || decide (2000 < sizeL [t])) := by
 rw [grtB_perm (srtB_perm _)]
 unfold grtB
 rw [List.any_append]
 simp
theorem uNext_great {lim : Bool} {s s' : List Bd} {l l' : List Pr} (h : uNext lim s l = .go s' l') (hg : grtB s = true) : grtB s' = true := by
 cases l with
 | nil => cases h
 | cons p l =>
  have bind : ∀ x t, uBind lim s l x t = .go s' l' → grtB s' = true := fun x t h => by
   unfold uBind at h
   split at h
   ·cases h
   ·split at h
    ·cases h
    ·cases h
     rw [grtB_new, grtB_put x t hg]
     rfl
  rw [uNext_cons] at h
  unfold uPair at h
  generalize onT s p.l = a at h
  generalize onT s p.r = b at h
  split at h
  ·cases h
  ·split at h
   ·split at h
    ·cases h; exact hg
    ·exact bind _ _ h
   ·split at h
    ·exact bind _ _ h
    ·split at h
     ·cases h; exact hg
     ·cases h
theorem uNext_stop {lim : Bool} {s s' : List Bd} {l : List Pr} {e : Int} (h : uNext lim s l = .stop e s') : s' = s := by
 cases l with
 | nil => cases h; rfl
 | cons p l =>
  have bind : ∀ x t, uBind lim s l x t = .stop e s' → s' = s := fun x t h => by
   unfold uBind at h
   split at h
   ·cases h; rfl
   ·split at h
    ·cases h; rfl
    ·cases h
  rw [uNext_cons] at h
  unfold uPair at h
  generalize onT s p.l = a at h
  generalize onT s p.r = b at h
  split at h
  ·cases h; rfl
  ·split at h
   ·split at h
    ·cases h
    ·exact bind _ _ h
   ·split at h
    ·exact bind _ _ h
    ·split at h
     ·cases h
     ·cases h; rfl
theorem uRun_great {lim : Bool} : ∀ (n : Nat) (s : List Bd) (l : List Pr) (e : Int) (sf : List Bd), uRun lim n s l = some (e, sf) → grtB s = true → grtB sf = true
 | 0, _, _, _, _, h, _ => by cases h
 | n + 1, s, l, e, sf, h, hg => by
  rw [uRun] at h
  cases hn : uNext lim s l with
  | stop e' s' =>
   rw [hn] at h
   cases h
   rw [uNext_stop hn]; exact hg
  | go s' l' =>
   rw [hn] at h
   exact uRun_great n s' l' e sf h (uNext_great hn hg)
def CpPost (w : World) (F : Nat) (sv : Value) (t : Tm) (n : Nat) (e : Ending) (w' : World) : Prop :=
 ∃ (s' : ByteArray) (a' : Option Addr) (l' c' : Nat) (m : Int), e = .returned (.agg #[.string s', .slice a' l' c']) ∧ Blk w' F #[.int .i64 m, sv] 113 ∧ Ex F w w' ∧ (sizeL [t] ≤ n → m = (n : Int) - sizeL [t] ∧ s' = t.name ∧ l' = t.args.length ∧ Sl w' (fun b => w.heap.size ≤ b) a' t.args) ∧ (n < sizeL [t] → m = -1)
theorem fcopy_of (F : Nat) (sv : Value) (t : Tm) (n : Nat) (a : Option Addr) (c : Nat) (w : World) (hFl : F < w.heap.size) (h : Calls Tryz.prog 90 #[.pointer (some ⟨F, 0, none⟩), .agg #[.string t.name, .slice a t.args.length c], .func (.func 91) #[.pointer (some ⟨F, 0, none⟩)] #[]] ((w.alloc (.cells #[.string t.name, .slice a t.args.length c] 32)).alloc (.cells #[.string ⟨#[]⟩, .slice none 0 0] 32)) fun e w' => CpPost ((w.alloc (.cells #[.string t.name, .slice a t.args.length c] 32)).alloc (.cells #[.string ⟨#[]⟩, .slice none 0 0] 32)) F sv t n e w') :
  Calls Tryz.prog 91 #[.pointer (some ⟨F, 0, none⟩), .agg #[.string t.name, .slice a t.args.length c]] w fun e w' => CpPost w F sv t n e w' := by
 have hmf : ∀ (fn : Fn) (first cap : Array Value) (w : World), (Instr.makeFunc fn first cap).run Tryz.prog w = .ok (.func fn first cap) w := fun _ _ _ _ => rfl
 have H := hide h
 clear h
 go_enter Tryz.func91, Tryz.ntmps91
 go_wp2_with fail
 refine H.out.mono ?_
 rintro e w1 ⟨s', a', l', c', m, rfl, hF1, hx1, hy1, hn1⟩
 have R1 : Hid (Blk w1 (w.heap.size + 1) #[.string ⟨#[]⟩, .slice none 0 0] 32) := by
  have h := (Blk.new (w.alloc (.cells #[.string t.name, .slice a t.args.length c] 32)) #[.string ⟨#[]⟩, .slice none 0 0] 32).ex hx1 (by simp; omega)
  unfold Hid
  simpa using h
 have HX := hide ((((Ex.refl F w).alloc (.cells #[.string t.name, .slice a t.args.length c] 32)).alloc (.cells #[.string ⟨#[]⟩, .slice none 0 0] 32)).trans hx1)
 have HF := hide hF1
 have HY := hide hy1
 have HN := hide hn1
 clear hF1 hx1 hy1 hn1
 have r0 := R1.out.c0
 have r1 := R1.out.c1
 have rf := R1.out.frozen
 go_wp2_with fail
 refine bodyPost_ret (v := .agg #[.string s', .slice a' l' c']) (by simp [results, Tryz.results91, go_sem, World.cell?_setCell_same, World.cell?_setCell_other, r0, r1]) rfl ?_
 refine ⟨s', a', l', c', m, rfl, (HF.out.setOther _ _ (by omega)).setOther _ _ (by omega), (HX.out.setNew (by omega) _ _).setNew (by omega) _ _, fun h => ?_, HN.out⟩
 obtain ⟨h1, h2, h3, h4⟩ := HY.out h
 refine ⟨h1, h2, h3, (h4.kept fun b hb => ?_).mono fun b hb _ => by simp at hb; omega⟩
 simp at hb
 rw [Below.heap_setCell _ _ _ _ (by simp; omega), Below.heap_setCell _ _ _ _ (by simp; omega)]
theorem Sl.ex {w w' : World} {F : Nat} {X : Nat → Prop} {a : Option Addr} {l : List Tm} (h : Sl w X a l) (he : Ex F w w') (hX : ∀ b, X b → b ≠ F) : Sl w' X a l :=
 ((h.mono (Y := fun b => X b ∧ b < w.heap.size) fun b h1 h2 => ⟨h1, h2⟩).kept fun b hb => he.block b hb.2 (hX b hb.1)).mono fun b hb _ => hb.1
def KnSet (w : World) (F O : Nat) (s : ByteArray) (u : Value) (cF : Array Value) (wr : World) : Prop :=
 Ex F w wr ∧ Blk wr (w.heap.size + 1) #[.string ⟨#[]⟩, .slice none 0 0] 32 ∧ Blk wr O #[.string s, u] 32 ∧ Blk wr F cF 113 ∧ O < wr.heap.size
theorem kn_set {w wr w1 w3 : World} {F O : Nat} {s : ByteArray} {u v : Value} {cF cF' : Array Value} {o2 : Obj} (hFw : F < w.heap.size) (hO : w.heap.size + 2 ≤ O) (h : KnSet w F O s u cF wr) (hu : ∀ k, u.ownBlock = some k → O + 1 ≤ k)
  (he1 : Ex F wr w1) (hF1 : Blk w1 F cF' 113) (hg : (w1.alloc o2).grownBy w3 u.ownBlock) : KnSet w F O s v cF' (w3.setCell ⟨O, 1, none⟩ v) := by
 obtain ⟨h1, h2, h3, h4, h5⟩ := h
 have hne : ∀ b, b < O + 1 → some b ≠ u.ownBlock := fun b hb e => by have := hu b e.symm; omega
 have hs1 := he1.size
 have hs3 := hg.size
 simp at hs3
 refine ⟨(((h1.trans he1).alloc o2).grown hg (fun k hk => by have := hu k hk; omega)).setNew (by omega) _ _, ?_, ?_, ?_, by simp [World.setCell]; omega⟩
 ·exact (((h2.ex he1 (by omega)).alloc o2).grown hg (hne _ (by omega))).setOther _ _ (by omega)
 ·exact (((h3.ex he1 (by omega)).alloc o2).grown hg (hne _ (by omega))).set 1 _
 ·exact ((hF1.alloc o2).grown hg (hne _ (by omega))).setOther _ _ (by omega)
theorem kn_row {wr w1 w3 : World} {F O : Nat} {u : Value} {L : List Tm} {xs : List Value} {o2 : Obj} {s' : ByteArray} {a1 : Option Addr} {n1 c1 g cap : Nat} {t : Tm} (hFO : F < O) (hOr : O < wr.heap.size) (hrow : Row wr (O + 1) 32 (fun _ => False) u L xs)
  (he1 : Ex F wr w1) (ht : TV w1 (fun b => wr.heap.size ≤ b) (.agg #[.string s', .slice a1 n1 c1]) t)
  (hown : w3.ownsRow (O + 1) 32 2 (.slice (some ⟨g, 0, none⟩) (L.length + 1) cap) (L.length + 1) (xs ++ [.string s', .slice a1 n1 c1])) (hg : (w1.alloc o2).grownBy w3 u.ownBlock) (hat : u.ownBlock = some g ∨ g = (w1.alloc o2).heap.size) :
  Row (w3.setCell ⟨O, 1, none⟩ (.slice (some ⟨g, 0, none⟩) (L.length + 1) cap)) (O + 1) 32 (fun _ => False) (.slice (some ⟨g, 0, none⟩) (L.length + 1) cap) (L ++ [t]) (xs ++ [.string s', .slice a1 n1 c1]) := by
 obtain ⟨wm, hbm, hsm, hem⟩ := he1.mid
 have hrm := hrow.ex hem (by omega) (fun h => h)
 exact (hrm.push (w1 := w1) (w2 := w1.alloc o2) (w3 := w3) (by omega) (fun _ h => h.elim) hbm (ht.mono fun b h _ => Or.inr (by omega)) o2 rfl hown hg hat).setCell (by omega) (fun h => h) _
def KnInv (w : World) (F O : Nat) (s : ByteArray) (sv : Value) (l : List Tm) (n : Nat) (i : Value) (wr : World) : Prop :=
 ∃ (k : Nat) (u : Value), k ≤ l.length ∧ i = .int .i64 (k : Int) ∧
  ((∃ (m : Nat) (xs : List Value), (m : Int) = (n : Int) - 1 - sizeL (l.take k) ∧ KnSet w F O s u #[.int .i64 (m : Int), sv] wr ∧ Row wr (O + 1) 32 (fun _ => False) u (l.take k) xs) ∨
   (n < 1 + sizeL l ∧ KnSet w F O s u #[.int .i64 (-1), sv] wr ∧ ∃ a9 l9 c9, u = .slice a9 l9 c9))
set_option maxHeartbeats 1000000 in
theorem knotC_any (F : Nat) (sv : Value) (t : Tm) : ∀ (n : Nat) (v : Value) (w : World) (X : Nat → Prop), TV w X v t → (∀ b, X b → b ≠ F) → n ≤ 1000000 → Blk w F #[.int .i64 (n : Int), sv] 113 →
  Calls Tryz.prog 90 #[.pointer (some ⟨F, 0, none⟩), v, .func (.func 91) #[.pointer (some ⟨F, 0, none⟩)] #[]] w fun e w' => CpPost w F sv t n e w' := by
 induction t using Tm.ind with
 | h s l ih =>
  intro n v w X hv hXF hn hF
  obtain ⟨a, c, rfl, hs⟩ := hv
  have IH := hide ih
  clear ih
  obtain ⟨i0, hi0, hz0, hz1, hz2⟩ := info_parts Tryz.infoTerm
  have f0 : ∀ o, (w.alloc o).cell? ⟨F, 0, none⟩ = some (.int .i64 (n : Int)) := fun o => (hF.alloc o).cell 0
  have ff : ∀ o, (w.alloc o).frozen? ⟨F, 0, none⟩ = false := fun o => (hF.alloc o).frozen 0
  have hFl : F < w.heap.size := hF.lt
  go_enter Tryz.func90, Tryz.ntmps90
  go_wp2_with fail
  have E3 : Hid (KnSet w F (w.heap.size + 1 + 1) s (.slice none 0 0) #[.int .i64 ((n : Int) - 1), sv] ((((w.setCell ⟨F, 0, none⟩ (.int .i64 ((n : Int) - 1))).alloc (.cells #[.string s, .slice a l.length c] 32)).alloc (.cells #[.string ⟨#[]⟩, .slice none 0 0] 32)).alloc (.cells #[.string s, .slice none 0 0] 32))) := by
   refine ⟨((((Ex.refl F w).set 0 _).alloc _).alloc _).alloc _, ?_, ?_, (((hF.set 0 _).alloc _).alloc _).alloc _, by simp [World.setCell]⟩
   ·have h := (Blk.new ((w.setCell ⟨F, 0, none⟩ (.int .i64 ((n : Int) - 1))).alloc (.cells #[.string s, .slice a l.length c] 32)) #[.string ⟨#[]⟩, .slice none 0 0] 32).alloc (.cells #[.string s, .slice none 0 0] 32)
    simpa [World.setCell] using h
   ·have h := Blk.new (((w.setCell ⟨F, 0, none⟩ (.int .i64 ((n : Int) - 1))).alloc (.cells #[.string s, .slice a l.length c] 32)).alloc (.cells #[.string ⟨#[]⟩, .slice none 0 0] 32)) #[.string s, .slice none 0 0] 32
    simpa [World.setCell] using h
  generalize ((((w.setCell ⟨F, 0, none⟩ (.int .i64 ((n : Int) - 1))).alloc (.cells #[.string s, .slice a l.length c] 32)).alloc (.cells #[.string ⟨#[]⟩, .slice none 0 0] 32)).alloc (.cells #[.string s, .slice none 0 0] 32)) = w3 at *
  generalize hOe : w.heap.size + 1 + 1 = O at *
  have hO : w.heap.size + 2 ≤ O := by omega
  clear hOe
  clear f0 ff
  have HS := hide hs
  have hl := hs.1
  have HXF := hide hXF
  have hz : sizeL [(⟨s, l⟩ : Tm)] = 1 + sizeL l := by simp [sizeL]
  clear hs hXF
  go_loopw [23] (fun i wr => KnInv w F O s sv l n i wr) (fun i wr => l.length - (intOf i).toNat)
  case atStart =>
   refine ⟨0, .slice none 0 0, Nat.zero_le _, rfl, ?_⟩
   by_cases hn0 : n = 0
   ·subst hn0
    exact Or.inr ⟨by omega, E3.out, none, 0, 0, rfl⟩
   ·refine Or.inl ⟨n - 1, [], by simp [sizeL]; omega, ?_, Row.start _ _ _ _⟩
    rw [show ((n - 1 : Nat) : Int) = (n : Int) - 1 by omega]
    exact E3.out
  case round =>
   obtain ⟨k, u, hk, rfl, hcase⟩ := hrel
   rcases hcase with ⟨m, xs, hm, hset, hrow⟩ | ⟨hbig, hset, a9, l9, c9, rfl⟩
   ·have XS := hide hset
    have XW := hide hrow
    have HMM := hide hm
    clear hset hrow
    by_cases hlt : k < l.length
    ·obtain ⟨b, o, a', c', rfl, d0, d1, hx⟩ := (HS.out.ex XS.out.1 HXF.out).get (Below.refl _ _) (fun _ _ h => h) k hlt
     obtain ⟨av, cv, ev, hsx⟩ := hx
     simp at ev
     obtain ⟨rfl, rfl⟩ := ev
     have hmn : m ≤ 1000000 := by omega
     have HOF : Hid (O ≠ F) := by unfold Hid; omega
     have HFO1 : Hid (F < O + 1) := by unfold Hid; omega
     have hlen := sizeL_len l
     have hsk : (l.take k).length = k := by simp; omega
     have hkn : k ≤ 1000000 := by have h1 := sizeL_len (l.take k); rw [hsk] at h1; omega
     have HL1 : Hid ((l.take k).length + 1 ≤ maxLen ∧ ((l.take k).length + 1) * 40 ≤ 140737488355328) := by unfold Hid; rw [hsk]; exact ⟨by unfold maxLen; omega, by omega⟩
     clear hsk
     have IHQ : Hid (Calls Tryz.prog 91 #[.pointer (some ⟨F, 0, none⟩), .agg #[.string l[k].name, .slice a' l[k].args.length c']] (wr.alloc (.cells #[.string l[k].name, .slice a' l[k].args.length c'] 32)).drew fun e w'' => CpPost (wr.alloc (.cells #[.string l[k].name, .slice a' l[k].args.length c'] 32)).drew F sv l[k] m e w'') := fcopy_of F sv l[k] m a' c' _ (by have := XS.out.1.size; simp; omega) (IH.out l[k] (List.getElem_mem hlt) m _ _ X ⟨a', c', rfl, ((hsx.later ((Below.refl _ _).alloc (Nat.le_refl _) (.cells #[.string l[k].name, .slice a' l[k].args.length c'] 32))).later ((Below.refl _ _).drew)).later (((Below.refl _ _).alloc (Nat.le_refl _) _).alloc (by simp) _)⟩ HXF.out hmn (by exact ((((XS.out.2.2.2.1.alloc _).drewN 1).alloc _).alloc _)))
     have f0 : ∀ o, (wr.alloc o).cell? ⟨F, 0, none⟩ = some (.int .i64 (m : Int)) := fun o => (XS.out.2.2.2.1.alloc o).cell 0
     have o1 : ∀ o, (wr.alloc o).cell? ⟨O, 1, none⟩ = some u := fun o => (XS.out.2.2.1.alloc o).cell 1
     have hm0 : ¬ (m : Int) < 0 := by omega
     by_cases hle : sizeL [l[k]] ≤ m
     ·have IHG : Hid (Calls Tryz.prog 91 #[.pointer (some ⟨F, 0, none⟩), .agg #[.string l[k].name, .slice a' l[k].args.length c']] (wr.alloc (.cells #[.string l[k].name, .slice a' l[k].args.length c'] 32)).drew fun e w'' => ∃ a1 c1, e = .returned (.agg #[.string l[k].name, .slice a1 l[k].args.length c1]) ∧ Blk w'' F #[.int .i64 ((m : Int) - sizeL [l[k]]), sv] 113 ∧ Ex F wr w'' ∧ Sl w'' (fun b => wr.heap.size ≤ b) a1 l[k].args) := IHQ.out.mono fun e w'' hp => by
       obtain ⟨s1, a1, l1, c1, m1, h1, h2, h3, h4, _⟩ := hp
       obtain ⟨rfl, rfl, rfl, h5⟩ := h4 hle
       exact ⟨a1, c1, h1, h2, (((Ex.refl F wr).alloc _).drew).trans h3, h5.mono fun b hb _ => by simp at hb; omega⟩
      clear IHQ
      go_wp2_with fail
      go_region_law (first
       | (go_simp; go_at_call 91; refine IHG.out.mono ?_; rintro e w1 ⟨a1, c1, rfl, hF1, he1, hs1⟩; have hc3 : ∀ o, (w1.alloc o).cell? ⟨O, 1, none⟩ = some u := fun o => ((Blk.ex XS.out.2.2.1 he1 HOF.out).alloc o).cell 1; have hc4 : w1.cell? ⟨O, 1, none⟩ = some u := (Blk.ex XS.out.2.2.1 he1 HOF.out).cell 1)
       | (refine step_append_lies _ rfl _ _ 30 rfl (O + 1) 32 i0 _ 2 40 Tryz.underlying30 hi0 hz0 hz1 hz2 rfl (by decide) u (l.take k).length xs rfl (by exact (Row.ex (B := F) XW.out he1 HFO1.out (fun h => h)).own.alloc _) ⟨w1.heap.size, 0, none⟩ 1 1 [.string l[k].name, .slice a1 l[k].args.length c1] rfl rfl (cell_two_new _ _ _ _) (fun x hx => by simp at hx; rcases hx with rfl | rfl <;> rfl) (by decide) HL1.out.1 HL1.out.2 (by have := he1.size; have := XS.out.2.2.2.2; simp; omega) _ rfl ?_; intro g cap w3 hown3 hgrow3 hat3 hlt3; have hB3 := hide (((Blk.ex XS.out.2.2.1 he1 HOF.out).alloc _).grown hgrow3 (XW.out.ne (Nat.lt_succ_self _))); have hc5 : w3.cell? ⟨O, 1, none⟩ = some u := hB3.out.cell 1; have hf5 := hB3.out.frozen 1))
      all_goals
       have HK := hide (kn_set (v := .slice (some ⟨g, 0, none⟩) ((l.take k).length + 1) cap) hFl hO XS.out (fun j hj => (XW.out.own.lt j hj).1) he1 hF1 hgrow3)
       have HRW := hide (kn_row (by omega) XS.out.2.2.2.2 XW.out he1 ⟨a1, c1, rfl, hs1⟩ hown3 hgrow3 hat3)
       clear hown3 hgrow3 hat3 hc3 hc4 hc5 hf5 hB3 hF1 he1 hs1 hlt3
       go_wp2_with fail
       go_roundw
       case rel =>
        have hkl : (l.take k).length = k := by simp; omega
        have h1 := HK.out
        have h2 := HRW.out
        have hmm := HMM.out
        simp only [hkl] at h1 h2
        refine ⟨k + 1, .slice (some ⟨g, 0, none⟩) (k + 1) cap, by omega, by go_num, Or.inl ⟨m - sizeL [l[k]], xs ++ [.string l[k].name, .slice a1 l[k].args.length c1], by rw [sizeL_take l k hlt]; omega, ?_, ?_⟩⟩
        ·rw [show ((m - sizeL [l[k]] : Nat) : Int) = (m : Int) - sizeL [l[k]] by omega]
         exact h1
        ·rw [List.take_succ_eq_append_getElem hlt]
         exact h2
       case measure => simp [intOf]; omega
     ·have IHG : Hid (Calls Tryz.prog 91 #[.pointer (some ⟨F, 0, none⟩), .agg #[.string l[k].name, .slice a' l[k].args.length c']] (wr.alloc (.cells #[.string l[k].name, .slice a' l[k].args.length c'] 32)).drew fun e w'' => ∃ s1 a1 l1 c1, e = .returned (.agg #[.string s1, .slice a1 l1 c1]) ∧ Blk w'' F #[.int .i64 (-1), sv] 113 ∧ Ex F wr w'') := IHQ.out.mono fun e w'' hp => by
       obtain ⟨s1, a1, l1, c1, m1, h1, h2, h3, _, h4⟩ := hp
       obtain rfl := h4 (by omega)
       exact ⟨s1, a1, l1, c1, h1, h2, (((Ex.refl F wr).alloc _).drew).trans h3⟩
      clear IHQ
      go_wp2_with fail
      go_region_law (first
       | (go_simp; go_at_call 91; refine IHG.out.mono ?_; rintro e w1 ⟨s1, a1, l1, c1, rfl, hF1, he1⟩; have hc3 : ∀ o, (w1.alloc o).cell? ⟨O, 1, none⟩ = some u := fun o => ((Blk.ex XS.out.2.2.1 he1 HOF.out).alloc o).cell 1; have hc4 : w1.cell? ⟨O, 1, none⟩ = some u := (Blk.ex XS.out.2.2.1 he1 HOF.out).cell 1)
       | (refine step_append_lies _ rfl _ _ 30 rfl (O + 1) 32 i0 _ 2 40 Tryz.underlying30 hi0 hz0 hz1 hz2 rfl (by decide) u (l.take k).length xs rfl (by exact (Row.ex (B := F) XW.out he1 HFO1.out (fun h => h)).own.alloc _) ⟨w1.heap.size, 0, none⟩ 1 1 [.string s1, .slice a1 l1 c1] rfl rfl (cell_two_new _ _ _ _) (fun x hx => by simp at hx; rcases hx with rfl | rfl <;> rfl) (by decide) HL1.out.1 HL1.out.2 (by have := he1.size; have := XS.out.2.2.2.2; simp; omega) _ rfl ?_; intro g cap w3 hown3 hgrow3 hat3 hlt3; have hB3 := hide (((Blk.ex XS.out.2.2.1 he1 HOF.out).alloc _).grown hgrow3 (XW.out.ne (Nat.lt_succ_self _))); have hc5 : w3.cell? ⟨O, 1, none⟩ = some u := hB3.out.cell 1; have hf5 := hB3.out.frozen 1))
      all_goals
       have HK := hide (kn_set (v := .slice (some ⟨g, 0, none⟩) ((l.take k).length + 1) cap) hFl hO XS.out (fun j hj => (XW.out.own.lt j hj).1) he1 hF1 hgrow3)
       clear hown3 hgrow3 hat3 hc3 hc4 hc5 hf5 hB3 hF1 he1 hlt3
       go_wp2_with fail
       go_roundw
       case rel =>
        have hkl : (l.take k).length = k := by simp; omega
        have h0 := HK.out
        have hmm := HMM.out
        simp only [hkl] at h0
        refine ⟨k + 1, .slice (some ⟨g, 0, none⟩) (k + 1) cap, by omega, by go_num, Or.inr ⟨?_, h0, _, _, _, rfl⟩⟩
        have h1 := sizeL_take l k hlt
        have h2 := sizeL_take_le l (k + 1)
        omega
       case measure => simp [intOf]; omega
    ·have htk : l.take k = l := List.take_of_length_le (by omega)
     rw [htk] at XW HMM
     obtain ⟨a9, c9, hu9, hsl9⟩ := XW.out.sl
     subst hu9
     have S9 := hide hsl9
     clear hsl9
     have r0 := XS.out.2.1.c0
     have r1 := XS.out.2.1.c1
     have rf := XS.out.2.1.frozen
     have o0 := XS.out.2.2.1.c0
     have o1 := XS.out.2.2.1.c1
     go_wp2_with fail
     refine bodyPost_ret (v := .agg #[.string s, .slice a9 l.length c9]) (by simp [results, Tryz.results90, go_sem, World.cell?_setCell_same, World.cell?_setCell_other, r0, r1]) rfl ?_
     have hmm := HMM.out
     refine ⟨s, a9, l.length, c9, m, rfl, (XS.out.2.2.2.1.setOther _ _ (by omega)).setOther _ _ (by omega), (XS.out.1.setNew (by omega) _ _).setNew (by omega) _ _, fun h => ⟨by rw [hz]; omega, rfl, rfl, (S9.out.kept fun b hb => ?_).mono fun b hb _ => ?_⟩, fun h => by omega⟩
     ·have hb' : O + 1 ≤ b := hb.elim False.elim id
      rw [Below.heap_setCell _ _ _ _ (by simp; omega), Below.heap_setCell _ _ _ _ (by simp; omega)]
     ·have hb' : O + 1 ≤ b := hb.elim False.elim id
      omega
   ·have XS := hide hset
    clear hset
    have f0 : ∀ o, (wr.alloc o).cell? ⟨F, 0, none⟩ = some (.int .i64 (-1)) := fun o => (XS.out.2.2.2.1.alloc o).cell 0
    by_cases hlt : k < l.length
    ·obtain ⟨b, o, a', c', rfl, d0, d1, hx⟩ := (HS.out.ex XS.out.1 HXF.out).get (Below.refl _ _) (fun _ _ h => h) k hlt
     clear hx
     have o0 : ∀ o, (wr.alloc o).cell? ⟨O, 0, none⟩ = some (.string s) := fun o => (XS.out.2.2.1.alloc o).cell 0
     have o1 : ∀ o, (wr.alloc o).cell? ⟨O, 1, none⟩ = some (.slice a9 l9 c9) := fun o => (XS.out.2.2.1.alloc o).cell 1
     have r0 := XS.out.2.1.c0
     have r1 := XS.out.2.1.c1
     have rf := XS.out.2.1.frozen
     have hRl : w.heap.size + 1 < wr.heap.size := XS.out.2.1.lt
     go_wp2_with fail
     refine bodyPost_ret (v := .agg #[.string s, .slice a9 l9 c9]) (by simp [results, Tryz.results90, go_sem, World.cell?_setCell_same, World.cell?_setCell_other, r0, r1, hRl, World.cell?_alloc_old]) rfl ?_
     exact ⟨s, a9, l9, c9, -1, rfl, ((XS.out.2.2.2.1.setOther _ _ (by omega)).setOther _ _ (by omega)).alloc _, ((XS.out.1.setNew (by omega) _ _).setNew (by omega) _ _).alloc _, fun h => by omega, fun _ => rfl⟩
    ·have r0 := XS.out.2.1.c0
     have r1 := XS.out.2.1.c1
     have rf := XS.out.2.1.frozen
     have o0 := XS.out.2.2.1.c0
     have o1 := XS.out.2.2.1.c1
     go_wp2_with fail
     refine bodyPost_ret (v := .agg #[.string s, .slice a9 l9 c9]) (by simp [results, Tryz.results90, go_sem, World.cell?_setCell_same, World.cell?_setCell_other, r0, r1]) rfl ?_
     exact ⟨s, a9, l9, c9, -1, rfl, (XS.out.2.2.2.1.setOther _ _ (by omega)).setOther _ _ (by omega), (XS.out.1.setNew (by omega) _ _).setNew (by omega) _ _, fun h => by omega, fun _ => rfl⟩
def Once (ls : List Bd) : Prop := ∀ k (h : k < ls.length), forT (ls.take k) ls[k].nm = none
def PairsL (w : World) (X : Nat → Prop) : List Bd → List (ByteArray × Value) → Prop
 | [], L => L = []
 | d :: r, L => ∃ a c L', L = (d.nm, .agg #[.string d.t.name, .slice a d.t.args.length c]) :: L' ∧ Sl w X a d.t.args ∧ PairsL w X r L'
theorem PairsL.imp {w w' : World} {X Y : Nat → Prop} (hs : ∀ a l, Sl w X a l → Sl w' Y a l) : ∀ {l : List Bd} {L : List (ByteArray × Value)}, PairsL w X l L → PairsL w' Y l L
 | [], L, h => h
 | d :: r, L, h => by obtain ⟨a, c, L', e, h1, h2⟩ := h; exact ⟨a, c, L', e, hs _ _ h1, PairsL.imp hs h2⟩
theorem PairsL.push {w : World} {X : Nat → Prop} {d : Bd} {a : Option Addr} {c : Nat} (hs : Sl w X a d.t.args) : ∀ {l : List Bd} {L : List (ByteArray × Value)}, PairsL w X l L → PairsL w X (l ++ [d]) (L ++ [(d.nm, .agg #[.string d.t.name, .slice a d.t.args.length c])])
 | [], L, h => by
  have e : L = [] := h
  subst e
  exact ⟨a, c, [], rfl, hs, rfl⟩
 | d' :: r, L, h => by obtain ⟨a', c', L', e, h1, h2⟩ := h; subst e; exact ⟨a', c', _, rfl, h1, PairsL.push hs h2⟩
theorem PairsL.get {w : World} {X : Nat → Prop} (n : ByteArray) : ∀ {l : List Bd} {L : List (ByteArray × Value)}, PairsL w X l L → (forT l n = none → mapGet L n = none) ∧ (∀ t, forT l n = some t → ∃ a c, mapGet L n = some (.agg #[.string t.name, .slice a t.args.length c]) ∧ Sl w X a t.args)
 | [], L, h => by
  have e : L = [] := h
  subst e
  exact ⟨fun _ => rfl, fun t h => by simp [forT] at h⟩
 | d :: r, L, h => by
  obtain ⟨a, c, L', rfl, h1, h2⟩ := h
  obtain ⟨g1, g2⟩ := PairsL.get n h2
  by_cases hd : d.nm = n
  ·refine ⟨fun h => by simp [forT, hd] at h, fun t h => ?_⟩
   rw [forT, if_pos hd] at h
   cases h
   exact ⟨a, c, by simp [mapGet, hd], h1⟩
  ·refine ⟨fun h => ?_, fun t h => ?_⟩
   ·rw [forT, if_neg hd] at h
    simp only [mapGet, hd, if_false]
    exact g1 h
   ·rw [forT, if_neg hd] at h
    simp only [mapGet, hd, if_false]
    exact g2 t h
def ByInv (w : World) (X : Nat → Prop) (ls : List Bd) (v : Value) (wr : World) : Prop := ∃ (k : Nat) (L : List (ByteArray × Value)), v = .int .i64 (k : Int) ∧ k ≤ ls.length ∧ MapAt wr w.heap.size L ∧ PairsL wr (fun b => X b ∧ b < w.heap.size) (ls.take k) L ∧ Below w.heap.size w wr
set_option maxHeartbeats 1000000 in
theorem byName_any (ls : List Bd) (ho : Once ls) (u : Value) (w : World) (X : Nat → Prop) (hu : BV w X u ls) :
  Calls Tryz.prog 48 #[u] w fun e w' => ∃ L, e = .returned (.map (some w.heap.size)) ∧ MapAt w' w.heap.size L ∧ PairsL w' (fun b => X b ∧ b < w.heap.size) ls L ∧ Below w.heap.size w w' := by
 have HU := hide hu
 obtain ⟨a, c, rfl, hl, hu2⟩ := hu
 clear hu2
 have hmm := @run_makeMap Tryz.prog
 go_enter Tryz.func48, Tryz.ntmps48
 go_wp2_with fail
 go_loopw [9] (fun v wr => ByInv w X ls v wr) (fun v wr => ls.length - (intOf v).toNat)
 case atStart => exact ⟨0, [], rfl, Nat.zero_le _, MapAt.new w, rfl, (Below.refl _ _).alloc (Nat.le_refl _) _⟩
 case round =>
  obtain ⟨k, L, rfl, hk, hM, hP, hb⟩ := hrel
  have HM := hide hM
  have HP := hide hP
  have HB := hide hb
  by_cases hlt : k < ls.length
  ·obtain ⟨b, o, a', c', rfl, d0, d1, d2, hs⟩ := ((HU.out.mono (Y := fun b => X b ∧ b < w.heap.size) fun b h1 h2 => ⟨h1, h2⟩).later hb).get k hlt
   have hlt2 : (k : Int) < (ls.length : Int) := by omega
   have HX := hide hs
   have hno := (hP.get ls[k].nm).1 (ho k hlt)
   have htk : ls.take (k + 1) = ls.take k ++ [ls[k]] := List.take_succ_eq_append_getElem hlt
   have HTK := hide htk
   have hMr := hM.lt
   clear hb hs hM hP htk
   generalize ls[k] = d at *
   obtain ⟨w2, hrun, hM2, hz2, ho2, ht2, hu2, hk2⟩ := run_put (P := Tryz.prog) (w := wr.alloc (.cells #[.string d.nm, .string d.t.name, .slice a' d.t.args.length c'] 50)) Tryz.underlying87 Tryz.underlying9 (HM.out.kept (Below.heap_alloc _ _ _ hMr)) d.nm (.agg #[.string d.t.name, .slice a' d.t.args.length c']) hno
   have HM2 := hide hM2
   have HB2 : Hid (Below w.heap.size w w2) := by
    have h0 := HB.out.alloc HB.out.size (.cells #[.string d.nm, .string d.t.name, .slice a' d.t.args.length c'] 50)
    exact ⟨ho2.trans h0.os, ht2.trans h0.tape, hu2.trans h0.output, by rw [hz2]; exact h0.size, fun j hj => (hk2 j (by omega)).trans (h0.block j hj)⟩
   have HP2 : Hid (PairsL w2 (fun b => X b ∧ b < w.heap.size) (ls.take (k + 1)) (L ++ [(d.nm, .agg #[.string d.t.name, .slice a' d.t.args.length c'])])) := by
    have hkp : ∀ q l, Sl wr (fun b => X b ∧ b < w.heap.size) q l → Sl w2 (fun b => X b ∧ b < w.heap.size) q l := fun q l h => h.kept fun j hj => (hk2 j (by have := hj.2; omega)).trans (Below.heap_alloc _ _ _ (by have := hj.2; omega))
    unfold Hid
    rw [HTK.out]
    exact PairsL.push (hkp _ _ HX.out) (HP.out.imp hkp)
   clear hM2 hz2 ho2 ht2 hu2 hk2 hno
   go_wp2_with fail
   go_roundw
   case rel => exact ⟨k + 1, _, by go_num, by omega, HM2.out, HP2.out, HB2.out⟩
   case measure => simp [intOf]; omega
  ·have htk : ls.take k = ls := List.take_of_length_le (by omega)
   rw [htk] at HP
   clear hP htk
   go_wp2_with fail
   go_ret
   exact ⟨L, rfl, HM.out, HP.out, HB.out⟩
theorem look_any (r : Nat) (w : World) :
  Calls Tryz.prog 47 #[.map (some r)] w fun e w' => e = .returned (.func (.func 72) #[] #[.pointer (some ⟨w.heap.size, 0, none⟩)]) ∧ w' = w.alloc (.cells #[.map (some r)] 87) := by
 have hmf : ∀ (fn : Fn) (first cap : Array Value) (w : World), (Instr.makeFunc fn first cap).run Tryz.prog w = .ok (.func fn first cap) w := fun _ _ _ _ => rfl
 go_enter Tryz.func47, Tryz.ntmps47
 go_wp2_with fail
 go_ret
 exact ⟨rfl, rfl⟩
set_option maxHeartbeats 1000000 in
theorem look1_any (ls : List Bd) (n : ByteArray) (B r : Nat) (L : List (ByteArray × Value)) (w : World) (X : Nat → Prop) (hB : Blk w B #[.map (some r)] 87) (hM : MapAt w r L) (hP : PairsL w X ls L) :
  Calls Tryz.prog 72 #[.string n, .pointer (some ⟨B, 0, none⟩)] w fun e w' => Below w.heap.size w w' ∧ ((∃ t a c, forT ls n = some t ∧ e = .returned (.tuple #[.agg #[.string t.name, .slice a t.args.length c], .bool true]) ∧ Sl w X a t.args) ∨ (forT ls n = none ∧ e = .returned (.tuple #[.agg #[.string ⟨#[]⟩, .slice none 0 0], .bool false]))) := by
 have c0 : ∀ o, (w.alloc o).cell? ⟨B, 0, none⟩ = some (.map (some r)) := fun o => (hB.alloc o).cell 0
 have hlt : B < w.heap.size := hB.lt
 have hz : ∀ w', (zeroValue 32).run Tryz.prog w' = .ok (.agg #[.string ⟨#[]⟩, .slice none 0 0]) w' := fun w' => Tryz.zeroValue32 w'
 have hM' := fun o : Obj => hM.kept (Below.heap_alloc w o _ hM.lt)
 cases hf : forT ls n with
 | none =>
  have hg := (hP.get n).1 hf
  have hlook : ∀ o, (Instr.lookup 87 (.map (some r)) (.string n) true).run Tryz.prog (w.alloc o) = .ok (.tuple #[.agg #[.string ⟨#[]⟩, .slice none 0 0], .bool false]) (w.alloc o) := fun o => by
   rw [run_look (P := Tryz.prog) Tryz.underlying87 Tryz.underlying9 (hz _) (hM' o) n, hg]; rfl
  have HF := hide hf
  clear hf hg hM' hP hM hB
  go_enter Tryz.func72, Tryz.ntmps72
  go_wp2_with fail
  have q0 := ((Blk.new w #[.string ⟨#[]⟩, .slice none 0 0] 32).alloc (.cells #[.string ⟨#[]⟩, .slice none 0 0] 32)).cell 0
  have q1 := ((Blk.new w #[.string ⟨#[]⟩, .slice none 0 0] 32).alloc (.cells #[.string ⟨#[]⟩, .slice none 0 0] 32)).cell 1
  simp at q0 q1
  refine bodyPost_ret (v := .tuple #[.agg #[.string ⟨#[]⟩, .slice none 0 0], .bool false]) (by simp [results, Tryz.results72, go_sem, q0, q1]) rfl ?_
  exact ⟨((Below.refl _ _).alloc (Nat.le_refl _) _).alloc (by simp) _, Or.inr ⟨by trivial, rfl⟩⟩
 | some t =>
  obtain ⟨a, c, hg, hs⟩ := (hP.get n).2 t hf
  have hlook : ∀ o, (Instr.lookup 87 (.map (some r)) (.string n) true).run Tryz.prog (w.alloc o) = .ok (.tuple #[.agg #[.string t.name, .slice a t.args.length c], .bool true]) (w.alloc o) := fun o => by
   rw [run_look (P := Tryz.prog) Tryz.underlying87 Tryz.underlying9 (hz _) (hM' o) n, hg]; rfl
  have HF := hide hf
  have HS := hide hs
  clear hf hg hs hM' hP hM hB
  go_enter Tryz.func72, Tryz.ntmps72
  go_wp2_with fail
  have q0 := ((Blk.new w #[.string t.name, .slice a t.args.length c] 32).alloc (.cells #[.string t.name, .slice a t.args.length c] 32)).cell 0
  have q1 := ((Blk.new w #[.string t.name, .slice a t.args.length c] 32).alloc (.cells #[.string t.name, .slice a t.args.length c] 32)).cell 1
  simp at q0 q1
  refine bodyPost_ret (v := .tuple #[.agg #[.string t.name, .slice a t.args.length c], .bool true]) (by simp [results, Tryz.results72, go_sem, q0, q1]) rfl ?_
  exact ⟨((Below.refl _ _).alloc (Nat.le_refl _) _).alloc (by simp) _, Or.inl ⟨t, a, c, rfl, rfl, HS.out⟩⟩
def fN (ls : List Bd) (s : ByteArray) (bs : List Tm) : Tm := if varB s = true then (match forT ls s with | some x => x | none => ⟨s, bs⟩) else ⟨s, bs⟩
def fL (ls : List Bd) : List Tm → List Tm
 | [] => []
 | ⟨s, a⟩ :: r => fN ls s (fL ls a) :: fL ls r
def fT (ls : List Bd) (t : Tm) : Tm := fN ls t.name (fL ls t.args)
def Env (w : World) (B r : Nat) (X : Nat → Prop) (ls : List Bd) (L : List (ByteArray × Value)) : Prop := Blk w B #[.map (some r)] 87 ∧ MapAt w r L ∧ PairsL w X ls L
theorem Env.ex {w w' : World} {B r F : Nat} {X : Nat → Prop} {ls : List Bd} {L : List (ByteArray × Value)} (h : Env w B r X ls L) (he : Ex F w w') (hB : B ≠ F) (hr : r ≠ F) (hX : ∀ b, X b → b ≠ F) : Env w' B r X ls L :=
 ⟨h.1.ex he hB, h.2.1.kept (he.block r h.2.1.lt hr), h.2.2.imp fun a l hs => hs.ex he hX⟩
theorem Env.later {w w' : World} {B r : Nat} {X : Nat → Prop} {ls : List Bd} {L : List (ByteArray × Value)} (h : Env w B r X ls L) (hb : Below w.heap.size w w') : Env w' B r X ls L :=
 ⟨h.1.below hb h.1.lt, h.2.1.below hb h.2.1.lt, h.2.2.imp fun a l hs => hs.later hb⟩
theorem way1 {w0 w1 : World} (h : Below w0.drew.heap.size w0.drew w1) : Below w0.heap.size w0 w1 := ((Below.refl w0.heap.size w0).drew).trans h
theorem way2 {w0 w1 : World} {o : Obj} (h : Below (w0.alloc o).drew.heap.size (w0.alloc o).drew w1) : Below w0.heap.size w0 w1 := (((Below.refl w0.heap.size w0).alloc (Nat.le_refl _) o).drew).trans (h.mono (by simp))
theorem way2b {w0 w1 : World} {cs : Array Value} {T : Nat} (h : Below (w0.alloc (.cells cs T)).drew.heap.size (w0.alloc (.cells cs T)).drew w1) : Blk w1 w0.heap.size cs T := ((Blk.new w0 cs T).drewN 1).below h (by simp)
theorem ff_end {w W w9 : World} {F : Nat} {sv : Value} {t : Tm} {n : Nat} {s' : ByteArray} {a' : Option Addr} {l' c' : Nat} {m : Int} {v0 v1 : Value} (hF : F < w.heap.size) (hW : w.heap.size + 2 ≤ W.heap.size) (h1 : Blk w9 F #[.int .i64 m, sv] 113) (hx : Ex F w w9) (hy : sizeL [t] ≤ n → m = (n : Int) - sizeL [t] ∧ s' = t.name ∧ l' = t.args.length ∧ Sl w9 (fun b => W.heap.size ≤ b) a' t.args) (hn : n < sizeL [t] → m = -1) :
  CpPost w F sv t n (.returned (.agg #[.string s', .slice a' l' c'])) ((w9.setCell ⟨w.heap.size + 1, 0, none⟩ v0).setCell ⟨w.heap.size + 1, 1, none⟩ v1) := by
 refine ⟨s', a', l', c', m, rfl, (h1.setOther _ _ (by omega)).setOther _ _ (by omega), (hx.setNew (by omega) _ _).setNew (by omega) _ _, fun h => ?_, hn⟩
 obtain ⟨e1, e2, e3, e4⟩ := hy h
 refine ⟨e1, e2, e3, (e4.kept fun b hb => ?_).mono fun b hb _ => by omega⟩
 rw [Below.heap_setCell _ _ _ _ (by simp; omega), Below.heap_setCell _ _ _ _ (by simp; omega)]
theorem Ex.ofBelow {B : Nat} {w w' : World} (h : Below w.heap.size w w') : Ex B w w' := ⟨h.os, h.tape, h.output, h.size, fun k hk _ => h.block k hk⟩
theorem two_keep {w : World} {F T b : Nat} {u v x : Value} {i j k : Nat} (h : w.cell? ⟨F, i, none⟩ = some u ∧ w.cell? ⟨T, j, none⟩ = some v) (h1 : b ≠ F) (h2 : b ≠ T) : (w.setCell ⟨b, k, none⟩ x).cell? ⟨F, i, none⟩ = some u ∧ (w.setCell ⟨b, k, none⟩ x).cell? ⟨T, j, none⟩ = some v :=
 ⟨(World.cell?_setCell_other _ _ _ _ (fun e => h1 (by injection e))).trans h.1, (World.cell?_setCell_other _ _ _ _ (fun e => h2 (by injection e))).trans h.2⟩
set_option maxHeartbeats 1000000 in
theorem ffill_of (F B r : Nat) (ls : List Bd) (L : List (ByteArray × Value)) (t : Tm) (n : Nat) (a : Option Addr) (c : Nat) (w : World) (X : Nat → Prop) (hn : n ≤ 1000000) (hXF : ∀ b, X b → b ≠ F) (hBF : B ≠ F) (hrF : r ≠ F) (hs : Sl w X a t.args) (hF : Blk w F #[.int .i64 (n : Int), .func (.func 72) #[] #[.pointer (some ⟨B, 0, none⟩)]] 113) (hE : Env w B r X ls L)
  (h : ∀ w', Sl w' X a t.args → Blk w' F #[.int .i64 (n : Int), .func (.func 72) #[] #[.pointer (some ⟨B, 0, none⟩)]] 113 → Env w' B r X ls L → Calls Tryz.prog 90 #[.pointer (some ⟨F, 0, none⟩), .agg #[.string t.name, .slice a t.args.length c], .func (.func 73) #[.pointer (some ⟨F, 0, none⟩)] #[]] w' fun e w'' => CpPost w' F (.func (.func 72) #[] #[.pointer (some ⟨B, 0, none⟩)]) ⟨t.name, fL ls t.args⟩ n e w'') :
  Calls Tryz.prog 73 #[.pointer (some ⟨F, 0, none⟩), .agg #[.string t.name, .slice a t.args.length c]] w fun e w' => CpPost w F (.func (.func 72) #[] #[.pointer (some ⟨B, 0, none⟩)]) (fT ls t) n e w' := by
 have hmf : ∀ (fn : Fn) (first cap : Array Value) (w : World), (Instr.makeFunc fn first cap).run Tryz.prog w = .ok (.func fn first cap) w := fun _ _ _ _ => rfl
 have H := hide h
 have HS := hide hs
 have HF := hide hF
 have HE := hide hE
 have hFl : F < w.heap.size := hF.lt
 clear h hs hF hE
 have HB0 := hide (((Below.refl w.heap.size w).alloc (Nat.le_refl _) (.cells #[.string t.name, .slice a t.args.length c] 32)).alloc (by simp) (.cells #[.string ⟨#[]⟩, .slice none 0 0] 32))
 have f1 : ∀ o o', ((w.alloc o).alloc o').cell? ⟨F, 1, none⟩ = some (.func (.func 72) #[] #[.pointer (some ⟨B, 0, none⟩)]) := fun o o' => ((HF.out.alloc o).alloc o').cell 1
 cases hv : varB t.name with
 | false =>
  have HV := hide hv
  have HT : Hid (fT ls t = ⟨t.name, fL ls t.args⟩) := by unfold Hid fT fN; rw [hv]; rfl
  clear hv
  go_enter Tryz.func73, Tryz.ntmps73
  go_wp2_with (go_at_call 36; refine (isVariable_all _ _).mono ?_; rintro e w' ⟨rfl, rfl⟩; rw [HV.out])
  have RW : Hid (Blk ((w.alloc (.cells #[.string t.name, .slice a t.args.length c] 32)).alloc (.cells #[.string ⟨#[]⟩, .slice none 0 0] 32)) (w.heap.size + 1) #[.string ⟨#[]⟩, .slice none 0 0] 32) := by
   have h := Blk.new (w.alloc (.cells #[.string t.name, .slice a t.args.length c] 32)) #[.string ⟨#[]⟩, .slice none 0 0] 32
   unfold Hid
   simpa using h
  have EXW := hide (((Ex.refl F w).alloc (.cells #[.string t.name, .slice a t.args.length c] 32)).alloc (.cells #[.string ⟨#[]⟩, .slice none 0 0] 32))
  have hW2 : Hid (w.heap.size + 2 ≤ ((w.alloc (.cells #[.string t.name, .slice a t.args.length c] 32)).alloc (.cells #[.string ⟨#[]⟩, .slice none 0 0] 32)).heap.size) := by unfold Hid; simp
  refine (H.out _ (HS.out.later HB0.out) (by exact (HF.out.alloc _).alloc _) (HE.out.later HB0.out)).mono ?_
  rintro e w9 ⟨s', a', l', c', m, rfl, hF1, hx1, hy1, hn1⟩
  have R9 := hide (RW.out.ex hx1 (by omega))
  have HX9 := hide (EXW.out.trans hx1)
  have HF9 := hide hF1
  have HY := hide hy1
  have HN := hide hn1
  have HSZ := hide (EXW.out.size)
  clear hF1 hx1 hy1 hn1
  have r0 := R9.out.c0
  have r1 := R9.out.c1
  have rf := R9.out.frozen
  go_wp2_with fail
  refine bodyPost_ret (v := .agg #[.string s', .slice a' l' c']) (by simp [results, Tryz.results73, go_sem, World.cell?_setCell_same, World.cell?_setCell_other, r0, r1]) rfl ?_
  rw [HT.out]
  exact ff_end (by omega) hW2.out HF9.out HX9.out HY.out HN.out
 | true =>
  have HV := hide hv
  clear hv
  have RW : Hid (Blk ((w.alloc (.cells #[.string t.name, .slice a t.args.length c] 32)).alloc (.cells #[.string ⟨#[]⟩, .slice none 0 0] 32)) (w.heap.size + 1) #[.string ⟨#[]⟩, .slice none 0 0] 32) := by
   have h := Blk.new (w.alloc (.cells #[.string t.name, .slice a t.args.length c] 32)) #[.string ⟨#[]⟩, .slice none 0 0] 32
   unfold Hid
   simpa using h
  have EXW := hide (((Ex.refl F w).alloc (.cells #[.string t.name, .slice a t.args.length c] 32)).alloc (.cells #[.string ⟨#[]⟩, .slice none 0 0] 32))
  have hW2 : Hid (w.heap.size + 2 ≤ ((w.alloc (.cells #[.string t.name, .slice a t.args.length c] 32)).alloc (.cells #[.string ⟨#[]⟩, .slice none 0 0] 32)).heap.size) := by unfold Hid; simp
  have E0 := hide (HE.out.later HB0.out)
  have F0 := hide ((HF.out.alloc (.cells #[.string t.name, .slice a t.args.length c] 32)).alloc (.cells #[.string ⟨#[]⟩, .slice none 0 0] 32))
  have S0 := hide (HS.out.later HB0.out)
  have T0 := hide ((Blk.new w #[.string t.name, .slice a t.args.length c] 32).alloc (.cells #[.string ⟨#[]⟩, .slice none 0 0] 32))
  have g1 := F0.out.cell 1
  have g0 := T0.out.cell 0
  simp only [List.getElem?_toArray, List.getElem?_cons_succ, List.getElem?_cons_zero] at g1 g0
  cases hf : forT ls t.name with
  | some x =>
   have HT : Hid (fT ls t = x) := by unfold Hid fT fN; rw [HV.out, hf]; rfl
   have LKA : Hid (∀ w', Below ((w.alloc (.cells #[.string t.name, .slice a t.args.length c] 32)).alloc (.cells #[.string ⟨#[]⟩, .slice none 0 0] 32)).heap.size ((w.alloc (.cells #[.string t.name, .slice a t.args.length c] 32)).alloc (.cells #[.string ⟨#[]⟩, .slice none 0 0] 32)) w' → Calls Tryz.prog 72 #[.string t.name, .pointer (some ⟨B, 0, none⟩)] w' fun e w'' => ∃ ax cx, e = .returned (.tuple #[.agg #[.string x.name, .slice ax x.args.length cx], .bool true]) ∧ Below w'.heap.size w' w'' ∧ Sl w'' (fun b => X b ∧ b < w.heap.size) ax x.args) := fun w' hb => by
    have E1 : Env w B r (fun b => X b ∧ b < w.heap.size) ls L := ⟨HE.out.1, HE.out.2.1, HE.out.2.2.imp fun a l hs => hs.mono fun b h1 h2 => ⟨h1, h2⟩⟩
    obtain ⟨h1, h2, h3⟩ := (E1.later HB0.out).later hb
    refine (look1_any ls t.name B r L w' _ h1 h2 h3).mono fun e w'' hp => ?_
    obtain ⟨hb2, hc⟩ := hp
    rcases hc with ⟨y, ay, cy, hy, he, hsy⟩ | ⟨hy, _⟩
    ·rw [hf] at hy; cases hy; exact ⟨ay, cy, he, hb2, hsy.later hb2⟩
    ·rw [hf] at hy; cases hy
   have HKP : Hid (∀ w', Below ((w.alloc (.cells #[.string t.name, .slice a t.args.length c] 32)).alloc (.cells #[.string ⟨#[]⟩, .slice none 0 0] 32)).heap.size ((w.alloc (.cells #[.string t.name, .slice a t.args.length c] 32)).alloc (.cells #[.string ⟨#[]⟩, .slice none 0 0] 32)) w' → w'.cell? ⟨F, 1, none⟩ = some (.func (.func 72) #[] #[.pointer (some ⟨B, 0, none⟩)]) ∧ w'.cell? ⟨w.heap.size, 0, none⟩ = some (.string t.name)) := fun w' hb => ⟨(F0.out.below hb F0.out.lt).cell 1, (T0.out.below hb T0.out.lt).cell 0⟩
   have nF : ((w.alloc (.cells #[.string t.name, .slice a t.args.length c] 32)).alloc (.cells #[.string ⟨#[]⟩, .slice none 0 0] 32)).heap.size ≠ F := by have := hW2.out; omega
   have nT : ((w.alloc (.cells #[.string t.name, .slice a t.args.length c] 32)).alloc (.cells #[.string ⟨#[]⟩, .slice none 0 0] 32)).heap.size ≠ w.heap.size := by have := hW2.out; omega
   clear hf f1
   go_enter Tryz.func73, Tryz.ntmps73
   go_wp2_with (go_at_call 36; refine (isVariable_all _ _).mono ?_; rintro e w' ⟨rfl, rfl⟩; rw [HV.out])
   generalize ((w.alloc (.cells #[.string t.name, .slice a t.args.length c] 32)).alloc (.cells #[.string ⟨#[]⟩, .slice none 0 0] 32)) = w0 at *
   go_region_held3 (fun w' => w'.cell? ⟨F, 1, none⟩ = some (.func (.func 72) #[] #[.pointer (some ⟨B, 0, none⟩)]) ∧ w'.cell? ⟨w.heap.size, 0, none⟩ = some (.string t.name)) (first | exact hS | exact ⟨g1, g0⟩ | exact two_keep hS nF nT | exact two_keep (two_keep hS nF nT) nF nT | go_keep)
    ((go_at_call 72; refine (LKA.out _ (by first | exact (Below.refl _ _).drew | exact ((Below.refl _ _).alloc (Nat.le_refl _) _).drew)).mono ?_; rintro e w1 ⟨ax, cx, rfl, hb1, hsx⟩; have HSX := hide hsx; clear hsx; (first | (have hB0 := way1 hb1; have hS := HKP.out _ hB0) | (have hB0 := way2 hb1; have xb := hide (way2b hb1); have x0 := xb.out.cell 0; have x1 := xb.out.cell 1; have xf := xb.out.frozen; have hS := HKP.out _ hB0))))
   ·generalize hz : (w1.alloc (Obj.cells #[Value.string x.name, Value.slice ax x.args.length cx] 32)) = wz at *
    have hbz : Below w0.heap.size w0 wz := by rw [← hz]; exact hB0.alloc hB0.size _
    have HSZ : Hid (Sl wz (fun b => X b ∧ b < w.heap.size) ax x.args) := by rw [← hz]; exact HSX.out.later ((Below.refl _ _).alloc (Nat.le_refl _) _)
    have q0 : wz.cell? ⟨w1.heap.size, 0, none⟩ = some (.string x.name) := by rw [← hz]; exact (Blk.new w1 _ _).cell 0
    have q1 : wz.cell? ⟨w1.heap.size, 1, none⟩ = some (.slice ax x.args.length cx) := by rw [← hz]; exact (Blk.new w1 _ _).cell 1
    have hwz : Hid (w.heap.size + 2 ≤ wz.heap.size) := Nat.le_trans hW2.out hbz.size
    have HBZ := hide hbz
    clear hbz hz
    go_wp2_with fail
    refine (knotC_any F _ x n _ wz (fun b => X b ∧ b < w.heap.size) ⟨ax, cx, rfl, HSZ.out⟩ (fun b hb => hXF b hb.1) hn (F0.out.below HBZ.out F0.out.lt)).mono ?_
    rintro e w9 ⟨s', a', l', c', m, rfl, hF1, hx1, hy1, hn1⟩
    have R9 := hide ((RW.out.below HBZ.out RW.out.lt).ex hx1 (by omega))
    have HX9 := hide ((EXW.out.trans (Ex.ofBelow HBZ.out)).trans hx1)
    have HF9 := hide hF1
    have HY := hide hy1
    have HN := hide hn1
    clear hF1 hx1 hy1 hn1
    have r0 := R9.out.c0
    have r1 := R9.out.c1
    have rf := R9.out.frozen
    go_wp2_with fail
    refine bodyPost_ret (v := .agg #[.string s', .slice a' l' c']) (by simp [results, Tryz.results73, go_sem, World.cell?_setCell_same, World.cell?_setCell_other, r0, r1]) rfl ?_
    rw [HT.out]
    exact ff_end (by omega) hwz.out HF9.out HX9.out HY.out HN.out
   ·generalize hz : ((w1.setCell { block := w0.heap.size, off := 0 } (Value.string x.name)).setCell { block := w0.heap.size, off := 1 } (Value.slice ax x.args.length cx)) = wz at *
    have hbz : Below w0.heap.size w0 wz := by rw [← hz]; exact (hB0.setCell (Nat.le_refl _) _).setCell (Nat.le_refl _) _
    have HSZ : Hid (Sl wz (fun b => X b ∧ b < w.heap.size) ax x.args) := by
     rw [← hz]
     refine HSX.out.kept fun b hb => ?_
     have hb2 := hb.2
     have hb3 := hW2.out
     rw [Below.heap_setCell _ _ _ _ (by simp; omega), Below.heap_setCell _ _ _ _ (by simp; omega)]
    have q0 : wz.cell? ⟨w0.heap.size, 0, none⟩ = some (.string x.name) := by rw [← hz]; simp [World.cell?_setCell_same, World.cell?_setCell_other, x0, x1]
    have q1 : wz.cell? ⟨w0.heap.size, 1, none⟩ = some (.slice ax x.args.length cx) := by rw [← hz]; simp [World.cell?_setCell_same, World.cell?_setCell_other, x0, x1]
    have hwz : Hid (w.heap.size + 2 ≤ wz.heap.size) := Nat.le_trans hW2.out hbz.size
    have HBZ := hide hbz
    clear hbz hz
    go_wp2_with fail
    refine (knotC_any F _ x n _ wz (fun b => X b ∧ b < w.heap.size) ⟨ax, cx, rfl, HSZ.out⟩ (fun b hb => hXF b hb.1) hn (F0.out.below HBZ.out F0.out.lt)).mono ?_
    rintro e w9 ⟨s', a', l', c', m, rfl, hF1, hx1, hy1, hn1⟩
    have R9 := hide ((RW.out.below HBZ.out RW.out.lt).ex hx1 (by omega))
    have HX9 := hide ((EXW.out.trans (Ex.ofBelow HBZ.out)).trans hx1)
    have HF9 := hide hF1
    have HY := hide hy1
    have HN := hide hn1
    clear hF1 hx1 hy1 hn1
    have r0 := R9.out.c0
    have r1 := R9.out.c1
    have rf := R9.out.frozen
    go_wp2_with fail
    refine bodyPost_ret (v := .agg #[.string s', .slice a' l' c']) (by simp [results, Tryz.results73, go_sem, World.cell?_setCell_same, World.cell?_setCell_other, r0, r1]) rfl ?_
    rw [HT.out]
    exact ff_end (by omega) hwz.out HF9.out HX9.out HY.out HN.out
  | none =>
   have HT : Hid (fT ls t = ⟨t.name, fL ls t.args⟩) := by unfold Hid fT fN; rw [HV.out, hf]; rfl
   have LKA : Hid (∀ w', Below ((w.alloc (.cells #[.string t.name, .slice a t.args.length c] 32)).alloc (.cells #[.string ⟨#[]⟩, .slice none 0 0] 32)).heap.size ((w.alloc (.cells #[.string t.name, .slice a t.args.length c] 32)).alloc (.cells #[.string ⟨#[]⟩, .slice none 0 0] 32)) w' → Calls Tryz.prog 72 #[.string t.name, .pointer (some ⟨B, 0, none⟩)] w' fun e w'' => e = .returned (.tuple #[.agg #[.string ⟨#[]⟩, .slice none 0 0], .bool false]) ∧ Below w'.heap.size w' w'') := fun w' hb => by
    obtain ⟨h1, h2, h3⟩ := E0.out.later hb
    refine (look1_any ls t.name B r L w' X h1 h2 h3).mono fun e w'' hp => ?_
    obtain ⟨hb2, hc⟩ := hp
    rcases hc with ⟨x, _, _, hx, _⟩ | ⟨_, he⟩
    ·rw [hf] at hx; cases hx
    ·exact ⟨he, hb2⟩
   have HKP : Hid (∀ w', Below ((w.alloc (.cells #[.string t.name, .slice a t.args.length c] 32)).alloc (.cells #[.string ⟨#[]⟩, .slice none 0 0] 32)).heap.size ((w.alloc (.cells #[.string t.name, .slice a t.args.length c] 32)).alloc (.cells #[.string ⟨#[]⟩, .slice none 0 0] 32)) w' → w'.cell? ⟨F, 1, none⟩ = some (.func (.func 72) #[] #[.pointer (some ⟨B, 0, none⟩)]) ∧ w'.cell? ⟨w.heap.size, 0, none⟩ = some (.string t.name)) := fun w' hb => ⟨(F0.out.below hb F0.out.lt).cell 1, (T0.out.below hb T0.out.lt).cell 0⟩
   have nF : ((w.alloc (.cells #[.string t.name, .slice a t.args.length c] 32)).alloc (.cells #[.string ⟨#[]⟩, .slice none 0 0] 32)).heap.size ≠ F := by have := hW2.out; omega
   have nT : ((w.alloc (.cells #[.string t.name, .slice a t.args.length c] 32)).alloc (.cells #[.string ⟨#[]⟩, .slice none 0 0] 32)).heap.size ≠ w.heap.size := by have := hW2.out; omega
   clear hf f1
   go_enter Tryz.func73, Tryz.ntmps73
   go_wp2_with (go_at_call 36; refine (isVariable_all _ _).mono ?_; rintro e w' ⟨rfl, rfl⟩; rw [HV.out])
   generalize ((w.alloc (.cells #[.string t.name, .slice a t.args.length c] 32)).alloc (.cells #[.string ⟨#[]⟩, .slice none 0 0] 32)) = w0 at *
   go_region_held3 (fun w' => w'.cell? ⟨F, 1, none⟩ = some (.func (.func 72) #[] #[.pointer (some ⟨B, 0, none⟩)]) ∧ w'.cell? ⟨w.heap.size, 0, none⟩ = some (.string t.name)) (first | exact hS | exact ⟨g1, g0⟩ | exact two_keep hS nF nT | exact two_keep (two_keep hS nF nT) nF nT | go_keep)
    ((go_at_call 72; refine (LKA.out _ (by first | exact (Below.refl _ _).drew | exact ((Below.refl _ _).alloc (Nat.le_refl _) _).drew)).mono ?_; rintro e w1 ⟨rfl, hb1⟩; (first | (have hB0 := way1 hb1; have hS := HKP.out _ hB0) | (have hB0 := way2 hb1; have xb := hide (way2b hb1); have x0 := xb.out.cell 0; have x1 := xb.out.cell 1; have xf := xb.out.frozen; have hS := HKP.out _ hB0))))
   ·generalize hz : (w1.alloc (Obj.cells #[Value.string { data := #[] }, Value.slice none 0 0] 32)) = wz at *
    have hbz : Below w0.heap.size w0 wz := by rw [← hz]; exact hB0.alloc hB0.size _
    have t0 : wz.cell? ⟨w.heap.size, 0, none⟩ = some (.string t.name) := (T0.out.below hbz T0.out.lt).cell 0
    have t1 : wz.cell? ⟨w.heap.size, 1, none⟩ = some (.slice a t.args.length c) := (T0.out.below hbz T0.out.lt).cell 1
    have hwz : Hid (w.heap.size + 2 ≤ wz.heap.size) := Nat.le_trans hW2.out hbz.size
    have HBZ := hide hbz
    clear hbz
    go_wp2_with fail
    refine (H.out _ (S0.out.later HBZ.out) (F0.out.below HBZ.out F0.out.lt) (E0.out.later HBZ.out)).mono ?_
    rintro e w9 ⟨s', a', l', c', m, rfl, hF1, hx1, hy1, hn1⟩
    have R9 := hide ((RW.out.below HBZ.out RW.out.lt).ex hx1 (by omega))
    have HX9 := hide ((EXW.out.trans (Ex.ofBelow HBZ.out)).trans hx1)
    have HF9 := hide hF1
    have HY := hide hy1
    have HN := hide hn1
    clear hF1 hx1 hy1 hn1
    have r0 := R9.out.c0
    have r1 := R9.out.c1
    have rf := R9.out.frozen
    go_wp2_with fail
    refine bodyPost_ret (v := .agg #[.string s', .slice a' l' c']) (by simp [results, Tryz.results73, go_sem, World.cell?_setCell_same, World.cell?_setCell_other, r0, r1]) rfl ?_
    rw [HT.out]
    exact ff_end (by omega) hwz.out HF9.out HX9.out HY.out HN.out
   ·generalize hz : ((w1.setCell { block := w0.heap.size, off := 0 } (Value.string { data := #[] })).setCell { block := w0.heap.size, off := 1 } (Value.slice none 0 0)) = wz at *
    have hbz : Below w0.heap.size w0 wz := by rw [← hz]; exact (hB0.setCell (Nat.le_refl _) _).setCell (Nat.le_refl _) _
    have t0 : wz.cell? ⟨w.heap.size, 0, none⟩ = some (.string t.name) := (T0.out.below hbz T0.out.lt).cell 0
    have t1 : wz.cell? ⟨w.heap.size, 1, none⟩ = some (.slice a t.args.length c) := (T0.out.below hbz T0.out.lt).cell 1
    have hwz : Hid (w.heap.size + 2 ≤ wz.heap.size) := Nat.le_trans hW2.out hbz.size
    have HBZ := hide hbz
    clear hbz
    go_wp2_with fail
    refine (H.out _ (S0.out.later HBZ.out) (F0.out.below HBZ.out F0.out.lt) (E0.out.later HBZ.out)).mono ?_
    rintro e w9 ⟨s', a', l', c', m, rfl, hF1, hx1, hy1, hn1⟩
    have R9 := hide ((RW.out.below HBZ.out RW.out.lt).ex hx1 (by omega))
    have HX9 := hide ((EXW.out.trans (Ex.ofBelow HBZ.out)).trans hx1)
    have HF9 := hide hF1
    have HY := hide hy1
    have HN := hide hn1
    clear hF1 hx1 hy1 hn1
    have r0 := R9.out.c0
    have r1 := R9.out.c1
    have rf := R9.out.frozen
    go_wp2_with fail
    refine bodyPost_ret (v := .agg #[.string s', .slice a' l' c']) (by simp [results, Tryz.results73, go_sem, World.cell?_setCell_same, World.cell?_setCell_other, r0, r1]) rfl ?_
    rw [HT.out]
    exact ff_end (by omega) hwz.out HF9.out HX9.out HY.out HN.out
end Go.Proofs.YtbnmlkaejdpigaaGreatDoor
