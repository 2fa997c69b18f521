/- Several texts in one. -/
import Derived.Deep.RegionHeld3
import Derived.WalkKit
import Derived.WalkSpells
import Derived.WalkLawsBesides
import Derived.Test.YthnncjgjmohinaaGreatDoorRows
import Derived.BigQuiet
import Derived.Deep.RegionHeld
import Derived.Deep.AppendLies
import Derived.Deep.DeepCutAuto
import Derived.WideMake
import Derived.Lib.ItoaNum
import Derived.Deep.RegionLaw
namespace Go.Proofs.YthnncjgjmohinaaGreatDoor
theorem sqA : type_of% @List.setIfInBounds_toArray := @List.setIfInBounds_toArray
theorem sqB : type_of% @List.set_cons_zero := @List.set_cons_zero
theorem sqC : type_of% @List.set_cons_succ := @List.set_cons_succ
theorem sqD : type_of% @List.getElem_toArray := @List.getElem_toArray
theorem sqE : type_of% @List.getElem_cons_succ := @List.getElem_cons_succ
theorem sqF : type_of% @List.getElem_cons_zero := @List.getElem_cons_zero
theorem sq {α : Type} : (∀ (l : List α) (i : Nat) (a : α), l.toArray.setIfInBounds i a = (l.set i a).toArray) ∧ (∀ (x y : α) (l : List α), (x :: l).set 0 y = y :: l) ∧ (∀ (x y : α) (l : List α) (i : Nat), (x :: l).set (i + 1) y = x :: l.set i y) ∧
    (∀ (l : List α) (i : Nat) (h : i < l.toArray.size), l.toArray[i] = l[i]'(by simpa using h)) ∧ (∀ (a : α) (l : List α) (i : Nat) (h : i + 1 < (a :: l).length), (a :: l)[i + 1] = l[i]'(Nat.lt_of_succ_lt_succ h)) ∧ ∀ (a : α) (l : List α) (h : 0 < (a :: l).length), (a :: l)[0] = a :=
  ⟨fun _ _ _ => List.setIfInBounds_toArray .., fun _ _ _ => rfl, fun _ _ _ _ => rfl, fun _ _ _ => List.getElem_toArray .., fun _ _ _ _ => rfl, fun _ _ _ => rfl⟩
theorem tkq {P : Program} {ops : Array Oper} {Q : Exit → Act → World → Prop} {md : Region.Mode} {S : World → Prop} {oi : Oper} {v : Value} {fuel : Nat} {listed : Array Bool} {a : Act} {w : World} (i : Nat) (hi : ops[i]? = some oi)
    (hy : ∀ w, S w → (execOp a.eval oi).run P w = .ok (.value v) w) (h : wpAnyH P md ops Q S fuel (listed.setIfInBounds i true) (a.put oi.dst v) w)
    (hs : Region.noSelect ops = true := by kernel_rfl) (hf : Region.free md ops listed i = true := by kernel_rfl) (hr : (Region.ready md ops listed).contains i = true := by kernel_rfl)
    (hQ : ∀ c a w, Q (.panic c) (a.put oi.dst v) w → Q (.panic c) a w := by exact fun _ _ _ h => h) (hw : Region.wanted oi (yielded ops a.tmps) = true := by rfl) (hS : S w := by assumption) : wpAnyH P md ops Q S (fuel + 1) listed a w :=
  wpAnyH_take hi hs hf hr hQ (Or.inl ⟨hw, hy⟩) hS h
theorem rdq {P : Program} {ops : Array Oper} {Q : Exit → Act → World → Prop} {md : Region.Mode} {S : World → Prop} {fuel : Nat} {listed : Array Bool} {a : Act} {w : World} (i : Nat) {o : Oper} (ho : ops[i]? = some o)
    (h : ∀ K' : Act → World → Prop, Shut (∀ a w, S w → (S w → wpAnyH P md ops Q S fuel (listed.setIfInBounds i true) a w) → K' a w) → if Region.wanted o (yielded ops a.tmps) = true then Oper.wp P o a w K' Q else K' (a.put o.dst undef) w)
    (hr : Region.ready md ops listed = [i] := by kernel_rfl) : wpAnyH P md ops Q S (fuel + 1) listed a w :=
  wpAnyH_ready hr (by simp) (AllReadyH.cons ho h AllReadyH.nil)
open Go.RowKit
theorem hide {p : Prop} (h : p) : Hid p := h
structure Tm where
 name : ByteArray
 args : List Tm
theorem Tm.ind {P : Tm → Prop} (h : ∀ s l, (∀ x ∈ l, P x) → P ⟨s, l⟩) (t : Tm) : P t :=
 Tm.rec (motive_1 := P) (motive_2 := fun l => ∀ x ∈ l, P x) (fun s l ih => h s l ih) (fun x hx => by cases hx)
  (fun a l ha hl x hx => by
   rcases List.mem_cons.1 hx with e | e
   ·subst e; exact ha
   ·exact hl x e) t
theorem Tm.indL {P : List Tm → Prop} (h0 : P []) (h : ∀ s l r, P l → P r → P (⟨s, l⟩ :: r)) (l : List Tm) : P l :=
 Tm.rec_1 (motive_1 := fun t => P t.args) (motive_2 := P) (fun _ _ ih => ih) h0 (fun a l ha hl => by obtain ⟨s, k⟩ := a; exact h s k l ha hl) l
def sizeL : List Tm → Nat
 | [] => 0
 | ⟨_, l⟩ :: r => 1 + sizeL l + sizeL r
theorem sizeL_append (a b : List Tm) : sizeL (a ++ b) = sizeL a + sizeL b := by
 induction a with
 | nil => simp [sizeL]
 | cons t r ih => obtain ⟨s, l⟩ := t; simp only [List.cons_append, sizeL, ih]; omega
def Lies (w : World) (X : Nat → Prop) : Nat → Nat → List Tm → Prop
 | _, _, [] => True
 | b, o, ⟨s, l⟩ :: r => X b ∧ w.cell? ⟨b, o, none⟩ = some (.string s) ∧
   (∃ a c, w.cell? ⟨b, o + 1, none⟩ = some (.slice a l.length c) ∧ l.length ≤ 9223372036854775807 ∧ (l = [] ∨ ∃ b' o', a = some ⟨b', o', none⟩ ∧ Lies w X b' o' l)) ∧ Lies w X b (o + 2) r
def Sl (w : World) (X : Nat → Prop) (a : Option Addr) (l : List Tm) : Prop := l.length ≤ 9223372036854775807 ∧ (l = [] ∨ ∃ b o, a = some ⟨b, o, none⟩ ∧ Lies w X b o l)
def TV (w : World) (X : Nat → Prop) (v : Value) (t : Tm) : Prop := ∃ a c, v = .agg #[.string t.name, .slice a t.args.length c] ∧ Sl w X a t.args
theorem lies_kept {w w' : World} {X : Nat → Prop} (h : ∀ b, X b → w'.heap[b]? = w.heap[b]?) (l : List Tm) : ∀ b o, Lies w X b o l → Lies w' X b o l := by
 induction l using Tm.indL with
 | h0 => intro b o _; simp [Lies]
 | h s l r ihl ihr =>
  intro b o hl
  simp only [Lies] at hl ⊢
  obtain ⟨hx, h1, ⟨a, c, h2, h2', h3⟩, h4⟩ := hl
  refine ⟨hx, by rw [World.cell?_of_block (h b hx)]; exact h1, ⟨a, c, by rw [World.cell?_of_block (h b hx)]; exact h2, h2', ?_⟩, ihr _ _ h4⟩
  rcases h3 with h3 | ⟨b', o', h3, h5⟩
  ·exact Or.inl h3
  ·exact Or.inr ⟨b', o', h3, ihl _ _ h5⟩
theorem lies_mono {w : World} {X Y : Nat → Prop} (h : ∀ b, X b → b < w.heap.size → Y b) (l : List Tm) : ∀ b o, Lies w X b o l → Lies w Y b o l := by
 induction l using Tm.indL with
 | h0 => intro b o _; simp [Lies]
 | h s l r ihl ihr =>
  intro b o hl
  simp only [Lies] at hl ⊢
  obtain ⟨hx, h1, ⟨a, c, h2, h2', h3⟩, h4⟩ := hl
  have hb : b < w.heap.size := by
   apply Classical.byContradiction
   intro hn
   have e : w.heap[b]? = none := Array.getElem?_eq_none (by omega)
   simp [World.cell?, e] at h1
  refine ⟨h b hx hb, h1, ⟨a, c, h2, h2', ?_⟩, ihr _ _ h4⟩
  rcases h3 with h3 | ⟨b', o', h3, h5⟩
  ·exact Or.inl h3
  ·exact Or.inr ⟨b', o', h3, ihl _ _ h5⟩
theorem Sl.kept {w w' : World} {X : Nat → Prop} {a : Option Addr} {l : List Tm} (h : Sl w X a l) (hk : ∀ b, X b → w'.heap[b]? = w.heap[b]?) : Sl w' X a l := by
 obtain ⟨hl, h⟩ := h
 refine ⟨hl, ?_⟩
 rcases h with h | ⟨b, o, e, h⟩
 ·exact Or.inl h
 ·exact Or.inr ⟨b, o, e, lies_kept hk _ _ _ h⟩
theorem Sl.mono {w : World} {X Y : Nat → Prop} {a : Option Addr} {l : List Tm} (h : Sl w X a l) (hk : ∀ b, X b → b < w.heap.size → Y b) : Sl w Y a l := by
 obtain ⟨hl, h⟩ := h
 refine ⟨hl, ?_⟩
 rcases h with h | ⟨b, o, e, h⟩
 ·exact Or.inl h
 ·exact Or.inr ⟨b, o, e, lies_mono hk _ _ _ h⟩
theorem Sl.below {w w' : World} {X : Nat → Prop} {a : Option Addr} {l : List Tm} {B : Nat} (h : Sl w X a l) (hb : Below B w w') (hX : ∀ b, X b → b < w.heap.size → b < B) : Sl w' X a l := by
 have h1 : Sl w (fun b => X b ∧ b < B) a l := h.mono fun b hx hs => ⟨hx, hX b hx hs⟩
 have h2 : Sl w' (fun b => X b ∧ b < B) a l := h1.kept fun b hx => hb.block b hx.2
 exact h2.mono fun b hx _ => hx.1
theorem TV.kept {w w' : World} {X : Nat → Prop} {v : Value} {t : Tm} (h : TV w X v t) (hk : ∀ b, X b → w'.heap[b]? = w.heap[b]?) : TV w' X v t := by
 obtain ⟨a, c, e, h⟩ := h
 exact ⟨a, c, e, h.kept hk⟩
theorem TV.mono {w : World} {X Y : Nat → Prop} {v : Value} {t : Tm} (h : TV w X v t) (hk : ∀ b, X b → b < w.heap.size → Y b) : TV w Y v t := by
 obtain ⟨a, c, e, h⟩ := h
 exact ⟨a, c, e, h.mono hk⟩
theorem TV.below {w w' : World} {X : Nat → Prop} {v : Value} {t : Tm} {B : Nat} (h : TV w X v t) (hb : Below B w w') (hX : ∀ b, X b → b < w.heap.size → b < B) : TV w' X v t := by
 obtain ⟨a, c, e, h⟩ := h
 exact ⟨a, c, e, h.below hb hX⟩
theorem TV.alloc {w : World} {X : Nat → Prop} {v : Value} {t : Tm} (h : TV w X v t) (o : Obj) : TV (w.alloc o) X v t :=
 h.below ((Below.refl _ _).alloc (Nat.le_refl _) o) (fun _ _ h => h)
theorem TV.later {w w' : World} {X : Nat → Prop} {v : Value} {t : Tm} (h : TV w X v t) (hb : Below w.heap.size w w') : TV w' X v t := h.below hb (fun _ _ h => h)
theorem Sl.later {w w' : World} {X : Nat → Prop} {a : Option Addr} {l : List Tm} (h : Sl w X a l) (hb : Below w.heap.size w w') : Sl w' X a l := h.below hb (fun _ _ h => h)
theorem lies_get {w : World} {X : Nat → Prop} : ∀ (l : List Tm) (b o : Nat), Lies w X b o l → ∀ i (h : i < l.length),
  X b ∧ w.cell? ⟨b, o + i * 2, none⟩ = some (.string l[i].name) ∧ ∃ a c, w.cell? ⟨b, o + i * 2 + 1, none⟩ = some (.slice a l[i].args.length c) ∧ Sl w X a l[i].args := by
 intro l
 induction l with
 | nil => intro b o _ i h; simp at h
 | cons t r ih =>
  intro b o hl i h
  obtain ⟨s, k⟩ := t
  simp only [Lies] at hl
  obtain ⟨hx, h1, ⟨a, c, h2, h3⟩, h4⟩ := hl
  cases i with
  | zero => exact ⟨hx, h1, a, c, h2, h3⟩
  | succ i =>
   have := ih b (o + 2) h4 i (by simpa using h)
   simp only [List.getElem_cons_succ]
   rw [show o + (i + 1) * 2 = o + 2 + i * 2 by omega]
   exact this
theorem Sl.get {w wr : World} {X : Nat → Prop} {a : Option Addr} {l : List Tm} {B : Nat} (h : Sl w X a l) (hb : Below B w wr) (hX : ∀ b, X b → b < w.heap.size → b < B) (k : Nat) (hk : k < l.length) :
  ∃ b o a' c', a = some ⟨b, o, none⟩ ∧ wr.cell? ⟨b, o + k * 2, none⟩ = some (.string l[k].name) ∧ wr.cell? ⟨b, o + k * 2 + 1, none⟩ = some (.slice a' l[k].args.length c') ∧ TV wr X (.agg #[.string l[k].name, .slice a' l[k].args.length c']) l[k] := by
 have h' := h.below hb hX
 obtain ⟨_, h1⟩ := h'
 rcases h1 with h1 | ⟨b, o, e, h1⟩
 ·subst h1; simp at hk
 ·obtain ⟨_, h2, a', c', h3, h4⟩ := lies_get _ _ _ h1 k hk
  exact ⟨b, o, a', c', e, h2, h3, a', c', rfl, h4⟩
theorem bcell {W w1 : World} {B : Nat} (hb : Below B W w1) : (∀ b o, b < B → w1.cell? ⟨b, o, none⟩ = W.cell? ⟨b, o, none⟩) ∧ (∀ b o, b < B → w1.frozen? ⟨b, o, none⟩ = W.frozen? ⟨b, o, none⟩) :=
 ⟨fun b o h => hb.cell (p := ⟨b, o, none⟩) h, fun b o h => hb.frozen (p := ⟨b, o, none⟩) h⟩
theorem sizeL_take (l : List Tm) (k : Nat) (h : k < l.length) : sizeL (l.take (k + 1)) = sizeL (l.take k) + sizeL [l[k]] := by
 rw [List.take_succ_eq_append_getElem h, sizeL_append]
theorem sizeL_take_le (l : List Tm) (k : Nat) : sizeL (l.take k) ≤ sizeL l := by
 have := sizeL_append (l.take k) (l.drop k)
 rw [List.take_append_drop] at this
 omega
theorem ret_int {k : IntKind} {a b : Int} (h : a = b) : Ending.returned (.int k a) = .returned (.int k b) := by rw [h]
theorem below_box {w wr : World} {o : Obj} (hb : Below (w.heap.size + 1) (w.alloc o) wr) : Below w.heap.size w wr :=
 ((Below.refl _ _).alloc (Nat.le_refl _) _).trans (hb.mono (Nat.le_succ _))
set_option maxHeartbeats 400000 in
theorem size_any (t : Tm) : ∀ (v : Value) (most : Int) (w : World) (X : Nat → Prop), TV w X v t → 0 ≤ most → most ≤ 1000000 →
  Calls Tryz.prog 56 #[v, .int .i64 most] w fun e w' => e = .returned (.int .i64 (min (sizeL [t]) (most + 1))) ∧ Below w.heap.size w w' := by
 induction t using Tm.ind with
 | h s l ih =>
  intro v most w X hv hm0 hm1
  obtain ⟨a, c, rfl, hs⟩ := hv
  have IH := hide ih
  clear ih
  go_enter Tryz.func56, Tryz.ntmps56
  go_wp2_with fail
  go_loopw [5, 6] (fun n i wr => ∃ k : Nat, k ≤ l.length ∧ i = .int .i64 k ∧ n = .int .i64 (min (1 + sizeL (l.take k)) (most + 1)) ∧ Below (w.heap.size + 1) (w.alloc (Obj.cells #[Value.string s, Value.slice a l.length c] 48)) wr) (fun n i wr => l.length - (intOf i).toNat)
  case atStart => exact ⟨0, Nat.zero_le _, rfl, by simp [sizeL]; omega, Below.refl _ _⟩
  case round =>
   obtain ⟨k, hk, rfl, rfl, hb⟩ := hrel
   have hc := bcell hb
   have c0 : wr.cell? ⟨w.heap.size, 0, none⟩ = some (.string s) := by rw [hc.1 _ _ (by omega)]; simp
   have c1 : wr.cell? ⟨w.heap.size, 1, none⟩ = some (.slice a l.length c) := by rw [hc.1 _ _ (by omega)]; simp
   have hl := hs.1
   have hn : 0 ≤ ((1 : Int) + sizeL (l.take k)) := by omega
   by_cases hlt : k < l.length
   ·obtain ⟨b, o, a', c', rfl, d0, d1, hx⟩ := hs.get (((Below.refl _ _).alloc (Nat.le_refl _) _).trans (hb.mono (Nat.le_succ _))) (fun _ _ h => h) k hlt
    by_cases hle : 1 + (sizeL (l.take k) : Int) ≤ most
    ·have hmin : min (1 + (sizeL (l.take k) : Int)) (most + 1) = 1 + (sizeL (l.take k) : Int) := by omega
     rw [hmin]
     go_wp2_with fail
     refine (IH.out _ (List.getElem_mem hlt) _ _ _ X hx (by omega) (by omega)).mono ?_
     rintro e w1 ⟨rfl, hb1⟩
     have hsz : w.heap.size + 1 ≤ wr.heap.size := by have := hb.size; simpa using this
     have Hst := hide (sizeL_take l k hlt)
     have hm2 : 0 ≤ min ((sizeL [l[k]] : Int)) (most - (1 + (sizeL (l.take k) : Int)) + 1) := by omega
     have hm3 : min ((sizeL [l[k]] : Int)) (most - (1 + (sizeL (l.take k) : Int)) + 1) ≤ 1000001 := by omega
     go_wp2_with fail
     go_roundw
     case rel => exact ⟨k + 1, by omega, by go_num, by rw [Hst.out]; congr 1; omega, hb.trans (hb1.mono hsz)⟩
     case measure => simp [intOf]; omega
    ·have hmin : min (1 + (sizeL (l.take k) : Int)) (most + 1) = most + 1 := by omega
     rw [hmin]
     have hz : (sizeL [(⟨s, l⟩ : Tm)] : Int) = 1 + sizeL l := by simp [sizeL]
     have hle2 : sizeL (l.take k) ≤ sizeL l := sizeL_take_le l k
     have HF := hide (show (most + 1 : Int) = min (sizeL [(⟨s, l⟩ : Tm)] : Int) (most + 1) by omega)
     clear hz
     go_wp2_with fail
     go_ret
     exact ⟨ret_int HF.out, below_box hb⟩
   ·have htk : l.take k = l := List.take_of_length_le (by omega)
    rw [htk]
    have hz : (sizeL [(⟨s, l⟩ : Tm)] : Int) = 1 + sizeL l := by simp [sizeL]
    have HZ := hide hz
    clear hz
    go_wp2_with fail
    ·go_ret
     exact ⟨ret_int (by have := HZ.out; omega), below_box hb⟩
    ·go_ret
     exact ⟨ret_int (by have := HZ.out; omega), below_box hb⟩
set_option linter.unusedSimpArgs false
set_option linter.unusedVariables false
def digB (n : Int) : Bool := decide (48 ≤ n) && decide (n ≤ 57)
def capB (n : Int) : Bool := decide (65 ≤ n) && decide (n ≤ 90)
def lowB (n : Int) : Bool := decide (97 ≤ n) && decide (n ≤ 122)
def letB (n : Int) : Bool := lowB n || capB n
def alnB (n : Int) : Bool := letB n || digB n
theorem ret_bool {a b : Bool} (h : a = b) : Ending.returned (.bool a) = .returned (.bool b) := by rw [h]
set_option maxHeartbeats 400000 in
theorem isCapital_any (n : Int) (w : World) : Calls Tryz.prog 97 #[.int .u8 n] w fun e w' => e = .returned (.bool (capB n)) ∧ w' = w := by
 go_enter Tryz.func97, Tryz.ntmps97
 go_wp2_with fail
 all_goals (go_ret; refine ⟨ret_bool ?_, rfl⟩; rw [Bool.eq_iff_iff]; simp [alnB, letB, lowB, capB, digB] <;> omega)
def byteAt (s : ByteArray) (i : Nat) : Int := if h : i < s.size then (s[i].toNat : Int) else 0
theorem byteAt_of {s : ByteArray} {i : Nat} (h : i < s.size) : (s[i].toNat : Int) = byteAt s i := by simp [byteAt, h]
def varB (s : ByteArray) : Bool := capB (byteAt s 0)
def alnTo (s : ByteArray) (k : Nat) : Bool := (List.range k).all fun i => alnB (byteAt s i)
def nameB (s : ByteArray) : Bool := decide (1 ≤ s.size) && decide (s.size ≤ 8) && !digB (byteAt s 0) && alnTo s s.size
theorem isEmpty_pos {s : ByteArray} (h : 0 < s.size) : s.toList.isEmpty = false := by
 rw [ByteArray.toList_eq, List.isEmpty_eq_false_iff, ← List.length_pos_iff]
 simpa using h
theorem isEmpty_zero {s : ByteArray} (h : ¬ 0 < s.size) : s.toList.isEmpty = true := by
 rw [ByteArray.toList_eq, List.isEmpty_iff, ← List.length_eq_zero_iff]
 have : s.size = 0 := by omega
 simpa using this
set_option maxHeartbeats 400000 in
theorem isVarR_any (s : ByteArray) (w : World) : Calls Tryz.prog 36 #[.string s] w fun e w' => e = .returned (.bool (varB s)) ∧ w' = w := by
 by_cases h : 0 < s.size
 ·have hb := hide (byteAt_of h)
  have he := isEmpty_pos h
  go_enter Tryz.func36, Tryz.ntmps36
  go_wp2_with fail
  all_goals (go_ret; refine ⟨ret_bool ?_, rfl⟩; have hb' := hb.out; rw [Bool.eq_iff_iff]; simp [varB, capB] <;> omega)
 ·have he := isEmpty_zero h
  have hv : Hid (false = varB s) := by simp [Hid, varB, byteAt, h, capB]
  go_enter Tryz.func36, Tryz.ntmps36
  go_wp2_with fail
  go_ret
  exact ⟨ret_bool hv.out, rfl⟩
set_option maxHeartbeats 400000 in
theorem isVariable_all (s : ByteArray) (w : World) : Calls Tryz.prog 82 #[.string s] w fun e w' => e = .returned (.bool (varB s)) ∧ w' = w := by
 by_cases h : 0 < s.size
 ·have hb := hide (byteAt_of h)
  have he := isEmpty_pos h
  go_enter Tryz.func82, Tryz.ntmps82
  go_wp2_with (go_at_call 97; refine (isCapital_any _ _).mono ?_; rintro e w' ⟨rfl, rfl⟩)
  go_ret
  refine ⟨ret_bool ?_, rfl⟩
  rw [hb.out]; rfl
 ·have he := isEmpty_zero h
  have hv : Hid (false = varB s) := by simp [Hid, varB, byteAt, h, capB]
  go_enter Tryz.func82, Tryz.ntmps82
  go_wp2_with fail
  go_ret
  exact ⟨ret_bool hv.out, rfl⟩
def errL : List Tm → Int
 | [] => 0
 | ⟨s, l⟩ :: r => if nameB s = true then (if (varB s && decide (0 < l.length)) = true then 2 else if errL l = 0 then errL r else errL l) else 1
theorem errL_cons (t : Tm) (r : List Tm) : errL (t :: r) = if errL [t] = 0 then errL r else errL [t] := by
 obtain ⟨s, l⟩ := t
 simp only [errL]
 split
 ·split
  ·simp
  ·split <;> simp_all
 ·simp
def mayE (t : Tm) : Int := if 200 < sizeL [t] then 3 else errL [t]
def RowT (w : World) (X : Nat → Prop) : List Tm → List Value → Prop
 | [], xs => xs = []
 | t :: l, xs => ∃ a c r, xs = .string t.name :: .slice a t.args.length c :: r ∧ Sl w X a t.args ∧ RowT w X l r
theorem RowT.len {w : World} {X : Nat → Prop} : ∀ {l : List Tm} {xs : List Value}, RowT w X l xs → xs.length = l.length * 2
 | [], xs, h => by simp [RowT] at h; simp [h]
 | t :: l, xs, h => by
  obtain ⟨a, c, r, rfl, _, h⟩ := h
  simp only [List.length_cons]
  rw [RowT.len h]; omega
theorem RowT.append {w : World} {X : Nat → Prop} : ∀ {l k : List Tm} {xs ys : List Value}, RowT w X l xs → RowT w X k ys → RowT w X (l ++ k) (xs ++ ys)
 | [], k, xs, ys, h, h' => by simp [RowT] at h; subst h; simpa using h'
 | t :: l, k, xs, ys, h, h' => by
  obtain ⟨a, c, r, rfl, hs, h⟩ := h
  exact ⟨a, c, r ++ ys, rfl, hs, RowT.append h h'⟩
theorem RowT.one {w : World} {X : Nat → Prop} : ∀ {l : List Tm} {xs : List Value}, RowT w X l xs → ∀ u ∈ xs, u.oneCell' = true
 | [], xs, h, u, hu => by simp [RowT] at h; subst h; cases hu
 | t :: l, xs, h, u, hu => by
  obtain ⟨a, c, r, rfl, _, h⟩ := h
  rcases List.mem_cons.1 hu with e | hu
  ·subst e; rfl
  ·rcases List.mem_cons.1 hu with e | hu
   ·subst e; rfl
   ·exact RowT.one h u hu
theorem RowT.imp {w w' : World} {X Y : Nat → Prop} (hs : ∀ a l, Sl w X a l → Sl w' Y a l) : ∀ {l : List Tm} {xs : List Value}, RowT w X l xs → RowT w' Y l xs
 | [], xs, h => h
 | t :: l, xs, h => by
  obtain ⟨a, c, r, e, h1, h⟩ := h
  exact ⟨a, c, r, e, hs _ _ h1, RowT.imp hs h⟩
theorem RowT.get {w : World} {X : Nat → Prop} : ∀ {l : List Tm} {xs : List Value}, RowT w X l xs → ∀ i (h : i < l.length),
  xs[i * 2]? = some (.string l[i].name) ∧ ∃ a c, xs[i * 2 + 1]? = some (.slice a l[i].args.length c) ∧ Sl w X a l[i].args
 | [], xs, h, i, hi => by simp at hi
 | t :: l, xs, h, i, hi => by
  obtain ⟨a, c, r, rfl, h1, h⟩ := h
  cases i with
  | zero => exact ⟨rfl, a, c, rfl, h1⟩
  | succ i =>
   have := RowT.get h i (by simpa using hi)
   rw [show (i + 1) * 2 = i * 2 + 2 by omega, show i * 2 + 2 + 1 = (i * 2 + 1) + 2 by omega]
   simpa using this
theorem sizeL_len (l : List Tm) : l.length ≤ sizeL l := by
 induction l with
 | nil => simp
 | cons t r ih => obtain ⟨s, k⟩ := t; simp only [List.length_cons, sizeL]; omega
theorem rowT_of_lies {w : World} {X : Nat → Prop} : ∀ (l : List Tm) (b o : Nat), Lies w X b o l → ∃ xs, RowT w X l xs ∧ ∀ j u, xs[j]? = some u → w.cell? ⟨b, o + j, none⟩ = some u := by
 intro l
 induction l with
 | nil => intro b o _; exact ⟨[], rfl, by simp⟩
 | cons t r ih =>
  intro b o h
  obtain ⟨s, k⟩ := t
  simp only [Lies] at h
  obtain ⟨hx, h1, ⟨a, c, h2, h3, h4⟩, h5⟩ := h
  obtain ⟨xs, hr, hc⟩ := ih b (o + 2) h5
  refine ⟨.string s :: .slice a k.length c :: xs, ⟨a, c, xs, rfl, ⟨h3, h4⟩, hr⟩, fun j u hj => ?_⟩
  match j, hj with
  | 0, hj => simp at hj; subst hj; exact h1
  | 1, hj => simp at hj; subst hj; exact h2
  | j + 2, hj => rw [show o + (j + 2) = o + 2 + j by omega]; exact hc j u (by simpa using hj)
theorem lies_of_rowT {w w' : World} {X Y : Nat → Prop} (b : Nat) (hb : Y b) : ∀ (l : List Tm) (xs : List Value) (o : Nat), RowT w X l xs → (∀ a k, Sl w X a k → Sl w' Y a k) → (∀ j u, xs[j]? = some u → w'.cell? ⟨b, o + j, none⟩ = some u) → Lies w' Y b o l := by
 intro l
 induction l with
 | nil => intro xs o _ _ _; simp [Lies]
 | cons t r ih =>
  intro xs o h hs hc
  obtain ⟨s, k⟩ := t
  obtain ⟨a, c, r', rfl, h1, h2⟩ := h
  simp only [Lies]
  obtain ⟨h3, h4⟩ := hs _ _ h1
  refine ⟨hb, hc 0 _ rfl, ⟨a, c, hc 1 _ rfl, h3, h4⟩, ih r' (o + 2) h2 hs fun j u hj => ?_⟩
  have := hc (j + 2) u (by simpa using hj)
  rwa [show o + (j + 2) = o + 2 + j by omega] at this
def preL : List Tm → List Tm
 | [] => []
 | ⟨s, l⟩ :: r => ⟨s, l⟩ :: (preL l ++ preL r)
theorem preL_append (a b : List Tm) : preL (a ++ b) = preL a ++ preL b := by
 induction a with
 | nil => simp [preL]
 | cons t r ih => obtain ⟨s, l⟩ := t; simp [preL, ih]
theorem preL_take (l : List Tm) (k : Nat) (h : k < l.length) : preL (l.take (k + 1)) = preL (l.take k) ++ preL [l[k]] := by
 rw [List.take_succ_eq_append_getElem h, preL_append]
theorem preL_length (l : List Tm) : (preL l).length = sizeL l := by
 induction l using Tm.indL with
 | h0 => simp [preL, sizeL]
 | h s l r ihl ihr => simp [preL, sizeL, ihl, ihr]; omega
theorem Sl.back {w w' : World} {X : Nat → Prop} {a : Option Addr} {l : List Tm} {B : Nat} (h : Sl w' X a l) (hb : Below B w w') (hX : ∀ b, X b → b < B) : Sl w X a l :=
 h.kept fun b hx => (hb.block b (hX b hx)).symm
theorem owned_val {w : World} {base e size : Nat} {v : Value} {n : Nat} {xs : List Value} (h : w.ownsRow base e size v n xs) (hn : 0 < n) :
  ∃ g cap, v = .slice (some ⟨g, 0, none⟩) n cap ∧ base ≤ g ∧ g < w.heap.size ∧ ∀ j u, xs[j]? = some u → w.cell? ⟨g, j, none⟩ = some u := by
 have h' := h
 obtain ⟨hl, h1⟩ := h
 rcases h1 with ⟨_, h0⟩ | ⟨g, cap, cur, hv, hg, hh, _⟩
 ·omega
 ·subst hv
  have hlt := (h'.lt g rfl).2
  refine ⟨g, cap, rfl, hg, hlt, fun j u hj => ?_⟩
  have := h'.cells (g := g) rfl j u hj
  by_cases h0 : j = 0
  ·subst h0; simpa [Addr.add] using this
  ·simpa [Addr.add, h0] using this
theorem wpList_append_eq {P : Program} {ops : Array Oper} {rest : List Oper} {o : Oper} {a : Act} {Q : Exit → Act → World → Prop} {w w' : World} {v u v' : Value} (hgd : o.guard = none) (s x : Operand) (t t' : TypeId)
  (ho : o.op = .call { callee := .builtin .append, args := #[s, x], argTypes := #[t, t'] }) (hs : a.eval s = v) (hx : a.eval x = u)
  (hr : (Builtin.append_ #[t, t'] o.type #[v, u]).run P w = .ok v' w') (h : wpList P ops Q rest (a.put o.dst v') w') : wpList P ops Q (o :: rest) a w :=
 wpList_plain hgd fun K hK => by
  unfold Oper.wp execOp
  simp only [ho, resolve, invoke, builtin, Sem.run_bind, Sem.run_pure, Result.andThen_ok, List.map_toArray, List.map_cons, List.map_nil, hs, hx, hr]
  exact hK _ _ h
theorem Tryz.infoTerm : (Tryz.prog.info? 48).map (fun i => (i.zero, i.size, i.bytes)) = some (some (.agg #[.string ByteArray.empty, .slice none 0 0]), 2, 40) := by kernel_rfl
theorem ownsRow_base {w : World} {base base' e size : Nat} {v : Value} {n : Nat} {xs : List Value} (h : w.ownsRow base e size v n xs) (hb : base' ≤ base) : w.ownsRow base' e size v n xs := by
 obtain ⟨h0, h1⟩ := h
 refine ⟨h0, ?_⟩
 rcases h1 with h1 | ⟨g, cap, cur, hv, hg, r⟩
 ·exact Or.inl h1
 ·exact Or.inr ⟨g, cap, cur, hv, Nat.le_trans hb hg, r⟩
set_option maxHeartbeats 400000 in
theorem knots_any (t : Tm) : ∀ (v : Value) (w : World) (X : Nat → Prop), TV w X v t → sizeL [t] ≤ 1000000 →
  Calls Tryz.prog 41 #[v] w fun e w' => ∃ v' xs, e = .returned v' ∧ w'.ownsRow w.heap.size 48 2 v' (sizeL [t]) xs ∧ RowT w X (preL [t]) xs ∧ Below w.heap.size w w' := by
 induction t using Tm.ind with
 | h s l ih =>
  intro v w X0 hv0 hsm
  obtain ⟨X, hX, hXX, hv⟩ : ∃ X : Nat → Prop, (∀ b, X b → b < w.heap.size) ∧ (∀ b, X b → X0 b) ∧ TV w X v ⟨s, l⟩ := ⟨fun b => X0 b ∧ b < w.heap.size, fun _ h => h.2, fun _ h => h.1, hv0.mono fun b h1 h2 => ⟨h1, h2⟩⟩
  clear hv0
  obtain ⟨a, c, rfl, hs⟩ := hv
  have IH := hide ih
  clear ih
  have hl := hs.1
  have hz : sizeL [(⟨s, l⟩ : Tm)] = 1 + sizeL l := by simp [sizeL]
  rw [hz] at hsm ⊢
  clear hz
  obtain ⟨i0, hi, hz0, hz1, hz2⟩ := info_parts Tryz.infoTerm
  go_enter Tryz.func41, Tryz.ntmps41
  go_wp2_with fail
  go_loopw [3, 4] (fun v i wr => ∃ (k : Nat) (xs : List Value), k ≤ l.length ∧ i = .int .i64 k ∧ wr.ownsRow (w.heap.size + 1) 48 2 v (1 + sizeL (l.take k)) xs ∧ RowT w X (⟨s, l⟩ :: preL (l.take k)) xs ∧ Below (w.heap.size + 1) (w.alloc (Obj.cells #[Value.string s, Value.slice a l.length c] 48)) wr) (fun v i wr => l.length - (intOf i).toNat)
  case atStart =>
   refine ⟨0, [.string s, .slice a l.length c], Nat.zero_le _, rfl, ⟨by simp [sizeL], Or.inr ⟨w.heap.size + 1, 1, #[.string s, .slice a l.length c], by simp [sizeL], Nat.le_refl _, ?_, by simp [sizeL], by decide, by simp, by simp [sizeL]⟩⟩, ⟨a, c, [], rfl, hs, by simp [preL, RowT]⟩, (Below.refl _ _).alloc (by simp) _⟩
   have := heap_alloc_new (w.alloc (Obj.cells #[Value.string s, Value.slice a l.length c] 48)) (Obj.cells #[Value.string s, Value.slice a l.length c] 48)
   simpa using this
  case round =>
   obtain ⟨k, xs, hk, rfl, hown, hrow, hb⟩ := hrel
   have HROW := hide hrow
   clear hrow
   have hc := bcell hb
   have c0 : wr.cell? ⟨w.heap.size, 0, none⟩ = some (.string s) := by rw [hc.1 _ _ (by omega)]; simp
   have c1 : wr.cell? ⟨w.heap.size, 1, none⟩ = some (.slice a l.length c) := by rw [hc.1 _ _ (by omega)]; simp
   clear hc
   have hsz : w.heap.size + 1 ≤ wr.heap.size := by have := hb.size; simpa using this
   by_cases hlt : k < l.length
   ·obtain ⟨b, o, a', c', rfl, d0, d1, hx⟩ := hs.get (below_box hb) (fun _ _ h => h) k hlt
    have Hst := hide (sizeL_take l k hlt)
    have hle := sizeL_take_le l (k + 1)
    have hle1 : sizeL (l.take k) + sizeL [l[k]] ≤ sizeL l := by rw [← Hst.out]; exact hle
    have hpos : 0 < sizeL [l[k]] := by generalize l[k] = t; obtain ⟨s', l'⟩ := t; simp [sizeL]; omega
    clear hle
    go_wp2_with fail
    refine (IH.out _ (List.getElem_mem hlt) _ _ X hx (by omega)).mono ?_
    rintro e w1 ⟨v1, ys, rfl, hown1, hrow1, hb1⟩
    have HROW1 : Hid (RowT w X (preL [l[k]]) ys) := hrow1.imp fun a l h => h.back (below_box hb) hX
    have hlen1 := hide hown1.1
    have hcells := hide (owned_val hown1 hpos)
    obtain ⟨g1, cap1, rfl, hg1, hg1', hcel⟩ := hcells.out
    have hownw1 : w1.ownsRow (w.heap.size + 1) 48 2 _ (1 + sizeL (l.take k)) xs := hown.kept (w' := w1) (row := none) ⟨hb1.os, hb1.tape, hb1.output, hb1.size, fun j hj _ => hb1.block j hj⟩ (by rcases Option.eq_none_or_eq_some (Value.ownBlock _) with h | ⟨x, h⟩; exact Or.inl h; exact Or.inr (by rw [h]; simp))
    have hyl : ys.length = sizeL [l[k]] * 2 := hlen1.out
    obtain ⟨v2, w2, hr2, hown2, hgr2, hnil2⟩ := run_append_own (P := Tryz.prog) w1 (w.heap.size + 1) 46 46 48 i0 _ 2 40 Tryz.underlying46 hi hz0 hz1 hz2 rfl (by decide) _ _ xs hownw1
     ⟨g1, 0, none⟩ (sizeL [l[k]]) cap1 ys hyl (fun j u hj => by
      have := hcel j u hj
      by_cases h0 : j = 0
      ·subst h0; simpa [Addr.add] using this
      ·simpa [Addr.add, h0] using this) HROW1.out.one (by unfold maxLen; omega) (by omega) (by have := hb1.size; omega)
    clear hnil2
    have hb2 : Hid (Below (w.heap.size + 1) (w.alloc (Obj.cells #[Value.string s, Value.slice (some ⟨b, o, none⟩) l.length c] 48)) w2) :=
     (hb.trans (hb1.mono hsz)).grown hgr2 (by have := hb1.size; omega) (fun j hj => (hownw1.lt j hj).1)
    have HR2 : Hid (RowT w X (⟨s, l⟩ :: preL (l.take (k + 1))) (xs ++ ys)) := by
     have := HROW.out.append HROW1.out
     unfold Hid
     rw [preL_take l k hlt]
     simpa using this
    have hown3 := hide hown2
    clear hown1 hownw1 hown2 hgr2 hcel hyl
    have HA := hide hr2
    clear hr2
    go_wp2_with (at_builtin; refine wpList_append_eq rfl _ _ _ _ rfl rfl rfl HA.out ?_)
    go_roundw
    case rel => exact ⟨k + 1, xs ++ ys, by omega, by go_num, by have := hown3.out; rw [Hst.out, ← Nat.add_assoc]; exact this, HR2.out, hb2.out⟩
    case measure => simp [intOf]; omega
   ·have htk : l.take k = l := List.take_of_length_le (by omega)
    rw [htk] at hown
    have hown3 := hide hown
    have hr3 : Hid (RowT w X0 (preL [(⟨s, l⟩ : Tm)]) xs) := by
     have := HROW.out
     rw [htk] at this
     have h2 : RowT w X0 (⟨s, l⟩ :: preL l) xs := this.imp fun a l h => h.mono fun b hb _ => hXX b hb
     unfold Hid
     simpa [preL] using h2
    clear hown
    go_wp2_with fail
    go_ret
    exact ⟨_, xs, rfl, ownsRow_base hown3.out (by omega), hr3.out, below_box hb⟩
def twoE (t x : Tm) : Int := if mayE t = 0 then mayE x else mayE t
def PV (w : World) (X : Nat → Prop) (v : Value) (zs : List Int) : Prop :=
 ∃ a c, v = .slice a zs.length c ∧ (zs.length ≤ 9223372036854775807 ∧ zs.length ≤ c) ∧ (zs = [] ∨ ∃ b o, a = some ⟨b, o, none⟩ ∧ X b ∧ ∀ i (h : i < zs.length), w.cell? ⟨b, o + i, none⟩ = some (.int .i64 zs[i]))
theorem PV.kept {w w' : World} {X : Nat → Prop} {v : Value} {zs : List Int} (h : PV w X v zs) (hk : ∀ b, X b → w'.heap[b]? = w.heap[b]?) : PV w' X v zs := by
 obtain ⟨a, c, e, hl, h⟩ := h
 refine ⟨a, c, e, hl, ?_⟩
 rcases h with h | ⟨b, o, e, hx, h⟩
 ·exact Or.inl h
 ·exact Or.inr ⟨b, o, e, hx, fun i hi => by rw [World.cell?_of_block (hk b hx)]; exact h i hi⟩
theorem PV.mono {w : World} {X Y : Nat → Prop} {v : Value} {zs : List Int} (h : PV w X v zs) (hk : ∀ b, X b → b < w.heap.size → Y b) : PV w Y v zs := by
 obtain ⟨a, c, e, hl, h⟩ := h
 refine ⟨a, c, e, hl, ?_⟩
 rcases h with h | ⟨b, o, e, hx, h⟩
 ·exact Or.inl h
 ·by_cases h0 : zs = []
  ·exact Or.inl h0
  ·have hp : 0 < zs.length := List.length_pos_iff.2 h0
   exact Or.inr ⟨b, o, e, hk b hx (World.block_lt_of_cell? w _ (h 0 hp)), h⟩
theorem PV.below {w w' : World} {X : Nat → Prop} {v : Value} {zs : List Int} {B : Nat} (h : PV w X v zs) (hb : Below B w w') (hX : ∀ b, X b → b < w.heap.size → b < B) : PV w' X v zs := by
 have h1 : PV w (fun b => X b ∧ b < B) v zs := h.mono fun b hx hs => ⟨hx, hX b hx hs⟩
 have h2 : PV w' (fun b => X b ∧ b < B) v zs := h1.kept fun b hx => hb.block b hx.2
 exact h2.mono fun b hx _ => hx.1
theorem PV.later {w w' : World} {X : Nat → Prop} {v : Value} {zs : List Int} (h : PV w X v zs) (hb : Below w.heap.size w w') : PV w' X v zs := h.below hb (fun _ _ h => h)
theorem PV.alloc {w : World} {X : Nat → Prop} {v : Value} {zs : List Int} (h : PV w X v zs) (o : Obj) : PV (w.alloc o) X v zs := h.later ((Below.refl _ _).alloc (Nat.le_refl _) o)
theorem below2 {w : World} (o1 o2 : Obj) : Below w.heap.size w ((w.alloc o1).alloc o2) := ((Below.refl _ _).alloc (Nat.le_refl _) _).alloc (by simp) _
theorem PV.tail {w : World} {X : Nat → Prop} {b o c : Nat} {z : Int} {zs : List Int} (hl : zs.length + 1 ≤ 9223372036854775807 ∧ zs.length + 1 ≤ c) (hx : X b) (h : ∀ i (h : i < (z :: zs).length), w.cell? ⟨b, o + i, none⟩ = some (.int .i64 (z :: zs)[i])) :
  PV w X (.slice (some ⟨b, o + 1, none⟩) zs.length (c - 1)) zs := by
 refine ⟨_, _, rfl, by omega, Or.inr ⟨b, o + 1, rfl, hx, fun i hi => ?_⟩⟩
 have := h (i + 1) (by simpa using hi)
 rw [show o + 1 + i = o + (i + 1) by omega]
 simpa using this
theorem TV.back {w w' : World} {X : Nat → Prop} {v : Value} {t : Tm} {B : Nat} (h : TV w' X v t) (hb : Below B w w') (hX : ∀ b, X b → b < B) : TV w X v t := by
 obtain ⟨a, c, e, h⟩ := h
 exact ⟨a, c, e, h.back hb hX⟩
theorem same_cells {w w1 : World} {n : Nat} {p1 p2 p3 p4 p5 p6 : Addr} {v1 v2 v3 v4 v5 v6 : Value} (hb : Below (w.drewN n).heap.size (w.drewN n) w1)
  (h : w.cell? p1 = some v1 ∧ w.cell? p2 = some v2 ∧ w.cell? p3 = some v3 ∧ w.cell? p4 = some v4 ∧ w.cell? p5 = some v5 ∧ w.cell? p6 = some v6) :
  w1.cell? p1 = some v1 ∧ w1.cell? p2 = some v2 ∧ w1.cell? p3 = some v3 ∧ w1.cell? p4 = some v4 ∧ w1.cell? p5 = some v5 ∧ w1.cell? p6 = some v6 := by
 have hb' : Below w.heap.size w w1 := (below_drewN (Below.refl _ _) n).trans (hb.mono (by simp))
 exact ⟨cell_later hb' h.1, cell_later hb' h.2.1, cell_later hb' h.2.2.1, cell_later hb' h.2.2.2.1, cell_later hb' h.2.2.2.2.1, cell_later hb' h.2.2.2.2.2⟩
structure Ty where
 base : Int
 subs : List Ty
theorem Ty.ind {P : Ty → Prop} (h : ∀ x l, (∀ y ∈ l, P y) → P ⟨x, l⟩) (t : Ty) : P t :=
 Ty.rec (motive_1 := P) (motive_2 := fun l => ∀ x ∈ l, P x) (fun x l ih => h x l ih) (fun x hx => by cases hx)
  (fun a l ha hl x hx => by
   rcases List.mem_cons.1 hx with e | e
   ·subst e; exact ha
   ·exact hl x e) t
theorem Ty.indL {P : List Ty → Prop} (h0 : P []) (h : ∀ x l r, P l → P r → P (⟨x, l⟩ :: r)) (l : List Ty) : P l :=
 Ty.rec_1 (motive_1 := fun t => P t.subs) (motive_2 := P) (fun _ _ ih => ih) h0 (fun a l ha hl => by obtain ⟨x, m⟩ := a; exact h x m l ha hl) l
def sizeY : List Ty → Nat
 | [] => 0
 | ⟨_, l⟩ :: r => 1 + sizeY l + sizeY r
theorem sizeY_append (a b : List Ty) : sizeY (a ++ b) = sizeY a + sizeY b := by
 induction a with
 | nil => simp [sizeY]
 | cons t r ih => obtain ⟨x, l⟩ := t; simp only [List.cons_append, sizeY, ih]; omega
theorem sizeY_take (l : List Ty) (k : Nat) (h : k < l.length) : sizeY (l.take (k + 1)) = sizeY (l.take k) + sizeY [l[k]] := by
 rw [List.take_succ_eq_append_getElem h, sizeY_append]
theorem sizeY_take_le (l : List Ty) (k : Nat) : sizeY (l.take k) ≤ sizeY l := by
 have h := sizeY_append (l.take k) (l.drop k)
 rw [List.take_append_drop] at h
 omega
def LiesY (w : World) (X : Nat → Prop) : Nat → Nat → List Ty → Prop
 | _, _, [] => True
 | b, o, ⟨x, l⟩ :: r => X b ∧ w.cell? ⟨b, o, none⟩ = some (.int .i64 x) ∧
   (∃ a c, w.cell? ⟨b, o + 1, none⟩ = some (.slice a l.length c) ∧ l.length ≤ 9223372036854775807 ∧ (l = [] ∨ ∃ b' o', a = some ⟨b', o', none⟩ ∧ LiesY w X b' o' l)) ∧ LiesY w X b (o + 2) r
def SlY (w : World) (X : Nat → Prop) (a : Option Addr) (l : List Ty) : Prop := l.length ≤ 9223372036854775807 ∧ (l = [] ∨ ∃ b o, a = some ⟨b, o, none⟩ ∧ LiesY w X b o l)
def YV (w : World) (X : Nat → Prop) (v : Value) (t : Ty) : Prop := ∃ a c, v = .agg #[.int .i64 t.base, .slice a t.subs.length c] ∧ SlY w X a t.subs
theorem liesY_kept {w w' : World} {X : Nat → Prop} (h : ∀ b, X b → w'.heap[b]? = w.heap[b]?) (l : List Ty) : ∀ b o, LiesY w X b o l → LiesY w' X b o l := by
 induction l using Ty.indL with
 | h0 => intro b o _; simp [LiesY]
 | h x l r ihl ihr =>
  intro b o hl
  simp only [LiesY] at hl ⊢
  obtain ⟨hx, h1, ⟨a, c, h2, h2', h3⟩, h4⟩ := hl
  refine ⟨hx, by rw [World.cell?_of_block (h b hx)]; exact h1, ⟨a, c, by rw [World.cell?_of_block (h b hx)]; exact h2, h2', ?_⟩, ihr _ _ h4⟩
  rcases h3 with h3 | ⟨b', o', h3, h5⟩
  ·exact Or.inl h3
  ·exact Or.inr ⟨b', o', h3, ihl _ _ h5⟩
theorem liesY_mono {w : World} {X Y : Nat → Prop} (h : ∀ b, X b → b < w.heap.size → Y b) (l : List Ty) : ∀ b o, LiesY w X b o l → LiesY w Y b o l := by
 induction l using Ty.indL with
 | h0 => intro b o _; simp [LiesY]
 | h x l r ihl ihr =>
  intro b o hl
  simp only [LiesY] at hl ⊢
  obtain ⟨hx, h1, ⟨a, c, h2, h2', h3⟩, h4⟩ := hl
  have hb : b < w.heap.size := by
   apply Classical.byContradiction
   intro hn
   have e : w.heap[b]? = none := Array.getElem?_eq_none (by omega)
   simp [World.cell?, e] at h1
  refine ⟨h b hx hb, h1, ⟨a, c, h2, h2', ?_⟩, ihr _ _ h4⟩
  rcases h3 with h3 | ⟨b', o', h3, h5⟩
  ·exact Or.inl h3
  ·exact Or.inr ⟨b', o', h3, ihl _ _ h5⟩
theorem SlY.kept {w w' : World} {X : Nat → Prop} {a : Option Addr} {l : List Ty} (h : SlY w X a l) (hk : ∀ b, X b → w'.heap[b]? = w.heap[b]?) : SlY w' X a l := by
 obtain ⟨hl, h⟩ := h
 refine ⟨hl, ?_⟩
 rcases h with h | ⟨b, o, e, h⟩
 ·exact Or.inl h
 ·exact Or.inr ⟨b, o, e, liesY_kept hk _ _ _ h⟩
theorem SlY.mono {w : World} {X Y : Nat → Prop} {a : Option Addr} {l : List Ty} (h : SlY w X a l) (hk : ∀ b, X b → b < w.heap.size → Y b) : SlY w Y a l := by
 obtain ⟨hl, h⟩ := h
 refine ⟨hl, ?_⟩
 rcases h with h | ⟨b, o, e, h⟩
 ·exact Or.inl h
 ·exact Or.inr ⟨b, o, e, liesY_mono hk _ _ _ h⟩
theorem SlY.below {w w' : World} {X : Nat → Prop} {a : Option Addr} {l : List Ty} {B : Nat} (h : SlY w X a l) (hb : Below B w w') (hX : ∀ b, X b → b < w.heap.size → b < B) : SlY w' X a l := by
 have h1 : SlY w (fun b => X b ∧ b < B) a l := h.mono fun b hx hs => ⟨hx, hX b hx hs⟩
 have h2 : SlY w' (fun b => X b ∧ b < B) a l := h1.kept fun b hx => hb.block b hx.2
 exact h2.mono fun b hx _ => hx.1
theorem YV.kept {w w' : World} {X : Nat → Prop} {v : Value} {t : Ty} (h : YV w X v t) (hk : ∀ b, X b → w'.heap[b]? = w.heap[b]?) : YV w' X v t := by
 obtain ⟨a, c, e, h⟩ := h
 exact ⟨a, c, e, h.kept hk⟩
theorem YV.mono {w : World} {X Y : Nat → Prop} {v : Value} {t : Ty} (h : YV w X v t) (hk : ∀ b, X b → b < w.heap.size → Y b) : YV w Y v t := by
 obtain ⟨a, c, e, h⟩ := h
 exact ⟨a, c, e, h.mono hk⟩
theorem YV.below {w w' : World} {X : Nat → Prop} {v : Value} {t : Ty} {B : Nat} (h : YV w X v t) (hb : Below B w w') (hX : ∀ b, X b → b < w.heap.size → b < B) : YV w' X v t := by
 obtain ⟨a, c, e, h⟩ := h
 exact ⟨a, c, e, h.below hb hX⟩
theorem YV.alloc {w : World} {X : Nat → Prop} {v : Value} {t : Ty} (h : YV w X v t) (o : Obj) : YV (w.alloc o) X v t :=
 h.below ((Below.refl _ _).alloc (Nat.le_refl _) o) (fun _ _ h => h)
theorem YV.later {w w' : World} {X : Nat → Prop} {v : Value} {t : Ty} (h : YV w X v t) (hb : Below w.heap.size w w') : YV w' X v t := h.below hb (fun _ _ h => h)
theorem SlY.later {w w' : World} {X : Nat → Prop} {a : Option Addr} {l : List Ty} (h : SlY w X a l) (hb : Below w.heap.size w w') : SlY w' X a l := h.below hb (fun _ _ h => h)
theorem liesY_get {w : World} {X : Nat → Prop} : ∀ (l : List Ty) (b o : Nat), LiesY w X b o l → ∀ i (h : i < l.length),
  X b ∧ w.cell? ⟨b, o + i * 2, none⟩ = some (.int .i64 l[i].base) ∧ ∃ a c, w.cell? ⟨b, o + i * 2 + 1, none⟩ = some (.slice a l[i].subs.length c) ∧ SlY w X a l[i].subs := by
 intro l
 induction l with
 | nil => intro b o _ i h; simp at h
 | cons t r ih =>
  intro b o hl i h
  obtain ⟨x, k⟩ := t
  simp only [LiesY] at hl
  obtain ⟨hx, h1, ⟨a, c, h2, h3⟩, h4⟩ := hl
  cases i with
  | zero => exact ⟨hx, h1, a, c, h2, h3⟩
  | succ i =>
   have := ih b (o + 2) h4 i (by simpa using h)
   simp only [List.getElem_cons_succ]
   rw [show o + (i + 1) * 2 = o + 2 + i * 2 by omega]
   exact this
theorem SlY.get {w wr : World} {X : Nat → Prop} {a : Option Addr} {l : List Ty} {B : Nat} (h : SlY w X a l) (hb : Below B w wr) (hX : ∀ b, X b → b < w.heap.size → b < B) (k : Nat) (hk : k < l.length) :
  ∃ b o a' c', a = some ⟨b, o, none⟩ ∧ wr.cell? ⟨b, o + k * 2, none⟩ = some (.int .i64 l[k].base) ∧ wr.cell? ⟨b, o + k * 2 + 1, none⟩ = some (.slice a' l[k].subs.length c') ∧ YV wr X (.agg #[.int .i64 l[k].base, .slice a' l[k].subs.length c']) l[k] := by
 have h' := h.below hb hX
 obtain ⟨_, h1⟩ := h'
 rcases h1 with h1 | ⟨b, o, e, h1⟩
 ·subst h1; simp at hk
 ·obtain ⟨_, h2, a', c', h3, h4⟩ := liesY_get _ _ _ h1 k hk
  exact ⟨b, o, a', c', e, h2, h3, a', c', rfl, h4⟩
set_option maxHeartbeats 400000 in
theorem tySize_any (t : Ty) : ∀ (v : Value) (most : Int) (w : World) (X : Nat → Prop), YV w X v t → 0 ≤ most → most ≤ 1000000 →
  Calls Tryz.prog 9 #[v, .int .i64 most] w fun e w' => e = .returned (.int .i64 (min (sizeY [t]) (most + 1))) ∧ Below w.heap.size w w' := by
 induction t using Ty.ind with
 | h ix l ih =>
  intro v most w X hv hm0 hm1
  obtain ⟨a, c, rfl, hs⟩ := hv
  have IH := hide ih
  clear ih
  go_enter Tryz.func9, Tryz.ntmps9
  go_wp2_with fail
  go_loopw [5, 6] (fun n i wr => ∃ k : Nat, k ≤ l.length ∧ i = .int .i64 k ∧ n = .int .i64 (min (1 + sizeY (l.take k)) (most + 1)) ∧ Below (w.heap.size + 1) (w.alloc (Obj.cells #[Value.int .i64 ix, Value.slice a l.length c] 30)) wr) (fun n i wr => l.length - (intOf i).toNat)
  case atStart => exact ⟨0, Nat.zero_le _, rfl, by simp [sizeY]; omega, Below.refl _ _⟩
  case round =>
   obtain ⟨k, hk, rfl, rfl, hb⟩ := hrel
   have hc := bcell hb
   have c0 : wr.cell? ⟨w.heap.size, 0, none⟩ = some (.int .i64 ix) := by rw [hc.1 _ _ (by omega)]; simp
   have c1 : wr.cell? ⟨w.heap.size, 1, none⟩ = some (.slice a l.length c) := by rw [hc.1 _ _ (by omega)]; simp
   have hl := hs.1
   have hn : 0 ≤ ((1 : Int) + sizeY (l.take k)) := by omega
   by_cases hlt : k < l.length
   ·obtain ⟨b, o, a', c', rfl, d0, d1, hx⟩ := hs.get (((Below.refl _ _).alloc (Nat.le_refl _) _).trans (hb.mono (Nat.le_succ _))) (fun _ _ h => h) k hlt
    by_cases hle : 1 + (sizeY (l.take k) : Int) ≤ most
    ·have hmin : min (1 + (sizeY (l.take k) : Int)) (most + 1) = 1 + (sizeY (l.take k) : Int) := by omega
     rw [hmin]
     go_wp2_with fail
     refine (IH.out _ (List.getElem_mem hlt) _ _ _ X hx (by omega) (by omega)).mono ?_
     rintro e w1 ⟨rfl, hb1⟩
     have hsz : w.heap.size + 1 ≤ wr.heap.size := by have := hb.size; simpa using this
     have Hst := hide (sizeY_take l k hlt)
     have hm2 : 0 ≤ min ((sizeY [l[k]] : Int)) (most - (1 + (sizeY (l.take k) : Int)) + 1) := by omega
     have hm3 : min ((sizeY [l[k]] : Int)) (most - (1 + (sizeY (l.take k) : Int)) + 1) ≤ 1000001 := by omega
     go_wp2_with fail
     go_roundw
     case rel => exact ⟨k + 1, by omega, by go_num, by rw [Hst.out]; congr 1; omega, hb.trans (hb1.mono hsz)⟩
     case measure => simp [intOf]; omega
    ·have hmin : min (1 + (sizeY (l.take k) : Int)) (most + 1) = most + 1 := by omega
     rw [hmin]
     have hz : (sizeY [(⟨ix, l⟩ : Ty)] : Int) = 1 + sizeY l := by simp [sizeY]
     have hle2 : sizeY (l.take k) ≤ sizeY l := sizeY_take_le l k
     have HF := hide (show (most + 1 : Int) = min (sizeY [(⟨ix, l⟩ : Ty)] : Int) (most + 1) by omega)
     clear hz
     go_wp2_with fail
     go_ret
     exact ⟨ret_int HF.out, below_box hb⟩
   ·have htk : l.take k = l := List.take_of_length_le (by omega)
    rw [htk]
    have hz : (sizeY [(⟨ix, l⟩ : Ty)] : Int) = 1 + sizeY l := by simp [sizeY]
    have HZ := hide hz
    clear hz
    go_wp2_with fail
    ·go_ret
     exact ⟨ret_int (by have := HZ.out; omega), below_box hb⟩
    ·go_ret
     exact ⟨ret_int (by have := HZ.out; omega), below_box hb⟩
theorem hugeTy_any (t : Ty) (v : Value) (w : World) (X : Nat → Prop) (hv : YV w X v t) :
  Calls Tryz.prog 18 #[v] w fun e w' => e = .returned (.bool (decide (3000 < sizeY [t]))) ∧ Below w.heap.size w w' := by
 obtain ⟨a, c, rfl, hs⟩ := hv
 have hv : YV w X (.agg #[.int .i64 t.base, .slice a t.subs.length c]) t := ⟨a, c, rfl, hs⟩
 go_enter Tryz.func18, Tryz.ntmps18
 go_wp2_with fail
 refine (tySize_any t _ _ _ X (hv.alloc _) (by omega) (by omega)).mono ?_
 rintro e w1 ⟨rfl, hb1⟩
 by_cases h : 3000 < sizeY [t]
 ·have e : min (sizeY [t] : Int) (3000 + 1) = 3001 := by omega
  rw [e]
  go_wp2_with fail
  go_ret
  exact ⟨by simp [h], ((Below.refl _ _).alloc (Nat.le_refl _) _).trans (hb1.mono (by simp))⟩
 ·have e : min (sizeY [t] : Int) (3000 + 1) = sizeY [t] := by omega
  rw [e]
  go_wp2_with fail
  go_ret
  exact ⟨by simp [h] <;> omega, ((Below.refl _ _).alloc (Nat.le_refl _) _).trans (hb1.mono (by simp))⟩
theorem subsY_any (ix : Int) (a : Option Addr) (n c : Nat) (w : World) :
  Calls Tryz.prog 46 #[.agg #[.int .i64 ix, .slice a n c]] w fun e w' => e = .returned (.slice a n c) ∧ w' = w.alloc (.cells #[.int .i64 ix, .slice a n c] 30) := by
 go_enter Tryz.func46, Tryz.ntmps46
 go_wp2_with fail
 go_ret
 exact ⟨rfl, rfl⟩
set_option maxHeartbeats 400000 in
theorem countOnY_any (M : Int) (hM0 : 0 ≤ M) (hM1 : M ≤ 1000000) (t : Ty) : ∀ (v : Value) (n : Int) (w : World) (X : Nat → Prop), YV w X v t → 0 ≤ n → n ≤ M →
  Calls Tryz.prog 59 #[v, .func (.func 46) #[] #[], .int .i64 M, .int .i64 n] w fun e w' => e = .returned (.int .i64 (min (n + sizeY [t]) (M + 1))) ∧ Below w.heap.size w w' := by
 induction t using Ty.ind with
 | h ix l ih =>
  intro v n w X hv hn0 hn1
  obtain ⟨a, c, rfl, hs⟩ := hv
  have IH := hide ih
  clear ih
  have hz : Hid ((sizeY [(⟨ix, l⟩ : Ty)] : Int) = 1 + sizeY l) := by simp [Hid, sizeY]
  go_enter Tryz.func59, Tryz.ntmps59
  go_wp2_with (go_at_call 46; refine (subsY_any _ _ _ _ _).mono ?_; rintro e w' ⟨rfl, rfl⟩)
  have hB0 : Hid (Below w.heap.size w ((w.alloc (Obj.cells #[Value.int .i64 ix, Value.slice a l.length c] 30)).alloc (Obj.cells #[Value.int .i64 ix, Value.slice a l.length c] 30))) := ((Below.refl _ _).alloc (Nat.le_refl _) _).alloc (by simp) _
  have hZ0 : Hid (w.heap.size + 2 ≤ ((w.alloc (Obj.cells #[Value.int .i64 ix, Value.slice a l.length c] 30)).alloc (Obj.cells #[Value.int .i64 ix, Value.slice a l.length c] 30)).heap.size) := by simp [Hid]
  generalize ((w.alloc (Obj.cells #[Value.int .i64 ix, Value.slice a l.length c] 30)).alloc (Obj.cells #[Value.int .i64 ix, Value.slice a l.length c] 30)) = w0 at *
  go_loopw [9, 18] (fun m i wr => ∃ k : Nat, k ≤ l.length ∧ i = .int .i64 k ∧ m = .int .i64 (min (n + 1 + sizeY (l.take k)) (M + 1)) ∧ Below w.heap.size w wr) (fun m i wr => l.length - (intOf i).toNat)
  case atStart => exact ⟨0, Nat.zero_le _, rfl, by rw [show sizeY (l.take 0) = 0 by simp [sizeY]]; congr 1; omega, hB0.out⟩
  case round =>
   obtain ⟨k, hk, rfl, rfl, hb⟩ := hrel
   have hl := hs.1
   have hsz : w.heap.size ≤ wr.heap.size := hb.size
   by_cases hlt : k < l.length
   ·obtain ⟨b, o, a', c', rfl, d0, d1, hx⟩ := hs.get hb (fun _ _ h => h) k hlt
    by_cases hle : n + 1 + (sizeY (l.take k) : Int) ≤ M
    ·have hmin : min (n + 1 + (sizeY (l.take k) : Int)) (M + 1) = n + 1 + (sizeY (l.take k) : Int) := by omega
     rw [hmin]
     go_wp2_with fail
     refine (IH.out _ (List.getElem_mem hlt) _ _ _ X (hx.alloc _) (by omega) (by omega)).mono ?_
     rintro e w1 ⟨rfl, hb1⟩
     have Hst := hide (sizeY_take l k hlt)
     go_wp2_with fail
     go_roundw
     case rel => exact ⟨k + 1, by omega, by go_num, by rw [Hst.out]; congr 1; omega, (hb.alloc hsz _).trans (hb1.mono (by simp; omega))⟩
     case measure => simp [intOf]; omega
    ·have hmin : min (n + 1 + (sizeY (l.take k) : Int)) (M + 1) = M + 1 := by omega
     rw [hmin]
     have hle2 : sizeY (l.take k) ≤ sizeY l := sizeY_take_le l k
     go_wp2_with fail
     go_ret
     refine ⟨ret_int (by have := hz.out; omega), ?_⟩
     exact hb.alloc (by omega) _
   ·have htk : l.take k = l := List.take_of_length_le (by omega)
    rw [htk]
    go_wp2_with fail
    go_ret
    exact ⟨ret_int (by have := hz.out; omega), hb⟩
theorem countTY_any (M : Int) (hM0 : 0 ≤ M) (hM1 : M ≤ 1000000) (t : Ty) (v : Value) (w : World) (X : Nat → Prop) (hv : YV w X v t) :
  Calls Tryz.prog 45 #[v, .func (.func 46) #[] #[], .int .i64 M] w fun e w' => e = .returned (.int .i64 (min (sizeY [t] : Int) (M + 1))) ∧ Below w.heap.size w w' := by
 obtain ⟨a, c, rfl, hs⟩ := hv
 have hv : YV w X (.agg #[.int .i64 t.base, .slice a t.subs.length c]) t := ⟨a, c, rfl, hs⟩
 go_enter Tryz.func45, Tryz.ntmps45
 go_wp2_with fail
 refine (countOnY_any M hM0 hM1 t _ _ _ X (hv.alloc _) (by omega) (by omega)).mono ?_
 rintro e w1 ⟨rfl, hb1⟩
 go_wp2_with fail
 go_ret
 exact ⟨ret_int (by omega), ((Below.refl _ _).alloc (Nat.le_refl _) _).trans (hb1.mono (by simp))⟩
def Blk (w : World) (b : Nat) (cs : Array Value) (T : Nat) : Prop := w.heap[b]? = some (.cells cs T (0, 0))
theorem Blk.lt {w : World} {b : Nat} {cs : Array Value} {T : Nat} (h : Blk w b cs T) : b < w.heap.size := by
 apply Classical.byContradiction
 intro hn
 have e : w.heap[b]? = none := Array.getElem?_eq_none (by omega)
 rw [Blk, e] at h; cases h
theorem Blk.cell {w : World} {b : Nat} {cs : Array Value} {T : Nat} (h : Blk w b cs T) (i : Nat) : w.cell? ⟨b, i, none⟩ = cs[i]? := by
 unfold Blk at h; simp [World.cell?, h]
theorem Blk.c0 {w : World} {b : Nat} {v : Value} {l : List Value} {T : Nat} (h : Blk w b (List.toArray (v :: l)) T) : w.cell? ⟨b, 0, none⟩ = some v := h.cell 0
theorem Blk.c1 {w : World} {b : Nat} {v0 v : Value} {l : List Value} {T : Nat} (h : Blk w b (List.toArray (v0 :: v :: l)) T) : w.cell? ⟨b, 1, none⟩ = some v := h.cell 1
theorem Blk.c2 {w : World} {b : Nat} {v0 v1 v : Value} {l : List Value} {T : Nat} (h : Blk w b (List.toArray (v0 :: v1 :: v :: l)) T) : w.cell? ⟨b, 2, none⟩ = some v := h.cell 2
theorem Blk.c3 {w : World} {b : Nat} {v0 v1 v2 v : Value} {l : List Value} {T : Nat} (h : Blk w b (List.toArray (v0 :: v1 :: v2 :: v :: l)) T) : w.cell? ⟨b, 3, none⟩ = some v := h.cell 3
theorem Blk.frozen {w : World} {b : Nat} {cs : Array Value} {T : Nat} (h : Blk w b cs T) (i : Nat) : w.frozen? ⟨b, i, none⟩ = false := by
 unfold Blk at h; simp [World.frozen?, h]
theorem Blk.new (w : World) (cs : Array Value) (T : Nat) : Blk (w.alloc (.cells cs T)) w.heap.size cs T := heap_alloc_new w _
theorem Blk.alloc {w : World} {b : Nat} {cs : Array Value} {T : Nat} (h : Blk w b cs T) (o : Obj) : Blk (w.alloc o) b cs T := by
 unfold Blk at *; rw [Below.heap_alloc w o b (Blk.lt h)]; exact h
theorem Blk.below {w w' : World} {b B : Nat} {cs : Array Value} {T : Nat} (h : Blk w b cs T) (hb : Below B w w') (hB : b < B) : Blk w' b cs T := by
 unfold Blk at *; rw [hb.block b hB]; exact h
theorem Blk.drewN {w : World} {b : Nat} {cs : Array Value} {T : Nat} (h : Blk w b cs T) (n : Nat) : Blk (w.drewN n) b cs T := h
theorem Blk.grown {w w' : World} {b : Nat} {cs : Array Value} {T : Nat} {row : Option Nat} (h : Blk w b cs T) (hg : w.grownBy w' row) (hr : some b ≠ row) : Blk w' b cs T := by
 unfold Blk at *; rw [hg.block b (Blk.lt h) hr]; exact h
theorem Blk.set {w : World} {b : Nat} {cs : Array Value} {T : Nat} (h : Blk w b cs T) (i : Nat) (v : Value) : Blk (w.setCell ⟨b, i, none⟩ v) b (cs.setIfInBounds i v) T := by
 unfold Blk at *
 simp [World.setCell, Array.getElem?_modify, h]
theorem Blk.setOther {w : World} {b b' : Nat} {cs : Array Value} {T : Nat} (h : Blk w b cs T) (i : Nat) (v : Value) (hne : b ≠ b') : Blk (w.setCell ⟨b', i, none⟩ v) b cs T := by
 unfold Blk at *; rw [Below.heap_setCell _ _ _ _ (by simpa using hne)]; exact h
structure Row (w : World) (N : Nat) (T : Nat) (Y : Nat → Prop) (v : Value) (l : List Tm) (xs : List Value) : Prop where
 own : w.ownsRow N T 2 v l.length xs
 row : RowT w (fun b => Y b ∨ (N ≤ b ∧ some b ≠ v.ownBlock)) l xs
theorem Row.start (w : World) (N T : Nat) (Y : Nat → Prop) : Row w N T Y (.slice none 0 0) [] [] := ⟨World.ownsRow_nil w N T 2, rfl⟩
theorem Row.below {w w' : World} {N T : Nat} {Y : Nat → Prop} {v : Value} {l : List Tm} {xs : List Value} (h : Row w N T Y v l xs) (hb : Below w.heap.size w w') : Row w' N T Y v l xs :=
 ⟨h.own.kept (w' := w') (row := none) ⟨hb.os, hb.tape, hb.output, hb.size, fun j hj _ => hb.block j hj⟩ (by rcases Option.eq_none_or_eq_some (Value.ownBlock v) with h | ⟨x, h⟩; exact Or.inl h; exact Or.inr (by rw [h]; simp)),
  h.row.imp fun a l h => h.later hb⟩
theorem Row.ne {w : World} {N T : Nat} {Y : Nat → Prop} {v : Value} {l : List Tm} {xs : List Value} (h : Row w N T Y v l xs) {b : Nat} (hb : b < N) : some b ≠ v.ownBlock := fun e => by
 have := (h.own.lt b e.symm).1; omega
theorem Row.push {w w1 w2 w3 : World} {N T : Nat} {Y : Nat → Prop} {v : Value} {l : List Tm} {xs : List Value} (h : Row w N T Y v l xs) (hN : N ≤ w.heap.size) (hY : ∀ b, Y b → b < N) (hb : Below w.heap.size w w1) {s : ByteArray} {a : Option Addr} {n c : Nat} {t : Tm}
  (ht : TV w1 (fun b => Y b ∨ w.heap.size ≤ b) (.agg #[.string s, .slice a n c]) t) (o : Obj) (hw2 : w2 = w1.alloc o) {g cap : Nat}
  (hown : w3.ownsRow N T 2 (.slice (some ⟨g, 0, none⟩) (l.length + 1) cap) (l.length + 1) (xs ++ [.string s, .slice a n c])) (hg : w2.grownBy w3 v.ownBlock) (hg1 : v.ownBlock = some g ∨ g = w2.heap.size) :
  Row w3 N T Y (.slice (some ⟨g, 0, none⟩) (l.length + 1) cap) (l ++ [t]) (xs ++ [.string s, .slice a n c]) := by
 subst hw2
 have hlt := h.own.lt
 refine ⟨by simpa using hown, ?_⟩
 have hsz : w1.heap.size ≤ (w1.alloc o).heap.size := by simp
 have hbs := hb.size
 have hgN : N ≤ g := by
  rcases hg1 with e | e
  ·exact (hlt g e).1
  ·simp at e; omega
 refine RowT.append (h.row.imp fun a' k' hs => ?_) ?_
 ·have h1 : Sl w (fun b => (Y b ∨ (N ≤ b ∧ some b ≠ v.ownBlock)) ∧ b < w.heap.size) a' k' := hs.mono fun b h1 h2 => ⟨h1, h2⟩
  have h2 : Sl w3 (fun b => (Y b ∨ (N ≤ b ∧ some b ≠ v.ownBlock)) ∧ b < w.heap.size) a' k' := h1.kept fun b hx => by
   have hne : some b ≠ v.ownBlock := by
    rcases hx.1 with hy | hy
    ·exact h.ne (hY b hy)
    ·exact hy.2
   rw [hg.block b (by simp; omega) hne, Below.heap_alloc _ _ _ (by omega), hb.block b hx.2]
  refine h2.mono fun b hx _ => ?_
  rcases hx.1 with hy | hy
  ·exact Or.inl hy
  ·refine Or.inr ⟨hy.1, fun e => ?_⟩
   simp [Value.ownBlock] at e
   rcases hg1 with e' | e'
   ·exact hy.2 (by rw [e', e])
   ·simp at e'; omega
 ·obtain ⟨a2, c2, e, hs⟩ := ht
  simp at e
  obtain ⟨rfl, rfl, rfl, rfl⟩ := e
  refine ⟨a, c, [], rfl, ?_, rfl⟩
  have h1 : Sl w1 (fun b => (Y b ∨ w.heap.size ≤ b) ∧ b < w1.heap.size) a t.args := hs.mono fun b h1 h2 => ⟨h1, h2⟩
  have h2 : Sl w3 (fun b => (Y b ∨ w.heap.size ≤ b) ∧ b < w1.heap.size) a t.args := h1.kept fun b hx => by
   have hne : some b ≠ v.ownBlock := by
    rcases hx.1 with hy | hy
    ·exact h.ne (hY b hy)
    ·intro e; have := (hlt b e.symm).2; omega
   rw [hg.block b (by simp; omega) hne, Below.heap_alloc _ _ _ hx.2]
  refine h2.mono fun b hx _ => ?_
  rcases hx.1 with hy | hy
  ·exact Or.inl hy
  ·refine Or.inr ⟨by omega, fun e => ?_⟩
   simp [Value.ownBlock] at e
   rcases hg1 with e' | e'
   ·have := (hlt g e').2; omega
   ·simp at e'; omega
theorem Row.setCell {w : World} {N T : Nat} {Y : Nat → Prop} {v : Value} {l : List Tm} {xs : List Value} (h : Row w N T Y v l xs) {b i : Nat} (hb : b < N) (hY : ¬ Y b) (u : Value) : Row (w.setCell ⟨b, i, none⟩ u) N T Y v l xs :=
 ⟨ownsRow_setCell_below h.own (by simpa using hb) u, h.row.imp fun a k hs => hs.kept fun c hc => Below.heap_setCell _ _ _ _ (by
  simp
  rcases hc with hc | hc
  ·intro e; subst e; exact hY hc
  ·omega)⟩
theorem Row.sl {w : World} {N T : Nat} {Y : Nat → Prop} {v : Value} {l : List Tm} {xs : List Value} (h : Row w N T Y v l xs) : ∃ a c, v = .slice a l.length c ∧ Sl w (fun b => Y b ∨ N ≤ b) a l := by
 have hml : l.length ≤ 9223372036854775807 := by
  rcases h.own.2 with ⟨_, h0⟩ | ⟨g, cap, cur, _, _, _, h1, h2, _⟩
  ·omega
  ·unfold maxLen at h2; omega
 by_cases h0 : 0 < l.length
 ·obtain ⟨g, cap, rfl, hg, hlt, hc⟩ := owned_val h.own h0
  exact ⟨_, _, rfl, hml, Or.inr ⟨g, 0, rfl, lies_of_rowT g (Or.inr hg) l xs 0 h.row (fun a k hs => hs.mono fun b hb _ => hb.imp id (fun h => h.1)) (fun j u hj => by simpa using hc j u hj)⟩⟩
 ·have e : l = [] := List.length_eq_zero_iff.1 (by omega)
  subst e
  rcases h.own.2 with ⟨hv, _⟩ | ⟨g, cap, cur, hv, _⟩
  ·exact ⟨none, 0, hv, hml, Or.inl rfl⟩
  ·exact ⟨_, _, hv, hml, Or.inl rfl⟩
set_option maxRecDepth 8000
def knY (x : Int) (n : Nat) : Int := if n ≠ 0 ∧ (n ≠ 2 ∨ x ≠ 0) then 2 else if x < 0 ∨ 999 < x then 10 else 0
def errY : List Ty → Int
 | [] => 0
 | ⟨x, l⟩ :: r => if knY x l.length = 0 then (if errY l = 0 then errY r else errY l) else knY x l.length
theorem errY_cons (t : Ty) (r : List Ty) : errY (t :: r) = if errY [t] = 0 then errY r else errY [t] := by
 obtain ⟨x, l⟩ := t
 simp only [errY]
 split
 ·split <;> simp_all
 ·simp_all
theorem errY_append (a b : List Ty) : errY (a ++ b) = if errY a = 0 then errY b else errY a := by
 induction a with
 | nil => simp [errY]
 | cons t r ih =>
  rw [List.cons_append, errY_cons, errY_cons t r, ih]
  by_cases h : errY [t] = 0 <;> simp [h]
theorem errY_take (l : List Ty) (k : Nat) (h : k < l.length) : errY (l.take (k + 1)) = if errY (l.take k) = 0 then errY [l[k]] else errY (l.take k) := by
 rw [List.take_succ_eq_append_getElem h, errY_append]
theorem errY_of_take {l : List Ty} {k : Nat} (h : errY (l.take k) ≠ 0) : errY l = errY (l.take k) := by
 have := errY_append (l.take k) (l.drop k)
 rw [List.take_append_drop, if_neg h] at this
 exact this
theorem errY_good {ix : Int} {l : List Ty} (h : knY ix l.length = 0) : errY [⟨ix, l⟩] = errY l := by
 simp only [errY, h, if_true]
 by_cases h0 : errY l = 0 <;> simp [h0]
theorem errY_bad {ix : Int} {l : List Ty} (h : knY ix l.length ≠ 0) : errY [⟨ix, l⟩] = knY ix l.length := by
 simp [errY, h]
def tyE (t : Ty) : Int := if 200 < sizeY [t] then 3 else errY [t]
theorem ty_look {x : Int} {l : List Ty} (h : errY [⟨x, l⟩] = 0) : (l = [] ∧ 0 ≤ x ∧ x ≤ 999) ∨ (x = 0 ∧ ∃ a b, l = [a, b] ∧ errY [a] = 0 ∧ errY [b] = 0) := by
 have hk : knY x l.length = 0 := by
  apply Classical.byContradiction
  intro hn
  rw [errY_bad hn] at h
  exact hn h
 rw [errY_good hk] at h
 unfold knY at hk
 split at hk
 ·simp at hk
 rename_i h1
 split at hk
 ·simp at hk
 rename_i h2
 match l, h1, h with
 | [], _, _ => exact Or.inl ⟨rfl, by omega, by omega⟩
 | [a], h1, _ => exact absurd h1 (by simp)
 | [a, b], h1, h =>
  rw [errY_cons] at h
  have hx : x = 0 := by
   apply Classical.byContradiction
   intro hn
   exact h1 ⟨by simp, Or.inr hn⟩
  by_cases e : errY [a] = 0
  ·rw [if_pos e] at h
   exact Or.inr ⟨hx, a, b, rfl, e, h⟩
  ·rw [if_neg e] at h
   exact absurd h e
 | a :: b :: c :: d, h1, _ => exact absurd h1 (by simp)
def KnInvY (l : List Ty) (w : World) (o : Value) (wr : World) : Prop := ∃ k : Nat, k ≤ l.length ∧ o = .int .i64 k ∧ errY (l.take k) = 0 ∧ Below w.heap.size w wr
set_option maxHeartbeats 4000000 in
theorem tyMay0_any (t : Ty) : ∀ (v : Value) (w : World) (X : Nat → Prop), YV w X v t →
  Calls Tryz.prog 42 #[v] w fun e w' => e = .returned (.int .i64 (errY [t])) ∧ Below w.heap.size w w' := by
 induction t using Ty.ind with
 | h ix l ih =>
  intro v w X hv
  obtain ⟨a, c, rfl, hs⟩ := hv
  have IH := hide ih
  clear ih
  have hl := hs.1
  have HB0 : Hid (Below w.heap.size w (w.alloc (.cells #[.int .i64 ix, .slice a l.length c] 30))) := (Below.refl _ _).alloc (Nat.le_refl _) _
  have HT0 : Hid (Blk (w.alloc (.cells #[.int .i64 ix, .slice a l.length c] 30)) w.heap.size #[.int .i64 ix, .slice a l.length c] 30) := Blk.new _ _ _
  by_cases h0 : l.length = 0
  ·have HL := hide h0
   have f0 : ((l.length : Int) != 0) = false := by simp [h0]
   have f2 : ((l.length : Int) == 2) = false := by simp [h0]
   clear h0
   by_cases hi : ix < 0
   ·have HK : Hid (knY ix l.length = 10) := by unfold Hid knY; rw [HL.out]; simp [hi]
    have HE : Hid (errY [(⟨ix, l⟩ : Ty)] = 10) := by unfold Hid; rw [errY_bad (by rw [HK.out]; decide), HK.out]
    go_enter Tryz.func42, Tryz.ntmps42
    go_wp2_with fail
    go_ret
    exact ⟨ret_int HE.out.symm, HB0.out⟩
   by_cases hj : 999 < ix
   ·have HK : Hid (knY ix l.length = 10) := by unfold Hid knY; rw [HL.out]; simp [hj]
    have HE : Hid (errY [(⟨ix, l⟩ : Ty)] = 10) := by unfold Hid; rw [errY_bad (by rw [HK.out]; decide), HK.out]
    go_enter Tryz.func42, Tryz.ntmps42
    go_wp2_with fail
    go_ret
    exact ⟨ret_int HE.out.symm, HB0.out⟩
   have HK : Hid (knY ix l.length = 0) := by unfold Hid knY; rw [HL.out, if_neg (by simp), if_neg (by omega)]
   have HE := hide (errY_good HK.out)
   go_enter Tryz.func42, Tryz.ntmps42
   go_wp2_with fail
   go_loopw [3] (fun o wr => KnInvY l w o wr ∧ Blk wr w.heap.size #[.int .i64 ix, .slice a l.length c] 30) (fun o wr => l.length - (intOf o).toNat)
   case atStart => exact ⟨⟨0, Nat.zero_le _, rfl, by simp [errY], HB0.out⟩, HT0.out⟩
   case round =>
    obtain ⟨⟨k, hk, rfl, he, hb⟩, hT⟩ := hrel
    have HEK := hide he
    have HBK := hide hb
    have HTK := hide hT
    clear he
    have hsz : w.heap.size ≤ wr.heap.size := hb.size
    have t0 := hT.c0
    have t1 := hT.c1
    by_cases hlt : k < l.length
    ·obtain ⟨b, o, a', c', rfl, d0, d1, hx⟩ := hs.get hb (fun _ _ h => h) k hlt
     have HT := hide (errY_take l k hlt)
     have hlt2 : (k : Int) < (l.length : Int) := by omega
     clear hb hT
     go_wp2_with fail
     refine (IH.out _ (List.getElem_mem hlt) _ _ X hx).mono ?_
     rintro e w2 ⟨rfl, hb2⟩
     have HB2 : Hid (Below w.heap.size w w2) := HBK.out.trans (hb2.mono hsz)
     have HT2 := hide (HTK.out.below hb2 HTK.out.lt)
     clear hb2
     by_cases hez : errY [l[k]] = 0
     ·have HZ := hide hez
      rw [hez]
      clear hez
      go_wp2_with fail
      go_roundw
      case rel => exact ⟨⟨k + 1, by omega, by go_num, by rw [HT.out, HEK.out, HZ.out]; rfl, HB2.out⟩, HT2.out⟩
      case measure => simp [intOf]; omega
     ·have h1 : (errY [l[k]] == 0) = false := by simpa using hez
      have h2 : (errY [l[k]] != 0) = true := by simpa using hez
      have HZ : Hid (errY [l[k]] = errY [(⟨ix, l⟩ : Ty)]) := by
       have h1 : errY (l.take (k + 1)) = errY [l[k]] := by rw [HT.out, HEK.out]; rfl
       unfold Hid
       rw [HE.out, errY_of_take (l := l) (k := k + 1) (by rw [h1]; exact hez), h1]
      go_wp2_with fail
      go_ret
      exact ⟨ret_int HZ.out, HB2.out⟩
    ·have htk : l.take k = l := List.take_of_length_le (by omega)
     have hge : ¬ ((k : Int) < (l.length : Int)) := by omega
     have HZ : Hid (0 = errY [(⟨ix, l⟩ : Ty)]) := by unfold Hid; rw [HE.out, ← htk, HEK.out]
     go_wp2_with fail
     go_ret
     exact ⟨ret_int HZ.out, HBK.out⟩
  by_cases h2 : l.length = 2
  ·have HL := hide h2
   have f0 : ((l.length : Int) != 0) = true := by simp [h2]
   have f1 : ((l.length : Int) != 2) = false := by simp [h2]
   have f2 : ((l.length : Int) == 2) = true := by simp [h2]
   clear h2 h0
   by_cases hi : ix = 0
   ·subst hi
    have HK : Hid (knY 0 l.length = 0) := by unfold Hid knY; rw [HL.out]; simp
    have HE := hide (errY_good HK.out)
    go_enter Tryz.func42, Tryz.ntmps42
    go_wp2_with fail
    go_loopw [3] (fun o wr => KnInvY l w o wr ∧ Blk wr w.heap.size #[.int .i64 0, .slice a l.length c] 30) (fun o wr => l.length - (intOf o).toNat)
    case atStart => exact ⟨⟨0, Nat.zero_le _, rfl, by simp [errY], HB0.out⟩, HT0.out⟩
    case round =>
     obtain ⟨⟨k, hk, rfl, he, hb⟩, hT⟩ := hrel
     have HEK := hide he
     have HBK := hide hb
     have HTK := hide hT
     clear he
     have hsz : w.heap.size ≤ wr.heap.size := hb.size
     have t0 := hT.c0
     have t1 := hT.c1
     by_cases hlt : k < l.length
     ·obtain ⟨b, o, a', c', rfl, d0, d1, hx⟩ := hs.get hb (fun _ _ h => h) k hlt
      have HT := hide (errY_take l k hlt)
      have hlt2 : (k : Int) < (l.length : Int) := by omega
      clear hb hT
      go_wp2_with fail
      refine (IH.out _ (List.getElem_mem hlt) _ _ X hx).mono ?_
      rintro e w2 ⟨rfl, hb2⟩
      have HB2 : Hid (Below w.heap.size w w2) := HBK.out.trans (hb2.mono hsz)
      have HT2 := hide (HTK.out.below hb2 HTK.out.lt)
      clear hb2
      by_cases hez : errY [l[k]] = 0
      ·have HZ := hide hez
       rw [hez]
       clear hez
       go_wp2_with fail
       go_roundw
       case rel => exact ⟨⟨k + 1, by omega, by go_num, by rw [HT.out, HEK.out, HZ.out]; rfl, HB2.out⟩, HT2.out⟩
       case measure => simp [intOf]; omega
      ·have h1 : (errY [l[k]] == 0) = false := by simpa using hez
       have h2 : (errY [l[k]] != 0) = true := by simpa using hez
       have HZ : Hid (errY [l[k]] = errY [(⟨0, l⟩ : Ty)]) := by
        have h1 : errY (l.take (k + 1)) = errY [l[k]] := by rw [HT.out, HEK.out]; rfl
        unfold Hid
        rw [HE.out, errY_of_take (l := l) (k := k + 1) (by rw [h1]; exact hez), h1]
       go_wp2_with fail
       go_ret
       exact ⟨ret_int HZ.out, HB2.out⟩
     ·have htk : l.take k = l := List.take_of_length_le (by omega)
      have hge : ¬ ((k : Int) < (l.length : Int)) := by omega
      have HZ : Hid (0 = errY [(⟨0, l⟩ : Ty)]) := by unfold Hid; rw [HE.out, ← htk, HEK.out]
      go_wp2_with fail
      go_ret
      exact ⟨ret_int HZ.out, HBK.out⟩
   ·have hi2 : (ix != 0) = true := by simpa using hi
    have HK : Hid (knY ix l.length = 2) := by unfold Hid knY; rw [HL.out]; simp [hi]
    have HE : Hid (errY [(⟨ix, l⟩ : Ty)] = 2) := by unfold Hid; rw [errY_bad (by rw [HK.out]; decide), HK.out]
    go_enter Tryz.func42, Tryz.ntmps42
    go_wp2_with fail
    go_ret
    exact ⟨ret_int HE.out.symm, HB0.out⟩
  have f0 : ((l.length : Int) != 0) = true := by simp; exact fun h => h0 (by simp [h])
  have f1 : ((l.length : Int) != 2) = true := by simp; omega
  have f2 : ((l.length : Int) == 2) = false := by simp; omega
  have H0 := hide h0
  have H2 := hide h2
  clear h0 h2
  have HK : Hid (knY ix l.length = 2) := by unfold Hid knY; rw [if_pos ⟨H0.out, Or.inl H2.out⟩]
  have HE : Hid (errY [(⟨ix, l⟩ : Ty)] = 2) := by unfold Hid; rw [errY_bad (by rw [HK.out]; decide), HK.out]
  go_enter Tryz.func42, Tryz.ntmps42
  go_wp2_with fail
  go_ret
  exact ⟨ret_int HE.out.symm, HB0.out⟩
set_option maxHeartbeats 4000000 in
theorem tyKnots_any (t : Ty) : ∀ (v : Value) (w : World) (X : Nat → Prop), YV w X v t →
  Calls Tryz.prog 47 #[v] w fun e w' => e = .returned (.int .i64 (errY [t])) ∧ Below w.heap.size w w' := by
 induction t using Ty.ind with
 | h ix l ih =>
  intro v w X hv
  obtain ⟨a, c, rfl, hs⟩ := hv
  have IH := hide ih
  clear ih
  have hl := hs.1
  have HB0 : Hid (Below w.heap.size w (w.alloc (.cells #[.int .i64 ix, .slice a l.length c] 30))) := (Below.refl _ _).alloc (Nat.le_refl _) _
  have HT0 : Hid (Blk (w.alloc (.cells #[.int .i64 ix, .slice a l.length c] 30)) w.heap.size #[.int .i64 ix, .slice a l.length c] 30) := Blk.new _ _ _
  by_cases h0 : l.length = 0
  ·have HL := hide h0
   have f0 : ((l.length : Int) != 0) = false := by simp [h0]
   have f2 : ((l.length : Int) == 2) = false := by simp [h0]
   clear h0
   by_cases hi : ix < 0
   ·have HK : Hid (knY ix l.length = 10) := by unfold Hid knY; rw [HL.out]; simp [hi]
    have HE : Hid (errY [(⟨ix, l⟩ : Ty)] = 10) := by unfold Hid; rw [errY_bad (by rw [HK.out]; decide), HK.out]
    go_enter Tryz.func47, Tryz.ntmps47
    go_wp2_with fail
    go_ret
    exact ⟨ret_int HE.out.symm, HB0.out⟩
   by_cases hj : 999 < ix
   ·have HK : Hid (knY ix l.length = 10) := by unfold Hid knY; rw [HL.out]; simp [hj]
    have HE : Hid (errY [(⟨ix, l⟩ : Ty)] = 10) := by unfold Hid; rw [errY_bad (by rw [HK.out]; decide), HK.out]
    go_enter Tryz.func47, Tryz.ntmps47
    go_wp2_with fail
    go_ret
    exact ⟨ret_int HE.out.symm, HB0.out⟩
   have HK : Hid (knY ix l.length = 0) := by unfold Hid knY; rw [HL.out, if_neg (by simp), if_neg (by omega)]
   have HE := hide (errY_good HK.out)
   go_enter Tryz.func47, Tryz.ntmps47
   go_wp2_with fail
   go_loopw [32] (fun o wr => KnInvY l w o wr ∧ Blk wr w.heap.size #[.int .i64 ix, .slice a l.length c] 30) (fun o wr => l.length - (intOf o).toNat)
   case atStart => exact ⟨⟨0, Nat.zero_le _, rfl, by simp [errY], HB0.out⟩, HT0.out⟩
   case round =>
    obtain ⟨⟨k, hk, rfl, he, hb⟩, hT⟩ := hrel
    have HEK := hide he
    have HBK := hide hb
    have HTK := hide hT
    clear he
    have hsz : w.heap.size ≤ wr.heap.size := hb.size
    have t0 := hT.c0
    have t1 := hT.c1
    by_cases hlt : k < l.length
    ·obtain ⟨b, o, a', c', rfl, d0, d1, hx⟩ := hs.get hb (fun _ _ h => h) k hlt
     have HT := hide (errY_take l k hlt)
     have hlt2 : (k : Int) < (l.length : Int) := by omega
     clear hb hT
     go_wp2_with fail
     refine (IH.out _ (List.getElem_mem hlt) _ _ X (hx.alloc _)).mono ?_
     rintro e w2 ⟨rfl, hb2⟩
     have HB2 : Hid (Below w.heap.size w w2) := (HBK.out.alloc hsz _).trans (hb2.mono (by simp; omega))
     have HT2 := hide ((HTK.out.alloc _).below hb2 (HTK.out.alloc _).lt)
     clear hb2
     by_cases hez : errY [l[k]] = 0
     ·have HZ := hide hez
      rw [hez]
      clear hez
      go_wp2_with fail
      go_roundw
      case rel => exact ⟨⟨k + 1, by omega, by go_num, by rw [HT.out, HEK.out, HZ.out]; rfl, HB2.out⟩, HT2.out⟩
      case measure => simp [intOf]; omega
     ·have h1 : (errY [l[k]] == 0) = false := by simpa using hez
      have h2 : (errY [l[k]] != 0) = true := by simpa using hez
      have HZ : Hid (errY [l[k]] = errY [(⟨ix, l⟩ : Ty)]) := by
       have h1 : errY (l.take (k + 1)) = errY [l[k]] := by rw [HT.out, HEK.out]; rfl
       unfold Hid
       rw [HE.out, errY_of_take (l := l) (k := k + 1) (by rw [h1]; exact hez), h1]
      go_wp2_with fail
      go_ret
      exact ⟨ret_int HZ.out, HB2.out⟩
    ·have htk : l.take k = l := List.take_of_length_le (by omega)
     have hge : ¬ ((k : Int) < (l.length : Int)) := by omega
     have HZ : Hid (0 = errY [(⟨ix, l⟩ : Ty)]) := by unfold Hid; rw [HE.out, ← htk, HEK.out]
     go_wp2_with fail
     go_ret
     exact ⟨ret_int HZ.out, HBK.out⟩
  by_cases h2 : l.length = 2
  ·have HL := hide h2
   have f0 : ((l.length : Int) != 0) = true := by simp [h2]
   have f1 : ((l.length : Int) != 2) = false := by simp [h2]
   have f2 : ((l.length : Int) == 2) = true := by simp [h2]
   clear h2 h0
   by_cases hi : ix = 0
   ·subst hi
    have HK : Hid (knY 0 l.length = 0) := by unfold Hid knY; rw [HL.out]; simp
    have HE := hide (errY_good HK.out)
    go_enter Tryz.func47, Tryz.ntmps47
    go_wp2_with fail
    go_loopw [32] (fun o wr => KnInvY l w o wr ∧ Blk wr w.heap.size #[.int .i64 0, .slice a l.length c] 30) (fun o wr => l.length - (intOf o).toNat)
    case atStart => exact ⟨⟨0, Nat.zero_le _, rfl, by simp [errY], HB0.out⟩, HT0.out⟩
    case round =>
     obtain ⟨⟨k, hk, rfl, he, hb⟩, hT⟩ := hrel
     have HEK := hide he
     have HBK := hide hb
     have HTK := hide hT
     clear he
     have hsz : w.heap.size ≤ wr.heap.size := hb.size
     have t0 := hT.c0
     have t1 := hT.c1
     by_cases hlt : k < l.length
     ·obtain ⟨b, o, a', c', rfl, d0, d1, hx⟩ := hs.get hb (fun _ _ h => h) k hlt
      have HT := hide (errY_take l k hlt)
      have hlt2 : (k : Int) < (l.length : Int) := by omega
      clear hb hT
      go_wp2_with fail
      refine (IH.out _ (List.getElem_mem hlt) _ _ X (hx.alloc _)).mono ?_
      rintro e w2 ⟨rfl, hb2⟩
      have HB2 : Hid (Below w.heap.size w w2) := (HBK.out.alloc hsz _).trans (hb2.mono (by simp; omega))
      have HT2 := hide ((HTK.out.alloc _).below hb2 (HTK.out.alloc _).lt)
      clear hb2
      by_cases hez : errY [l[k]] = 0
      ·have HZ := hide hez
       rw [hez]
       clear hez
       go_wp2_with fail
       go_roundw
       case rel => exact ⟨⟨k + 1, by omega, by go_num, by rw [HT.out, HEK.out, HZ.out]; rfl, HB2.out⟩, HT2.out⟩
       case measure => simp [intOf]; omega
      ·have h1 : (errY [l[k]] == 0) = false := by simpa using hez
       have h2 : (errY [l[k]] != 0) = true := by simpa using hez
       have HZ : Hid (errY [l[k]] = errY [(⟨0, l⟩ : Ty)]) := by
        have h1 : errY (l.take (k + 1)) = errY [l[k]] := by rw [HT.out, HEK.out]; rfl
        unfold Hid
        rw [HE.out, errY_of_take (l := l) (k := k + 1) (by rw [h1]; exact hez), h1]
       go_wp2_with fail
       go_ret
       exact ⟨ret_int HZ.out, HB2.out⟩
     ·have htk : l.take k = l := List.take_of_length_le (by omega)
      have hge : ¬ ((k : Int) < (l.length : Int)) := by omega
      have HZ : Hid (0 = errY [(⟨0, l⟩ : Ty)]) := by unfold Hid; rw [HE.out, ← htk, HEK.out]
      go_wp2_with fail
      go_ret
      exact ⟨ret_int HZ.out, HBK.out⟩
   ·have hi2 : (ix != 0) = true := by simpa using hi
    have HK : Hid (knY ix l.length = 2) := by unfold Hid knY; rw [HL.out]; simp [hi]
    have HE : Hid (errY [(⟨ix, l⟩ : Ty)] = 2) := by unfold Hid; rw [errY_bad (by rw [HK.out]; decide), HK.out]
    go_enter Tryz.func47, Tryz.ntmps47
    go_wp2_with fail
    go_ret
    exact ⟨ret_int HE.out.symm, HB0.out⟩
  have f0 : ((l.length : Int) != 0) = true := by simp; exact fun h => h0 (by simp [h])
  have f1 : ((l.length : Int) != 2) = true := by simp; omega
  have f2 : ((l.length : Int) == 2) = false := by simp; omega
  have H0 := hide h0
  have H2 := hide h2
  clear h0 h2
  have HK : Hid (knY ix l.length = 2) := by unfold Hid knY; rw [if_pos ⟨H0.out, Or.inl H2.out⟩]
  have HE : Hid (errY [(⟨ix, l⟩ : Ty)] = 2) := by unfold Hid; rw [errY_bad (by rw [HK.out]; decide), HK.out]
  go_enter Tryz.func47, Tryz.ntmps47
  go_wp2_with fail
  go_ret
  exact ⟨ret_int HE.out.symm, HB0.out⟩
set_option maxHeartbeats 1000000 in
theorem tyMay_any (t : Ty) (v : Value) (w : World) (X : Nat → Prop) (hv : YV w X v t) :
  Calls Tryz.prog 19 #[v] w fun e w' => e = .returned (.int .i64 (tyE t)) ∧ Below w.heap.size w w' := by
 obtain ⟨a, c, rfl, hs⟩ := hv
 have hv : YV w X (.agg #[.int .i64 t.base, .slice a t.subs.length c]) t := ⟨a, c, rfl, hs⟩
 have HB0 : Hid (Below w.heap.size w (w.alloc (.cells #[.int .i64 t.base, .slice a t.subs.length c] 30))) := (Below.refl _ _).alloc (Nat.le_refl _) _
 have hT0 := Blk.new w #[.int .i64 t.base, .slice a t.subs.length c] 30
 go_enter Tryz.func19, Tryz.ntmps19
 go_wp2_with fail
 refine (tySize_any t _ _ _ X (hv.alloc _) (by omega) (by omega)).mono ?_
 rintro e w1 ⟨rfl, hb1⟩
 have HB1 := hide (HB0.out.trans (hb1.mono (by simp)))
 have T1 := hide (hT0.below hb1 hT0.lt)
 have t0 := T1.out.c0
 have t1 := T1.out.c1
 clear hb1 hT0 HB0
 by_cases h3 : 200 < sizeY [t]
 ·have HE : Hid (tyE t = 3) := by unfold Hid tyE; rw [if_pos h3]
  have e : min (sizeY [t] : Int) (200 + 1) = 201 := by omega
  rw [e]
  go_wp2_with fail
  go_ret
  exact ⟨ret_int HE.out.symm, HB1.out⟩
 ·have HE : Hid (tyE t = errY [t]) := by unfold Hid tyE; rw [if_neg h3]
  have e : min (sizeY [t] : Int) (200 + 1) = sizeY [t] := by omega
  rw [e]
  have hle : ¬ (200 : Int) < (sizeY [t] : Int) := by omega
  go_wp2_with fail
  refine (tyMay0_any t _ _ X (hv.later HB1.out)).mono ?_
  rintro e w2 ⟨rfl, hb2⟩
  go_wp2_with fail
  go_ret
  exact ⟨ret_int HE.out.symm, HB1.out.trans (hb2.mono HB1.out.size)⟩
set_option maxHeartbeats 1000000 in
theorem tyCheck_any (t : Ty) (v : Value) (w : World) (X : Nat → Prop) (hv : YV w X v t) :
  Calls Tryz.prog 22 #[v] w fun e w' => e = .returned (.int .i64 (tyE t)) ∧ Below w.heap.size w w' := by
 obtain ⟨a, c, rfl, hs⟩ := hv
 have hv : YV w X (.agg #[.int .i64 t.base, .slice a t.subs.length c]) t := ⟨a, c, rfl, hs⟩
 have HB0 : Hid (Below w.heap.size w (w.alloc (.cells #[.int .i64 t.base, .slice a t.subs.length c] 30))) := (Below.refl _ _).alloc (Nat.le_refl _) _
 have hT0 := Blk.new w #[.int .i64 t.base, .slice a t.subs.length c] 30
 go_enter Tryz.func22, Tryz.ntmps22
 go_wp2_with fail
 refine (countTY_any 200 (by omega) (by omega) t _ _ X (hv.alloc _)).mono ?_
 rintro e w1 ⟨rfl, hb1⟩
 have HB1 := hide (HB0.out.trans (hb1.mono (by simp)))
 have T1 := hide (hT0.below hb1 hT0.lt)
 have t0 := T1.out.c0
 have t1 := T1.out.c1
 clear hb1 hT0 HB0
 by_cases h3 : 200 < sizeY [t]
 ·have HE : Hid (tyE t = 3) := by unfold Hid tyE; rw [if_pos h3]
  have e : min (sizeY [t] : Int) (200 + 1) = 201 := by omega
  rw [e]
  go_wp2_with fail
  go_ret
  exact ⟨ret_int HE.out.symm, HB1.out⟩
 ·have HE : Hid (tyE t = errY [t]) := by unfold Hid tyE; rw [if_neg h3]
  have e : min (sizeY [t] : Int) (200 + 1) = sizeY [t] := by omega
  rw [e]
  have hle : ¬ (200 : Int) < (sizeY [t] : Int) := by omega
  go_wp2_with fail
  refine (tyKnots_any t _ _ X (hv.later HB1.out)).mono ?_
  rintro e w2 ⟨rfl, hb2⟩
  go_wp2_with fail
  go_ret
  exact ⟨ret_int HE.out.symm, HB1.out.trans (hb2.mono HB1.out.size)⟩
def eqY : List Ty → List Ty → Bool
 | [], [] => true
 | ⟨s, a⟩ :: r, t :: ts => ((s == t.base) && ((a.length == t.subs.length) && eqY a t.subs)) && eqY r ts
 | _, _ => false
def sameY (a b : Ty) : Bool := (a.base == b.base) && ((a.subs.length == b.subs.length) && eqY a.subs b.subs)
theorem eqY_cons (x t : Ty) (r ts : List Ty) : eqY (x :: r) (t :: ts) = (sameY x t && eqY r ts) := by obtain ⟨s, a⟩ := x; simp only [eqY, sameY]
theorem eqY_append : ∀ (a b c d : List Ty), a.length = b.length → eqY (a ++ c) (b ++ d) = (eqY a b && eqY c d)
 | [], [], c, d, _ => by simp [eqY]
 | [], _ :: _, _, _, h => by simp at h
 | _ :: _, [], _, _, h => by simp at h
 | x :: r, t :: ts, c, d, h => by rw [List.cons_append, List.cons_append, eqY_cons, eqY_cons, eqY_append r ts c d (by simpa using h), Bool.and_assoc]
theorem eqY_take {l m : List Ty} {k : Nat} (h : k < l.length) (h2 : k < m.length) : eqY (l.take (k + 1)) (m.take (k + 1)) = (eqY (l.take k) (m.take k) && sameY l[k] m[k]) := by
 rw [List.take_succ_eq_append_getElem h, List.take_succ_eq_append_getElem h2, eqY_append _ _ _ _ (by simp; omega), eqY_cons]
 simp [eqY]
theorem eqY_no {l m : List Ty} {k : Nat} (h : k < l.length) (hlm : l.length = m.length) (h0 : sameY l[k] (m[k]'(by omega)) = false) : eqY l m = false := by
 have e1 : l = l.take (k + 1) ++ l.drop (k + 1) := (List.take_append_drop _ _).symm
 have e2 : m = m.take (k + 1) ++ m.drop (k + 1) := (List.take_append_drop _ _).symm
 rw [e1, e2, eqY_append _ _ _ _ (by simp; omega), eqY_take h (by omega), h0]
 simp
def SaInvY (w : World) (l m : List Ty) (a a2 : Option Addr) (c c2 : Nat) (i : Value) (wr : World) : Prop :=
 ∃ (k : Nat), k ≤ l.length ∧ i = .int .i64 k ∧ eqY (l.take k) (m.take k) = true ∧ Below w.heap.size w wr ∧ wr.cell? ⟨w.heap.size, 1, none⟩ = some (.slice a l.length c) ∧ wr.cell? ⟨w.heap.size + 1, 1, none⟩ = some (.slice a2 l.length c2) ∧ w.heap.size + 2 ≤ wr.heap.size
set_option maxHeartbeats 2000000 in
theorem sameY_any (t : Ty) : ∀ (x : Ty) (v u : Value) (w : World) (X Y : Nat → Prop), YV w X v t → YV w Y u x →
  Calls Tryz.prog 27 #[v, u] w fun e w' => e = .returned (.bool (sameY t x)) ∧ Below w.heap.size w w' := by
 induction t using Ty.ind with
 | h s l ih =>
  intro x v u w X Y hv hu
  obtain ⟨s2, m⟩ := x
  have IH := hide ih
  clear ih
  obtain ⟨a, c, rfl, hs⟩ := hv
  obtain ⟨a2, c2, rfl, hs2⟩ := hu
  have hl := hs.1
  have hl2 := hs2.1
  dsimp only
  by_cases hne : s = s2
  case neg =>
   have hn : (s == s2) = false := beq_eq_false_iff_ne.2 hne
   have hn2 : (s != s2) = true := by simpa using hne
   have HR : Hid (false = sameY ⟨s, l⟩ ⟨s2, m⟩) := by unfold Hid sameY; rw [hn]; rfl
   go_enter Tryz.func27, Tryz.ntmps27
   go_wp2_with fail
   go_ret
   exact ⟨ret_bool HR.out, below2 _ _⟩
  case pos =>
   subst hne
   have hn : (s == s) = true := by simp
   by_cases hm : l.length = m.length
   ·have HR : Hid (eqY l m = sameY ⟨s, l⟩ ⟨s, m⟩) := by unfold Hid sameY; simp [hn, hm]
    have HM := hide hm
    rw [← hm]
    clear hm
    go_enter Tryz.func27, Tryz.ntmps27
    go_wp2_with fail
    go_loopw [5] (fun i wr => SaInvY w l m a a2 c c2 i wr) (fun i wr => l.length - (intOf i).toNat)
    case atStart => exact ⟨0, Nat.zero_le _, rfl, by simp [eqY], below2 _ _, by simp, by simp, by simp⟩
    case round =>
     obtain ⟨k, hk, rfl, hq, hb, hc1, hc2, hsz⟩ := hrel
     have HQ := hide hq
     clear hq
     by_cases hlt : k < l.length
     ·obtain ⟨b, o, a', c', rfl, d0, d1, hx⟩ := hs.get hb (fun _ _ h => h) k hlt
      obtain ⟨b2, o2, a2', c2', rfl, e0, e1, hx2⟩ := hs2.get hb (fun _ _ h => h) k (by have := HM.out; omega)
      have hltm : k < m.length := by have := HM.out; omega
      have HX := hide hx
      have HX2 := hide hx2
      have HB := hide hb
      have HS0 := hide (And.intro hc1 (And.intro hc2 (And.intro d0 (And.intro d1 (And.intro e0 e1)))))
      have IHK := hide (fun (w' : World) => IH.out l[k] (List.getElem_mem hlt) m[k] (.agg #[.int .i64 l[k].base, .slice a' l[k].subs.length c']) (.agg #[.int .i64 m[k].base, .slice a2' m[k].subs.length c2']) w' X Y)
      have HT := hide (eqY_take hlt hltm)
      have HNO := hide (eqY_no hlt HM.out)
      clear hx hx2 hb
      generalize l[k] = y at *
      generalize m[k] = z at *
      go_wp2_with fail
      cases hsm : sameY y z with
      | true =>
       rw [hsm] at IHK HT
       go_region_held3 (fun w' => w'.cell? ⟨w.heap.size, 1, none⟩ = some (.slice (some ⟨b, o, none⟩) l.length c) ∧ w'.cell? ⟨w.heap.size + 1, 1, none⟩ = some (.slice (some ⟨b2, o2, none⟩) l.length c2) ∧ w'.cell? ⟨b, o + k * 2, none⟩ = some (.int .i64 y.base) ∧ w'.cell? ⟨b, o + k * 2 + 1, none⟩ = some (.slice a' y.subs.length c') ∧ w'.cell? ⟨b2, o2 + k * 2, none⟩ = some (.int .i64 z.base) ∧ w'.cell? ⟨b2, o2 + k * 2 + 1, none⟩ = some (.slice a2' z.subs.length c2')) (first | exact HS0.out | exact hS1 | go_keep)
        ((go_at_call 27; refine (IHK.out _ (by exact HX.out.later (below_drewN (Below.refl _ _) 1)) (by exact HX2.out.later (below_drewN (Below.refl _ _) 1))).mono ?_; rintro e w1 ⟨rfl, hb1⟩; have hS1 := same_cells (n := 1) hb1 HS0.out))
       go_wp2_with fail
       go_roundw
       case rel => exact ⟨k + 1, by omega, by go_num, by rw [HT.out, HQ.out]; rfl, (HB.out.trans (below_drewN (Below.refl _ _) 1)).trans (hb1.mono (by simp; omega)), hS1.1, hS1.2.1, by have := hb1.size; simp at this; omega⟩
       case measure => simp [intOf]; omega
      | false =>
       have HF : Hid (false = sameY ⟨s, l⟩ ⟨s, m⟩) := by unfold Hid; rw [← HR.out, HNO.out hsm]
       rw [hsm] at IHK
       go_region_held3 (fun w' => w'.cell? ⟨w.heap.size, 1, none⟩ = some (.slice (some ⟨b, o, none⟩) l.length c) ∧ w'.cell? ⟨w.heap.size + 1, 1, none⟩ = some (.slice (some ⟨b2, o2, none⟩) l.length c2) ∧ w'.cell? ⟨b, o + k * 2, none⟩ = some (.int .i64 y.base) ∧ w'.cell? ⟨b, o + k * 2 + 1, none⟩ = some (.slice a' y.subs.length c') ∧ w'.cell? ⟨b2, o2 + k * 2, none⟩ = some (.int .i64 z.base) ∧ w'.cell? ⟨b2, o2 + k * 2 + 1, none⟩ = some (.slice a2' z.subs.length c2')) (first | exact HS0.out | exact hS1 | go_keep)
        ((go_at_call 27; refine (IHK.out _ (by exact HX.out.later (below_drewN (Below.refl _ _) 1)) (by exact HX2.out.later (below_drewN (Below.refl _ _) 1))).mono ?_; rintro e w1 ⟨rfl, hb1⟩; have hS1 := same_cells (n := 1) hb1 HS0.out))
       go_wp2_with fail
       go_ret
       exact ⟨ret_bool HF.out, (HB.out.trans (below_drewN (Below.refl _ _) 1)).trans (hb1.mono (by simp; omega))⟩
     ·have HF : Hid (true = sameY ⟨s, l⟩ ⟨s, m⟩) := by
       unfold Hid
       rw [← HR.out, ← HQ.out, List.take_of_length_le (by omega), List.take_of_length_le (by have := HM.out; omega)]
      go_wp2_with fail
      go_ret
      exact ⟨ret_bool HF.out, hb⟩
   ·have HR : Hid (false = sameY ⟨s, l⟩ ⟨s, m⟩) := by unfold Hid sameY; simp [hn, hm]
    have hm2 : ((l.length : Int) == (m.length : Int)) = false := beq_eq_false_iff_ne.2 (by omega)
    clear hm
    go_enter Tryz.func27, Tryz.ntmps27
    go_wp2_with fail
    go_ret
    exact ⟨ret_bool HR.out, below2 _ _⟩
theorem eqY_iff (l : List Ty) : ∀ m, eqY l m = true ↔ l = m := by
 induction l using Ty.indL with
 | h0 =>
  intro m
  cases m with
  | nil => simp [eqY]
  | cons t r => simp [eqY]
 | h x l r ihl ihr =>
  intro m
  cases m with
  | nil => simp [eqY]
  | cons t q =>
   obtain ⟨y, k⟩ := t
   rw [eqY_cons]
   unfold sameY
   simp only [Bool.and_eq_true, beq_iff_eq, ihl, ihr]
   constructor
   ·rintro ⟨⟨rfl, _, rfl⟩, rfl⟩; rfl
   ·intro h
    injection h with h1 h2
    injection h1 with h3 h4
    subst h2; subst h3; subst h4
    exact ⟨⟨rfl, rfl, rfl⟩, rfl⟩
theorem sameY_iff {a b : Ty} : sameY a b = true ↔ a = b := by
 have h := eqY_iff [a] [b]
 rw [eqY_cons] at h
 simpa [eqY] using h
theorem subsYB_any (ix : Int) (a : Option Addr) (n c : Nat) (w : World) :
  Calls Tryz.prog 46 #[.agg #[.int .i64 ix, .slice a n c]] w fun e w' => e = .returned (.slice a n c) ∧ Below w.heap.size w w' :=
 (subsY_any ix a n c w).mono fun e w' h => ⟨h.1, by rw [h.2]; exact (Below.refl _ _).alloc (Nat.le_refl _) _⟩
theorem alikeY_any (x y : Int) (a b : Option Addr) (n c m d : Nat) (w : World) :
  Calls Tryz.prog 84 #[.agg #[.int .i64 x, .slice a n c], .agg #[.int .i64 y, .slice b m d]] w fun e w' => e = .returned (.bool (x == y)) ∧ Below w.heap.size w w' := by
 go_enter Tryz.func84, Tryz.ntmps84
 go_wp2_with fail
 go_ret
 exact ⟨rfl, below2 _ _⟩
def SbInvY (w w5 : World) (l m : List Ty) (i : Value) (wr : World) : Prop :=
 ∃ (k : Nat), k ≤ l.length ∧ i = .int .i64 k ∧ eqY (l.take k) (m.take k) = true ∧ Below w.heap.size w wr
set_option maxHeartbeats 4000000 in
theorem sameYT_any (t : Ty) : ∀ (x : Ty) (v u : Value) (w : World) (X Y : Nat → Prop), YV w X v t → YV w Y u x →
  Calls Tryz.prog 83 #[v, u, .func (.func 46) #[] #[], .func (.func 84) #[] #[]] w fun e w' => e = .returned (.bool (sameY t x)) ∧ Below w.heap.size w w' := by
 induction t using Ty.ind with
 | h s l ih =>
  intro x v u w X Y hv hu
  obtain ⟨s2, m⟩ := x
  have IH := hide ih
  clear ih
  obtain ⟨a, c, rfl, hs⟩ := hv
  obtain ⟨a2, c2, rfl, hs2⟩ := hu
  have hl := hs.1
  have hl2 := hs2.1
  dsimp only
  have K1 : Hid (Blk ((w.alloc (.cells #[.int .i64 s, .slice a l.length c] 30)).alloc (.cells #[.int .i64 s2, .slice a2 m.length c2] 30)) w.heap.size #[.int .i64 s, .slice a l.length c] 30) := (Blk.new _ _ _).alloc _
  have K2 : Hid (Blk ((w.alloc (.cells #[.int .i64 s, .slice a l.length c] 30)).alloc (.cells #[.int .i64 s2, .slice a2 m.length c2] 30)) (w.heap.size + 1) #[.int .i64 s2, .slice a2 m.length c2] 30) := by
   have h := Blk.new (w.alloc (.cells #[.int .i64 s, .slice a l.length c] 30)) #[.int .i64 s2, .slice a2 m.length c2] 30
   rw [World.size_alloc] at h
   exact h
  have B2 : Hid (Below w.heap.size w ((w.alloc (.cells #[.int .i64 s, .slice a l.length c] 30)).alloc (.cells #[.int .i64 s2, .slice a2 m.length c2] 30))) := below2 _ _
  go_enter Tryz.func83, Tryz.ntmps83
  go_upto_region 1 with fail
  generalize (w.alloc (.cells #[.int .i64 s, .slice a l.length c] 30)).alloc (.cells #[.int .i64 s2, .slice a2 m.length c2] 30) = wq at *
  have KP : Hid (∀ w', Below wq.heap.size wq w' → w'.cell? ⟨w.heap.size, 0, none⟩ = some (.int .i64 s) ∧ w'.cell? ⟨w.heap.size, 1, none⟩ = some (.slice a l.length c) ∧ w'.cell? ⟨w.heap.size + 1, 0, none⟩ = some (.int .i64 s2) ∧ w'.cell? ⟨w.heap.size + 1, 1, none⟩ = some (.slice a2 m.length c2)) := fun w' hb => by
   have h1 := K1.out.below hb K1.out.lt
   have h2 := K2.out.below hb K2.out.lt
   exact ⟨h1.cell 0, h1.cell 1, h2.cell 0, h2.cell 1⟩
  have HSS := hide (KP.out wq (Below.refl _ _))
  go_region_held3 (fun w' => w'.cell? ⟨w.heap.size, 0, none⟩ = some (.int .i64 s) ∧ w'.cell? ⟨w.heap.size, 1, none⟩ = some (.slice a l.length c) ∧ w'.cell? ⟨w.heap.size + 1, 0, none⟩ = some (.int .i64 s2) ∧ w'.cell? ⟨w.heap.size + 1, 1, none⟩ = some (.slice a2 m.length c2)) (first | exact HSS.out | exact z5 | exact z4 | go_keep)
   (first
    | (go_at_call 46; refine (subsYB_any _ _ _ _ _).mono ?_; rintro e w4 ⟨rfl, hb4⟩; have k4 : Below wq.heap.size wq w4 := (by first | exact ((Below.refl wq.heap.size wq).drew).trans hb4 | exact (((Below.refl wq.heap.size wq).drew).drew).trans hb4 | exact (below_drewN (Below.refl wq.heap.size wq) 2).trans hb4 | exact (below_drewN (Below.refl wq.heap.size wq) 1).trans (hb4.mono (by simp))); have z4 := KP.out _ k4; clear hb4)
    | (go_at_call 46; refine (subsYB_any _ _ _ _ _).mono ?_; rintro e w5 ⟨rfl, hb5⟩; have k5 := k4.trans (hb5.mono k4.size); have z5 := KP.out _ k5; clear hb5))
  have B5 := hide (B2.out.trans (k5.mono B2.out.size))
  clear z4 HSS KP K1 K2 B2 k4
  obtain ⟨z50, z51, z52, z53⟩ := z5
  by_cases hm : l.length = m.length
  ·have HM := hide hm
   rw [← hm] at z53
   rw [← hm]
   by_cases hne : s = s2
   case neg =>
    have hn : (s == s2) = false := beq_eq_false_iff_ne.2 hne
    clear hne
    have HR : Hid (false = sameY ⟨s, l⟩ ⟨s2, m⟩) := by unfold Hid sameY; rw [hn]; rfl
    clear hm
    go_wp2_with fail
    refine (alikeY_any s s2 _ _ _ _ _ _ _).mono ?_
    rintro e w6 ⟨rfl, hb6⟩
    rw [hn]
    go_wp2_with fail
    go_ret
    exact ⟨ret_bool HR.out, B5.out.trans (hb6.mono B5.out.size)⟩
   case pos =>
    have hn : (s == s2) = true := by simp [hne]
    clear hne
    have HR : Hid (eqY l m = sameY ⟨s, l⟩ ⟨s2, m⟩) := by unfold Hid sameY; simp [hn, hm]
    clear hm
    go_wp2_with fail
    refine (alikeY_any s s2 _ _ _ _ _ _ _).mono ?_
    rintro e w6 ⟨rfl, hb6⟩
    rw [hn]
    have B6 := hide (B5.out.trans (hb6.mono B5.out.size))
    clear hb6 k5 z50 z51 z52 z53
    go_wp2_with fail
    go_loopw [32] (fun i wr => SbInvY w w5 l m i wr) (fun i wr => l.length - (intOf i).toNat)
    case atStart => exact ⟨0, Nat.zero_le _, rfl, by simp [eqY], B6.out⟩
    case round =>
     obtain ⟨k, hk, rfl, hq, hb⟩ := hrel
     have HQ := hide hq
     clear hq
     by_cases hlt : k < l.length
     ·obtain ⟨b, o, a', c', rfl, d0, d1, hx⟩ := hs.get hb (fun _ _ h => h) k hlt
      obtain ⟨b2, o2, a2', c2', rfl, e0, e1, hx2⟩ := hs2.get hb (fun _ _ h => h) k (by have := HM.out; omega)
      have hltm : k < m.length := by have := HM.out; omega
      have HX := hide hx
      have HX2 := hide hx2
      have HB := hide hb
      have IHK := hide (fun (w' : World) => IH.out l[k] (List.getElem_mem hlt) m[k] (.agg #[.int .i64 l[k].base, .slice a' l[k].subs.length c']) (.agg #[.int .i64 m[k].base, .slice a2' m[k].subs.length c2']) w' X Y)
      have HT := hide (eqY_take hlt hltm)
      have HNO := hide (eqY_no hlt HM.out)
      have KQ : Hid (∀ w', Below wr.heap.size wr w' → w'.cell? ⟨b, o + k * 2, none⟩ = some (.int .i64 l[k].base) ∧ w'.cell? ⟨b, o + k * 2 + 1, none⟩ = some (.slice a' l[k].subs.length c') ∧ w'.cell? ⟨b2, o2 + k * 2, none⟩ = some (.int .i64 m[k].base) ∧ w'.cell? ⟨b2, o2 + k * 2 + 1, none⟩ = some (.slice a2' m[k].subs.length c2')) := fun w' hb => ⟨cell_later hb d0, cell_later hb d1, cell_later hb e0, cell_later hb e1⟩
      have HS0 := hide (KQ.out wr (Below.refl _ _))
      clear hx hx2 hb d0 d1 e0 e1
      generalize l[k] = y at *
      generalize m[k] = z at *
      go_wp2_with fail
      go_region_held3 (fun w' => w'.cell? ⟨b, o + k * 2, none⟩ = some (.int .i64 y.base) ∧ w'.cell? ⟨b, o + k * 2 + 1, none⟩ = some (.slice a' y.subs.length c') ∧ w'.cell? ⟨b2, o2 + k * 2, none⟩ = some (.int .i64 z.base) ∧ w'.cell? ⟨b2, o2 + k * 2 + 1, none⟩ = some (.slice a2' z.subs.length c2')) (first | exact HS0.out | exact hS1 | go_keep)
       ((go_at_call 83; refine (IHK.out _ (by exact HX.out.later (below_drewN (Below.refl _ _) 1)) (by exact HX2.out.later (below_drewN (Below.refl _ _) 1))).mono ?_; rintro e w1 ⟨rfl, hb1⟩; have k1 : Below wr.heap.size wr w1 := (below_drewN (Below.refl _ _) 1).trans (hb1.mono (by simp)); have hS1 := KQ.out _ k1))
      cases hsm : sameY y z with
      | true =>
       rw [hsm] at HT
       go_wp2_with fail
       go_roundw
       case rel => exact ⟨k + 1, by omega, by go_num, by rw [HT.out, HQ.out]; rfl, HB.out.trans (k1.mono HB.out.size)⟩
       case measure => simp [intOf]; omega
      | false =>
       have HF : Hid (false = sameY ⟨s, l⟩ ⟨s2, m⟩) := by unfold Hid; rw [← HR.out, HNO.out hsm]
       go_wp2_with fail
       go_ret
       exact ⟨ret_bool HF.out, HB.out.trans (k1.mono HB.out.size)⟩
     ·have HF : Hid (true = sameY ⟨s, l⟩ ⟨s2, m⟩) := by
       unfold Hid
       rw [← HR.out, ← HQ.out, List.take_of_length_le (by omega), List.take_of_length_le (by have := HM.out; omega)]
      go_wp2_with fail
      go_ret
      exact ⟨ret_bool HF.out, hb⟩
  ·have HR : Hid (false = sameY ⟨s, l⟩ ⟨s2, m⟩) := by unfold Hid sameY; simp [hm]
   have hm2 : ((l.length : Int) == (m.length : Int)) = false := beq_eq_false_iff_ne.2 (by omega)
   have hm3 : ((l.length : Int) != (m.length : Int)) = true := by simp; omega
   clear hm
   go_wp2_with fail
   go_ret
   exact ⟨ret_bool HR.out, B5.out⟩
theorem isSameY_any (t x : Ty) (v u : Value) (w : World) (X Y : Nat → Prop) (hv : YV w X v t) (hu : YV w Y u x) :
  Calls Tryz.prog 69 #[v, u] w fun e w' => e = .returned (.bool (sameY t x)) ∧ Below w.heap.size w w' := by
 have HV := hide hv
 have HU := hide hu
 obtain ⟨a, c, rfl, -⟩ := hv
 obtain ⟨a2, c2, rfl, -⟩ := hu
 go_enter Tryz.func69, Tryz.ntmps69
 go_wp2_with fail
 refine (sameYT_any t x _ _ _ X Y (HV.out.later (below2 _ _)) (HU.out.later (below2 _ _))).mono ?_
 rintro e w1 ⟨rfl, hb1⟩
 go_wp2_with fail
 go_ret
 exact ⟨rfl, (below2 _ _).trans (hb1.mono (by simp; omega))⟩
structure Bd where
 nm : ByteArray
 t : Tm
def BV (w : World) (X : Nat → Prop) (v : Value) (l : List Bd) : Prop :=
 ∃ a c, v = .slice a l.length c ∧ (l.length ≤ 9223372036854775807 ∧ l.length ≤ c) ∧ (l = [] ∨ ∃ b o, a = some ⟨b, o, none⟩ ∧ X b ∧ ∀ i (h : i < l.length), w.cell? ⟨b, o + i * 3, none⟩ = some (.string l[i].nm) ∧ w.cell? ⟨b, o + i * 3 + 1, none⟩ = some (.string l[i].t.name) ∧ ∃ a' c', w.cell? ⟨b, o + i * 3 + 2, none⟩ = some (.slice a' l[i].t.args.length c') ∧ Sl w X a' l[i].t.args)
theorem BV.kept {w w' : World} {X : Nat → Prop} {v : Value} {l : List Bd} (h : BV w X v l) (hk : ∀ b, X b → w'.heap[b]? = w.heap[b]?) : BV w' X v l := by
 obtain ⟨a, c, e, hl, h⟩ := h
 refine ⟨a, c, e, hl, ?_⟩
 rcases h with h | ⟨b, o, ea, hX, h⟩
 ·exact Or.inl h
 ·refine Or.inr ⟨b, o, ea, hX, fun i hi => ?_⟩
  obtain ⟨h1, h2, a', c', h3, h4⟩ := h i hi
  have hb := hk b hX
  exact ⟨by simpa [World.cell?, hb] using h1, by simpa [World.cell?, hb] using h2, a', c', by simpa [World.cell?, hb] using h3, h4.kept hk⟩
theorem cell_lt {w : World} {b o : Nat} {v : Value} (h : w.cell? ⟨b, o, none⟩ = some v) : b < w.heap.size := by
 rcases Nat.lt_or_ge b w.heap.size with h' | h'
 ·exact h'
 ·simp [World.cell?, Array.getElem?_eq_none h'] at h
theorem BV.mono {w : World} {X Y : Nat → Prop} {v : Value} {l : List Bd} (h : BV w X v l) (hk : ∀ b, X b → b < w.heap.size → Y b) : BV w Y v l := by
 obtain ⟨a, c, e, hl, h⟩ := h
 refine ⟨a, c, e, hl, ?_⟩
 rcases h with h | ⟨b, o, ea, hX, h⟩
 ·exact Or.inl h
 ·by_cases h0 : l = []
  ·exact Or.inl h0
  ·have hp : 0 < l.length := List.length_pos_iff.2 h0
   refine Or.inr ⟨b, o, ea, hk b hX (cell_lt (h 0 hp).1), fun i hi => ?_⟩
   obtain ⟨h1, h2, a', c', h3, h4⟩ := h i hi
   exact ⟨h1, h2, a', c', h3, h4.mono hk⟩
theorem BV.later {w w' : World} {X : Nat → Prop} {v : Value} {l : List Bd} (h : BV w X v l) (hb : Below w.heap.size w w') : BV w' X v l :=
 ((h.mono (Y := fun b => X b ∧ b < w.heap.size) fun b h1 h2 => ⟨h1, h2⟩).kept fun b hx => hb.block b hx.2).mono fun b hx _ => hx.1
theorem BV.alloc {w : World} {X : Nat → Prop} {v : Value} {l : List Bd} (h : BV w X v l) (o : Obj) : BV (w.alloc o) X v l := h.later ((Below.refl _ _).alloc (Nat.le_refl _) o)
theorem BV.get {w : World} {X : Nat → Prop} {a : Option Addr} {n c : Nat} {l : List Bd} (h : BV w X (.slice a n c) l) (i : Nat) (hi : i < l.length) :
  ∃ b o a' c', a = some ⟨b, o, none⟩ ∧ w.cell? ⟨b, o + i * 3, none⟩ = some (.string l[i].nm) ∧ w.cell? ⟨b, o + i * 3 + 1, none⟩ = some (.string l[i].t.name) ∧ w.cell? ⟨b, o + i * 3 + 2, none⟩ = some (.slice a' l[i].t.args.length c') ∧ Sl w X a' l[i].t.args := by
 obtain ⟨a2, c2, e, hl, h⟩ := h
 simp at e
 obtain ⟨rfl, rfl, rfl⟩ := e
 rcases h with h | ⟨b, o, ea, hX, h⟩
 ·subst h; simp at hi
 ·obtain ⟨h1, h2, a', c', h3, h4⟩ := h i hi
  exact ⟨b, o, a', c', ea, h1, h2, h3, h4⟩
theorem bytes_inj {a b : ByteArray} (h : a.toList = b.toList) : a = b := by
 rw [ByteArray.toList_eq, ByteArray.toList_eq] at h
 cases a with
 | mk x =>
  cases b with
  | mk y => congr 1; exact Array.toList_inj.1 h
theorem bytes_yes {a b : ByteArray} (h : a = b) : (a.toList == b.toList) = true := by rw [h]; simp
theorem bytes_no {a b : ByteArray} (h : a ≠ b) : (a.toList == b.toList) = false := beq_eq_false_iff_ne.2 fun e => h (bytes_inj e)
def forT : List Bd → ByteArray → Option Tm
 | [], _ => none
 | d :: r, n => if d.nm = n then some d.t else forT r n
theorem forT_take {l : List Bd} {n : ByteArray} {k : Nat} (hk : k < l.length) (h : forT (l.take k) n = none) : (l[k].nm = n → forT l n = some l[k].t) ∧ (l[k].nm ≠ n → forT (l.take (k + 1)) n = none) := by
 induction l generalizing k with
 | nil => simp at hk
 | cons d r ih =>
  cases k with
  | zero =>
   refine ⟨fun e => ?_, fun e => ?_⟩
   ·simp only [List.getElem_cons_zero] at e; simp [forT, e]
   ·simp only [List.getElem_cons_zero] at e; simp [forT, e]
  | succ k =>
   simp only [List.take_succ_cons, forT] at h
   by_cases hd : d.nm = n
   ·rw [if_pos hd] at h; cases h
   ·rw [if_neg hd] at h
    obtain ⟨h1, h2⟩ := ih (by simpa using hk) h
    refine ⟨fun e => ?_, fun e => ?_⟩
    ·rw [forT, if_neg hd]; exact h1 (by simpa using e)
    ·rw [List.take_succ_cons, forT, if_neg hd]; exact h2 (by simpa using e)
def mapGet : List (ByteArray × Value) → ByteArray → Option Value
 | [], _ => none
 | p :: r, n => if p.1 = n then some p.2 else mapGet r n
def Stamps (es : Array MapEntry) (clk : Nat) : Prop := (∀ x ∈ es.toList, x.born < clk) ∧ (es.toList.map (·.born)).Nodup
def MapAt (w : World) (r : Nat) (L : List (ByteArray × Value)) : Prop :=
 ∃ es clk, w.heap[r]? = some (.map es clk) ∧ es.toList.map (fun e => (e.key, e.val)) = L.map (fun p => (Value.string p.1, p.2)) ∧ Stamps es clk
theorem Stamps.push {es : Array MapEntry} {clk : Nat} (h : Stamps es clk) (k v : Value) : Stamps (es.push { key := k, val := v, born := clk }) (clk + 1) := by
 obtain ⟨h1, h2⟩ := h
 refine ⟨fun x hx => ?_, ?_⟩
 ·rw [Array.toList_push, List.mem_append] at hx
  rcases hx with hx | hx
  ·have := h1 x hx; omega
  ·have e : x = { key := k, val := v, born := clk } := by simpa using hx
   subst e; exact Nat.lt_succ_self _
 ·rw [Array.toList_push, List.map_append, List.nodup_append]
  refine ⟨h2, by simp, fun a ha b hb => ?_⟩
  obtain ⟨x, hx, rfl⟩ := List.mem_map.1 ha
  have := h1 x hx
  have e : b = clk := by simpa using hb
  omega
theorem map_born_modify (j : Nat) (k v : Value) : ∀ l : List MapEntry, (l.modify j fun e => { e with key := k, val := v }).map (·.born) = l.map (·.born) := by
 induction j with
 | zero => intro l; cases l <;> simp
 | succ j ih => intro l; cases l with
  | nil => simp
  | cons a r => simp [List.modify_succ_cons, ih r]
theorem Stamps.modify {es : Array MapEntry} {clk : Nat} (h : Stamps es clk) (j : Nat) (k v : Value) : Stamps (es.modify j fun e => { e with key := k, val := v }) clk := by
 obtain ⟨h1, h2⟩ := h
 have e := map_born_modify j k v es.toList
 refine ⟨fun x hx => ?_, by rw [Array.toList_modify, e]; exact h2⟩
 rw [Array.toList_modify] at hx
 have : x.born ∈ es.toList.map (·.born) := by rw [← e]; exact List.mem_map.2 ⟨x, hx, rfl⟩
 obtain ⟨y, hy, hb⟩ := List.mem_map.1 this
 rw [← hb]; exact h1 y hy
theorem MapAt.new (w : World) : MapAt (w.alloc (.map #[] 0)) w.heap.size [] := ⟨#[], 0, heap_alloc_new w _, rfl, by simp [Stamps]⟩
theorem MapAt.lt {w : World} {r : Nat} {L : List (ByteArray × Value)} (h : MapAt w r L) : r < w.heap.size := by
 obtain ⟨es, clk, h, _⟩ := h
 exact (Array.getElem?_eq_some_iff.1 h).1
theorem MapAt.kept {w w' : World} {r : Nat} {L : List (ByteArray × Value)} (h : MapAt w r L) (hk : w'.heap[r]? = w.heap[r]?) : MapAt w' r L := by
 obtain ⟨es, clk, h1, h2⟩ := h
 exact ⟨es, clk, hk.trans h1, h2⟩
theorem MapAt.below {w w' : World} {r B : Nat} {L : List (ByteArray × Value)} (h : MapAt w r L) (hb : Below B w w') (hB : r < B) : MapAt w' r L := h.kept (hb.block r hB)
theorem findNow_map (n : ByteArray) : ∀ (l : List MapEntry) (L : List (ByteArray × Value)) (i : Nat), l.map (fun e => (e.key, e.val)) = L.map (fun p => (Value.string p.1, p.2)) →
  (mapGet L n = none → Instr.findNow .string (.string n) l i = some none) ∧ (∀ v, mapGet L n = some v → ∃ j, Instr.findNow .string (.string n) l i = some (some (j, v)))
 | [], [], i, h => ⟨fun _ => rfl, fun v h => by simp [mapGet] at h⟩
 | [], p :: L, i, h => by simp at h
 | e :: l, [], i, h => by simp at h
 | e :: l, p :: L, i, h => by
  simp only [List.map_cons, List.cons.injEq, Prod.mk.injEq] at h
  obtain ⟨⟨hk, hv⟩, ht⟩ := h
  obtain ⟨ih1, ih2⟩ := findNow_map n l L (i + 1) ht
  by_cases hn : p.1 = n
  ·have hs : Instr.sameNow .string (.string n) e.key = some true := by
    rw [hk, hn]
    show some (n == n) = some true
    rw [show (n == n) = true from (MapKept.bytes_beq _ _).2 rfl]
   refine ⟨fun h => by simp [mapGet, hn] at h, fun v h => ⟨i, ?_⟩⟩
   simp only [mapGet, hn, if_true, Option.some.injEq] at h
   simp [Instr.findNow, hs, hv, h]
  ·have hs : Instr.sameNow .string (.string n) e.key = some false := by
    rw [hk]
    show some (n == p.1) = some false
    have hb : (n == p.1) = false := by
     cases hh : (n == p.1) with
     | false => rfl
     | true => exact absurd ((MapKept.bytes_beq _ _).1 hh).symm hn
    rw [hb]
   refine ⟨fun h => ?_, fun v h => ?_⟩
   ·rw [mapGet, if_neg hn] at h
    simp [Instr.findNow, hs, ih1 h]
   ·rw [mapGet, if_neg hn] at h
    obtain ⟨j, hj⟩ := ih2 v h
    exact ⟨j, by simp [Instr.findNow, hs, hj]⟩
theorem run_look {P : Program} {w : World} {T kt et : TypeId} {r : Nat} {L : List (ByteArray × Value)} {z : Value} (hm : P.underlying T = some (.map kt et)) (hk : P.underlying kt = some .string) (hz : (zeroValue et).run P w = .ok z w) (h : MapAt w r L) (n : ByteArray) :
  (Instr.lookup T (.map (some r)) (.string n) true).run P w = .ok (.tuple #[(mapGet L n).getD z, .bool (mapGet L n).isSome]) w := by
 obtain ⟨es, clk, hb, he, hst⟩ := h
 obtain ⟨h1, h2⟩ := findNow_map n es.toList L 0 he
 have hc : ∀ b, (Instr.checkKey b 10000 kt (.string n)).run P w = .ok () w := fun b => MapKept.run_checkKey (k := .string n) hk (by simp [MapKept.IsKey]) b 9999
 cases hg : mapGet L n with
 | none => simp [Instr.lookup, run_underlying hm, MapKept.run_getObj_map hb, hc, MapKept.run_findKey hk (h1 hg), Result.andThen, hz]
 | some v =>
  obtain ⟨j, hj⟩ := h2 v hg
  simp [Instr.lookup, run_underlying hm, MapKept.run_getObj_map hb, hc, MapKept.run_findKey hk hj, Result.andThen]
theorem run_put {P : Program} {w : World} {T kt et : TypeId} {r : Nat} {L : List (ByteArray × Value)} (hm : P.underlying T = some (.map kt et)) (hk : P.underlying kt = some .string) (h : MapAt w r L) (n : ByteArray) (v : Value) (hn : mapGet L n = none) :
  ∃ w', (Instr.mapUpdate T (.map (some r)) (.string n) v).run P w = .ok () w' ∧ MapAt w' r (L ++ [(n, v)]) ∧ w'.heap.size = w.heap.size ∧ w'.os = w.os ∧ w'.tape = w.tape ∧ w'.output = w.output ∧ (∀ b, b ≠ r → w'.heap[b]? = w.heap[b]?) := by
 obtain ⟨es, clk, hb, he, hst⟩ := h
 obtain ⟨h1, h2⟩ := findNow_map n es.toList L 0 he
 have hc : (Instr.checkKey false 10000 kt (.string n)).run P w = .ok () w := MapKept.run_checkKey (k := .string n) hk (by simp [MapKept.IsKey]) false 9999
 have hlt : r < w.heap.size := (Array.getElem?_eq_some_iff.1 hb).1
 refine ⟨{ w with heap := w.heap.setIfInBounds r (.map (es.push { key := .string n, val := v, born := clk }) (clk + 1)) }, ?_, ⟨_, _, (MapKept.heap_set hb).1, by simp [he], hst.push _ _⟩, by simp, rfl, rfl, rfl, fun b hne => (MapKept.heap_set hb).2 b hne⟩
 simp [Instr.mapUpdate, run_underlying hm, MapKept.run_getObj_map hb, hc, MapKept.run_findKey hk (h1 hn), MapKept.run_setObj_map _ hb, Result.andThen]
def mapGetI : List (Int × Value) → Int → Option Value
 | [], _ => none
 | p :: r, n => if p.1 = n then some p.2 else mapGetI r n
def MapI (w : World) (r : Nat) (L : List (Int × Value)) : Prop :=
 ∃ es clk, w.heap[r]? = some (.map es clk) ∧ es.toList.map (fun e => (e.key, e.val)) = L.map (fun p => (Value.int .i64 p.1, p.2)) ∧ Stamps es clk
theorem MapI.new (w : World) : MapI (w.alloc (.map #[] 0)) w.heap.size [] := ⟨#[], 0, heap_alloc_new w _, rfl, by simp [Stamps]⟩
theorem MapI.lt {w : World} {r : Nat} {L : List (Int × Value)} (h : MapI w r L) : r < w.heap.size := by
 obtain ⟨es, clk, h, _⟩ := h
 exact (Array.getElem?_eq_some_iff.1 h).1
theorem MapI.kept {w w' : World} {r : Nat} {L : List (Int × Value)} (h : MapI w r L) (hk : w'.heap[r]? = w.heap[r]?) : MapI w' r L := by
 obtain ⟨es, clk, h1, h2⟩ := h
 exact ⟨es, clk, hk.trans h1, h2⟩
theorem MapI.below {w w' : World} {r B : Nat} {L : List (Int × Value)} (h : MapI w r L) (hb : Below B w w') (hB : r < B) : MapI w' r L := h.kept (hb.block r hB)
theorem findNow_mapI (n : Int) : ∀ (l : List MapEntry) (L : List (Int × Value)) (i : Nat), l.map (fun e => (e.key, e.val)) = L.map (fun p => (Value.int .i64 p.1, p.2)) →
  (mapGetI L n = none → Instr.findNow (.int .i64) (.int .i64 n) l i = some none) ∧ (∀ v, mapGetI L n = some v → ∃ j, Instr.findNow (.int .i64) (.int .i64 n) l i = some (some (j, v)))
 | [], [], i, h => ⟨fun _ => rfl, fun v h => by simp [mapGetI] at h⟩
 | [], p :: L, i, h => by simp at h
 | e :: l, [], i, h => by simp at h
 | e :: l, p :: L, i, h => by
  simp only [List.map_cons, List.cons.injEq, Prod.mk.injEq] at h
  obtain ⟨⟨hk, hv⟩, ht⟩ := h
  obtain ⟨ih1, ih2⟩ := findNow_mapI n l L (i + 1) ht
  by_cases hn : p.1 = n
  ·have hs : Instr.sameNow (.int .i64) (.int .i64 n) e.key = some true := by
    rw [hk, hn]
    simp [Instr.sameNow]
   refine ⟨fun h => by simp [mapGetI, hn] at h, fun v h => ⟨i, ?_⟩⟩
   simp only [mapGetI, hn, if_true, Option.some.injEq] at h
   simp [Instr.findNow, hs, hv, h]
  ·have hs : Instr.sameNow (.int .i64) (.int .i64 n) e.key = some false := by
    rw [hk]
    simp [Instr.sameNow]
    exact fun e => hn e.symm
   refine ⟨fun h => ?_, fun v h => ?_⟩
   ·rw [mapGetI, if_neg hn] at h
    simp [Instr.findNow, hs, ih1 h]
   ·rw [mapGetI, if_neg hn] at h
    obtain ⟨j, hj⟩ := ih2 v h
    exact ⟨j, by simp [Instr.findNow, hs, hj]⟩
theorem run_lookI {P : Program} {w : World} {T kt et : TypeId} {r : Nat} {L : List (Int × Value)} {z : Value} (hm : P.underlying T = some (.map kt et)) (hk : P.underlying kt = some (.int .i64)) (hz : (zeroValue et).run P w = .ok z w) (h : MapI w r L) (n : Int) :
  (Instr.lookup T (.map (some r)) (.int .i64 n) true).run P w = .ok (.tuple #[(mapGetI L n).getD z, .bool (mapGetI L n).isSome]) w := by
 obtain ⟨es, clk, hb, he, hst⟩ := h
 obtain ⟨h1, h2⟩ := findNow_mapI n es.toList L 0 he
 have hc : ∀ b, (Instr.checkKey b 10000 kt (.int .i64 n)).run P w = .ok () w := fun b => MapKept.run_checkKey (k := .int .i64 n) hk (by simp [MapKept.IsKey]) b 9999
 cases hg : mapGetI L n with
 | none => simp [Instr.lookup, run_underlying hm, MapKept.run_getObj_map hb, hc, MapKept.run_findKey hk (h1 hg), Result.andThen, hz]
 | some v =>
  obtain ⟨j, hj⟩ := h2 v hg
  simp [Instr.lookup, run_underlying hm, MapKept.run_getObj_map hb, hc, MapKept.run_findKey hk hj, Result.andThen]
theorem run_putI {P : Program} {w : World} {T kt et : TypeId} {r : Nat} {L : List (Int × Value)} (hm : P.underlying T = some (.map kt et)) (hk : P.underlying kt = some (.int .i64)) (h : MapI w r L) (n : Int) (v : Value) (hn : mapGetI L n = none) :
  ∃ w', (Instr.mapUpdate T (.map (some r)) (.int .i64 n) v).run P w = .ok () w' ∧ MapI w' r (L ++ [(n, v)]) ∧ w'.heap.size = w.heap.size ∧ w'.os = w.os ∧ w'.tape = w.tape ∧ w'.output = w.output ∧ (∀ b, b ≠ r → w'.heap[b]? = w.heap[b]?) := by
 obtain ⟨es, clk, hb, he, hst⟩ := h
 obtain ⟨h1, h2⟩ := findNow_mapI n es.toList L 0 he
 have hc : (Instr.checkKey false 10000 kt (.int .i64 n)).run P w = .ok () w := MapKept.run_checkKey (k := .int .i64 n) hk (by simp [MapKept.IsKey]) false 9999
 have hlt : r < w.heap.size := (Array.getElem?_eq_some_iff.1 hb).1
 refine ⟨{ w with heap := w.heap.setIfInBounds r (.map (es.push { key := .int .i64 n, val := v, born := clk }) (clk + 1)) }, ?_, ⟨_, _, (MapKept.heap_set hb).1, by simp [he], hst.push _ _⟩, by simp, rfl, rfl, rfl, fun b hne => (MapKept.heap_set hb).2 b hne⟩
 simp [Instr.mapUpdate, run_underlying hm, MapKept.run_getObj_map hb, hc, MapKept.run_findKey hk (h1 hn), MapKept.run_setObj_map _ hb, Result.andThen]
def lkY : List (Int × Ty) → Int → Option Ty
 | [], _ => none
 | p :: r, n => if p.1 = n then some p.2 else lkY r n
theorem lkY_push (n m : Int) (t : Ty) : ∀ σ : List (Int × Ty), lkY σ n = none → lkY (σ ++ [(n, t)]) m = if n = m then some t else lkY σ m
 | [], _ => by
  simp only [List.nil_append, lkY]
 | p :: r, h => by
  simp only [List.cons_append, lkY] at h ⊢
  by_cases hp : p.1 = n
  ·rw [if_pos hp] at h; cases h
  ·rw [if_neg hp] at h
   have ih := lkY_push n m t r h
   rw [ih]
   by_cases hm : p.1 = m
   ·rw [if_pos hm, if_neg (fun e => hp (by rw [hm, e]))]
    rw [if_pos hm]
   ·rw [if_neg hm, if_neg hm]
def cyK (x : Int) (l : List Ty) (t : Ty) (σ : List (Int × Ty)) (b : List Ty → List (Int × Ty) → Bool × List (Int × Ty)) : Bool × List (Int × Ty) :=
 if l.length = 0 then (match lkY σ x with | some y => (sameY y t, σ) | none => (true, σ ++ [(x, t)]))
 else if t.subs.length = 2 then b t.subs σ else (false, σ)
def cyL : List Ty → List Ty → List (Int × Ty) → Bool × List (Int × Ty)
 | [], _, σ => (true, σ)
 | ⟨x, l⟩ :: r, ts, σ => match ts with
  | [] => (false, σ)
  | t :: q => if (cyK x l t σ (fun u τ => cyL l u τ)).1 = true then cyL r q (cyK x l t σ (fun u τ => cyL l u τ)).2 else cyK x l t σ (fun u τ => cyL l u τ)
def cyT (p t : Ty) (σ : List (Int × Ty)) : Bool × List (Int × Ty) := cyK p.base p.subs t σ (fun u τ => cyL p.subs u τ)
theorem cyL_cons (p : Ty) (r : List Ty) (t : Ty) (q : List Ty) (σ : List (Int × Ty)) : cyL (p :: r) (t :: q) σ = if (cyT p t σ).1 = true then cyL r q (cyT p t σ).2 else cyT p t σ := by
 obtain ⟨x, l⟩ := p
 simp only [cyL, cyT]
 rfl
theorem cyL_nil (q : List Ty) (σ : List (Int × Ty)) : cyL [] q σ = (true, σ) := by simp [cyL]
theorem cyT_old {x : Int} {t y : Ty} {σ : List (Int × Ty)} (h : lkY σ x = some y) : cyT ⟨x, []⟩ t σ = (sameY y t, σ) := by simp [cyT, cyK, h]
theorem cyT_new {x : Int} {t : Ty} {σ : List (Int × Ty)} (h : lkY σ x = none) : cyT ⟨x, []⟩ t σ = (true, σ ++ [(x, t)]) := by simp [cyT, cyK, h]
theorem cyT_no {p q t : Ty} {σ : List (Int × Ty)} (h : t.subs.length ≠ 2) (x : Int) : cyT ⟨x, [p, q]⟩ t σ = (false, σ) := by simp [cyT, cyK, h]
theorem cyT_two {p q u v : Ty} (x y : Int) (σ : List (Int × Ty)) : cyT ⟨x, [p, q]⟩ ⟨y, [u, v]⟩ σ = if (cyT p u σ).1 = true then cyT q v (cyT p u σ).2 else cyT p u σ := by
 have h : cyT ⟨x, [p, q]⟩ ⟨y, [u, v]⟩ σ = cyL [p, q] [u, v] σ := by simp [cyT, cyK]
 rw [h, cyL_cons]
 split
 ·rw [cyL_cons, cyL_nil]
  cases hq : (cyT q v (cyT p u σ).2) with
  | mk b τ => cases b <;> simp
 ·rfl
def caB (p t : Ty) : Bool := (cyT p t []).1
structure Pr where
 l : Tm
 r : Tm
def QV (w : World) (X : Nat → Prop) (v : Value) (l : List Pr) : Prop :=
 ∃ a c, v = .slice a l.length c ∧ (l.length ≤ 9223372036854775807 ∧ l.length ≤ c) ∧ (l = [] ∨ ∃ b o, a = some ⟨b, o, none⟩ ∧ X b ∧ ∀ i (h : i < l.length), ∃ a1 c1 a2 c2, w.cell? ⟨b, o + i * 4, none⟩ = some (.string l[i].l.name) ∧ w.cell? ⟨b, o + i * 4 + 1, none⟩ = some (.slice a1 l[i].l.args.length c1) ∧ w.cell? ⟨b, o + i * 4 + 2, none⟩ = some (.string l[i].r.name) ∧ w.cell? ⟨b, o + i * 4 + 3, none⟩ = some (.slice a2 l[i].r.args.length c2) ∧ Sl w X a1 l[i].l.args ∧ Sl w X a2 l[i].r.args)
theorem QV.kept {w w' : World} {X : Nat → Prop} {v : Value} {l : List Pr} (h : QV w X v l) (hk : ∀ b, X b → w'.heap[b]? = w.heap[b]?) : QV w' X v l := by
 obtain ⟨a, c, e, hl, h⟩ := h
 refine ⟨a, c, e, hl, ?_⟩
 rcases h with h | ⟨b, o, ea, hX, h⟩
 ·exact Or.inl h
 ·refine Or.inr ⟨b, o, ea, hX, fun i hi => ?_⟩
  obtain ⟨a1, c1, a2, c2, h1, h2, h3, h4, h5, h6⟩ := h i hi
  have hb := hk b hX
  exact ⟨a1, c1, a2, c2, by simpa [World.cell?, hb] using h1, by simpa [World.cell?, hb] using h2, by simpa [World.cell?, hb] using h3, by simpa [World.cell?, hb] using h4, h5.kept hk, h6.kept hk⟩
theorem QV.mono {w : World} {X Y : Nat → Prop} {v : Value} {l : List Pr} (h : QV w X v l) (hk : ∀ b, X b → b < w.heap.size → Y b) : QV w Y v l := by
 obtain ⟨a, c, e, hl, h⟩ := h
 refine ⟨a, c, e, hl, ?_⟩
 rcases h with h | ⟨b, o, ea, hX, h⟩
 ·exact Or.inl h
 ·by_cases h0 : l = []
  ·exact Or.inl h0
  ·have hp : 0 < l.length := List.length_pos_iff.2 h0
   obtain ⟨_, _, _, _, g, _⟩ := h 0 hp
   refine Or.inr ⟨b, o, ea, hk b hX (cell_lt g), fun i hi => ?_⟩
   obtain ⟨a1, c1, a2, c2, h1, h2, h3, h4, h5, h6⟩ := h i hi
   exact ⟨a1, c1, a2, c2, h1, h2, h3, h4, h5.mono hk, h6.mono hk⟩
theorem QV.later {w w' : World} {X : Nat → Prop} {v : Value} {l : List Pr} (h : QV w X v l) (hb : Below w.heap.size w w') : QV w' X v l :=
 ((h.mono (Y := fun b => X b ∧ b < w.heap.size) fun b h1 h2 => ⟨h1, h2⟩).kept fun b hx => hb.block b hx.2).mono fun b hx _ => hx.1
theorem QV.alloc {w : World} {X : Nat → Prop} {v : Value} {l : List Pr} (h : QV w X v l) (o : Obj) : QV (w.alloc o) X v l := h.later ((Below.refl _ _).alloc (Nat.le_refl _) o)
theorem QV.get {w : World} {X : Nat → Prop} {a : Option Addr} {n c : Nat} {l : List Pr} (h : QV w X (.slice a n c) l) (i : Nat) (hi : i < l.length) :
  ∃ b o a1 c1 a2 c2, a = some ⟨b, o, none⟩ ∧ w.cell? ⟨b, o + i * 4, none⟩ = some (.string l[i].l.name) ∧ w.cell? ⟨b, o + i * 4 + 1, none⟩ = some (.slice a1 l[i].l.args.length c1) ∧ w.cell? ⟨b, o + i * 4 + 2, none⟩ = some (.string l[i].r.name) ∧ w.cell? ⟨b, o + i * 4 + 3, none⟩ = some (.slice a2 l[i].r.args.length c2) ∧ Sl w X a1 l[i].l.args ∧ Sl w X a2 l[i].r.args := by
 obtain ⟨a2, c2, e, hl, h⟩ := h
 simp at e
 obtain ⟨rfl, rfl, rfl⟩ := e
 rcases h with h | ⟨b, o, ea, hX, h⟩
 ·subst h; simp at hi
 ·obtain ⟨a1, c1, a2, c2, h1, h2, h3, h4, h5, h6⟩ := h i hi
  exact ⟨b, o, a1, c1, a2, c2, ea, h1, h2, h3, h4, h5, h6⟩
def pmT (ls : List Pr) : Nat → Int
 | 0 => 0
 | k + 1 => if pmT ls k = 0 then (match ls[k]? with | some p => twoE p.l p.r | none => 0) else pmT ls k
def pairsE (ls : List Pr) : Int := if 40 < ls.length then 3 else pmT ls ls.length
theorem pmT_stays {ls : List Pr} {k : Nat} (h : pmT ls k ≠ 0) : ∀ n, k ≤ n → pmT ls n = pmT ls k
 | 0, hn => by
  have : k = 0 := by omega
  subst this; rfl
 | n + 1, hn => by
  by_cases e : k = n + 1
  ·subst e; rfl
  ·have ih := pmT_stays h n (by omega)
   rw [pmT, if_neg (by rw [ih]; exact h)]
   exact ih
theorem pmT_next {ls : List Pr} {k : Nat} (hk : k < ls.length) (h0 : pmT ls k = 0) : pmT ls (k + 1) = twoE ls[k].l ls[k].r := by rw [pmT, if_pos h0, List.getElem?_eq_getElem hk]
theorem pairsE_len {ls : List Pr} (h : pairsE ls = 0) : ls.length ≤ 40 := by
 unfold pairsE at h
 split at h
 ·cases h
 ·omega
theorem pairsE_all {ls : List Pr} (h : pairsE ls = 0) : ∀ p ∈ ls, mayE p.l = 0 ∧ mayE p.r = 0 := by
 intro p hp
 obtain ⟨k, hk, rfl⟩ := List.getElem_of_mem hp
 have h40 := pairsE_len h
 unfold pairsE at h
 rw [if_neg (by omega)] at h
 have h0 : ∀ n, n ≤ ls.length → pmT ls n = 0 := fun n hn => by
  by_cases e : pmT ls n = 0
  ·exact e
  ·have := pmT_stays e _ hn
   rw [this] at h
   exact absurd h e
 have h1 := pmT_next hk (h0 k (by omega))
 rw [h0 (k + 1) (by omega)] at h1
 have h2 := h1.symm
 unfold twoE at h2
 by_cases e : mayE ls[k].l = 0
 ·rw [if_pos e] at h2; exact ⟨e, h2⟩
 ·rw [if_neg e] at h2; exact absurd h2 e
def onN (l : List Bd) (s : ByteArray) (es0 bs : List Tm) : Tm :=
 match forT l s with
 | some x => if es0.isEmpty = true then x else ⟨s, bs⟩
 | none => ⟨s, bs⟩
def onL (l : List Bd) : List Tm → List Tm
 | [] => []
 | ⟨s, es0⟩ :: r => onN l s es0 (onL l es0) :: onL l r
def onT (l : List Bd) (t : Tm) : Tm := onN l t.name t.args (onL l t.args)
theorem onL_cons (l : List Bd) (t : Tm) (r : List Tm) : onL l (t :: r) = onT l t :: onL l r := by
 obtain ⟨s, es0⟩ := t
 simp only [onL, onT]
theorem onL_length (l : List Bd) : ∀ es0, (onL l es0).length = es0.length
 | [] => by simp [onL]
 | t :: r => by rw [onL_cons]; simp [onL_length l r]
theorem onL_append (l : List Bd) (b : List Tm) : ∀ a, onL l (a ++ b) = onL l a ++ onL l b
 | [] => by simp [onL]
 | t :: r => by rw [List.cons_append, onL_cons, onL_cons, onL_append l b r]; rfl
theorem onL_take (l : List Bd) (es0 : List Tm) (k : Nat) (h : k < es0.length) : onL l (es0.take (k + 1)) = onL l (es0.take k) ++ [onT l es0[k]] := by
 rw [List.take_succ_eq_append_getElem h, onL_append, onL_cons]
 simp [onL]
theorem onT_some {l : List Bd} {s : ByteArray} {x : Tm} (h : forT l s = some x) : onT l ⟨s, []⟩ = x := by simp [onT, onN, h]
theorem onT_deep {l : List Bd} {s : ByteArray} {es0 : List Tm} (h : es0 ≠ [] ∨ forT l s = none) : onT l ⟨s, es0⟩ = ⟨s, onL l es0⟩ := by
 unfold onT onN
 rcases h with h | h
 ·cases forT l s with
  | none => rfl
  | some x => simp [h]
 ·rw [h]
theorem onL_size_take (l : List Bd) (es0 : List Tm) (k : Nat) (h : k < es0.length) : sizeL (onL l (es0.take (k + 1))) = sizeL (onL l (es0.take k)) + sizeL [onT l es0[k]] := by rw [onL_take l es0 k h, sizeL_append]
theorem onL_size_le (l : List Bd) (es0 : List Tm) (k : Nat) : sizeL (onL l (es0.take k)) ≤ sizeL (onL l es0) := by
 have := sizeL_append (onL l (es0.take k)) (onL l (es0.drop k))
 rw [← onL_append, List.take_append_drop] at this
 omega
abbrev Bc := Bd × Option Addr × Nat
instance : Inhabited Bc := ⟨(⟨⟨#[]⟩, ⟨⟨#[]⟩, []⟩⟩, none, 0)⟩
def enc3 (x : Bc) : List Value := [.string x.1.nm, .string x.1.t.name, .slice x.2.1 x.1.t.args.length x.2.2]
def flat3 : List Bc → List Value
 | [] => []
 | x :: r => enc3 x ++ flat3 r
theorem flat3_append (b : List Bc) : ∀ a, flat3 (a ++ b) = flat3 a ++ flat3 b
 | [] => rfl
 | x :: r => by rw [List.cons_append, flat3, flat3, flat3_append b r, List.append_assoc]
theorem flat3_length : ∀ a : List Bc, (flat3 a).length = a.length * 3
 | [] => rfl
 | x :: r => by rw [flat3, List.length_append, flat3_length r]; simp [enc3]; omega
theorem flat3_get : ∀ (a : List Bc) (i : Nat) (h : i < a.length) (j : Nat), j < 3 → (flat3 a)[i * 3 + j]? = (enc3 a[i])[j]?
 | [], i, h, j, hj => by simp at h
 | x :: r, 0, h, j, hj => by
  rw [flat3, List.getElem?_append_left (by simp [enc3]; omega)]; simp
 | x :: r, i + 1, h, j, hj => by
  rw [flat3, List.getElem?_append_right (by simp [enc3]; omega)]
  have e : (i + 1) * 3 + j - (enc3 x).length = i * 3 + j := by simp [enc3]; omega
  rw [e, flat3_get r i (by simpa using h) j hj]
  simp
structure BRow (w : World) (N : Nat) (Y : Nat → Prop) (v : Value) (cs : List Bc) : Prop where
 own : w.ownsRow N 79 3 v cs.length (flat3 cs)
 row : ∀ x ∈ cs, Sl w (fun b => Y b ∨ (N ≤ b ∧ some b ≠ v.ownBlock)) x.2.1 x.1.t.args
theorem BRow.start (w : World) (N : Nat) (Y : Nat → Prop) : BRow w N Y (.slice none 0 0) [] := ⟨World.ownsRow_nil w N _ 3, by simp⟩
theorem BRow.below {w w' : World} {N : Nat} {Y : Nat → Prop} {v : Value} {cs : List Bc} (h : BRow w N Y v cs) (hb : Below w.heap.size w w') : BRow w' N Y v cs :=
 ⟨h.own.kept (w' := w') (row := none) ⟨hb.os, hb.tape, hb.output, hb.size, fun j hj _ => hb.block j hj⟩ (by rcases Option.eq_none_or_eq_some (Value.ownBlock v) with h | ⟨x, h⟩; exact Or.inl h; exact Or.inr (by rw [h]; simp)),
  fun x hx => (h.row x hx).later hb⟩
theorem BRow.ne {w : World} {N : Nat} {Y : Nat → Prop} {v : Value} {cs : List Bc} (h : BRow w N Y v cs) {b : Nat} (hb : b < N) : some b ≠ v.ownBlock := fun e => by
 have := (h.own.lt b e.symm).1; omega
theorem BRow.kept {w w' : World} {N : Nat} {Y : Nat → Prop} {v : Value} {cs : List Bc} {r : Nat} (h : BRow w N Y v cs) (hr : r < N) (hY : ¬ Y r) (ho : w'.os = w.os) (ht : w'.tape = w.tape) (hu : w'.output = w.output) (hz : w.heap.size ≤ w'.heap.size) (hk : ∀ j, j ≠ r → j < w.heap.size → w'.heap[j]? = w.heap[j]?) : BRow w' N Y v cs :=
 ⟨h.own.kept (w' := w') (row := some r) ⟨ho, ht, hu, hz, fun j hj hne => hk j (fun e => hne (by rw [e])) hj⟩ (Or.inr (fun e => h.ne hr e.symm)),
  fun x hx => by
  have h1 := (h.row x hx).mono (Y := fun b => (Y b ∨ (N ≤ b ∧ some b ≠ v.ownBlock)) ∧ b < w.heap.size) fun b h1 h2 => ⟨h1, h2⟩
  refine (h1.kept fun b hb => hk b (fun e => ?_) hb.2).mono fun b hb _ => hb.1
  rcases hb.1 with h2 | h2
  ·exact hY (e ▸ h2)
  ·omega⟩
theorem BRow.push {w w1 w2 w3 : World} {N : Nat} {Y : Nat → Prop} {v : Value} {cs : List Bc} (h : BRow w N Y v cs) (hN : N ≤ w.heap.size) (hY : ∀ b, Y b → b < N) (hb : Below w.heap.size w w1) {x : Bc}
  (ht : Sl w1 (fun b => Y b ∨ w.heap.size ≤ b) x.2.1 x.1.t.args) (o : Obj) (hw2 : w2 = w1.alloc o) {g cap : Nat}
  (hown : w3.ownsRow N 79 3 (.slice (some ⟨g, 0, none⟩) (cs.length + 1) cap) (cs.length + 1) (flat3 cs ++ enc3 x)) (hg : w2.grownBy w3 v.ownBlock) (hg1 : v.ownBlock = some g ∨ g = w2.heap.size) :
  BRow w3 N Y (.slice (some ⟨g, 0, none⟩) (cs.length + 1) cap) (cs ++ [x]) := by
 subst hw2
 have hlt := h.own.lt
 refine ⟨by rw [flat3_append]; simpa [flat3] using hown, fun y hy => ?_⟩
 have hsz : w1.heap.size ≤ (w1.alloc o).heap.size := by simp
 have hbs := hb.size
 have hgN : N ≤ g := by
  rcases hg1 with e | e
  ·exact (hlt g e).1
  ·simp at e; omega
 rcases List.mem_append.1 hy with hy | hy
 ·have h1 : Sl w (fun b => (Y b ∨ (N ≤ b ∧ some b ≠ v.ownBlock)) ∧ b < w.heap.size) y.2.1 y.1.t.args := (h.row y hy).mono fun b h1 h2 => ⟨h1, h2⟩
  have h2 : Sl w3 (fun b => (Y b ∨ (N ≤ b ∧ some b ≠ v.ownBlock)) ∧ b < w.heap.size) y.2.1 y.1.t.args := h1.kept fun b hx => by
   have hne : some b ≠ v.ownBlock := by
    rcases hx.1 with hy | hy
    ·exact h.ne (hY b hy)
    ·exact hy.2
   rw [hg.block b (by simp; omega) hne, Below.heap_alloc _ _ _ (by omega), hb.block b hx.2]
  refine h2.mono fun b hx _ => ?_
  rcases hx.1 with hy | hy
  ·exact Or.inl hy
  ·refine Or.inr ⟨hy.1, fun e => ?_⟩
   simp [Value.ownBlock] at e
   rcases hg1 with e' | e'
   ·exact hy.2 (by rw [e', e])
   ·simp at e'; omega
 ·have e : y = x := by simpa using hy
  subst e
  have h1 : Sl w1 (fun b => (Y b ∨ w.heap.size ≤ b) ∧ b < w1.heap.size) y.2.1 y.1.t.args := ht.mono fun b h1 h2 => ⟨h1, h2⟩
  have h2 : Sl w3 (fun b => (Y b ∨ w.heap.size ≤ b) ∧ b < w1.heap.size) y.2.1 y.1.t.args := h1.kept fun b hx => by
   have hne : some b ≠ v.ownBlock := by
    rcases hx.1 with hy | hy
    ·exact h.ne (hY b hy)
    ·intro e; have := (hlt b e.symm).2; omega
   rw [hg.block b (by simp; omega) hne, Below.heap_alloc _ _ _ hx.2]
  refine h2.mono fun b hx _ => ?_
  rcases hx.1 with hy | hy
  ·exact Or.inl hy
  ·refine Or.inr ⟨by omega, fun e => ?_⟩
   simp [Value.ownBlock] at e
   rcases hg1 with e' | e'
   ·have := (hlt g e').2; omega
   ·simp at e'; omega
theorem BRow.bv {w : World} {N : Nat} {Y : Nat → Prop} {v : Value} {cs : List Bc} (h : BRow w N Y v cs) : BV w (fun b => Y b ∨ N ≤ b) v (cs.map (·.1)) := by
 have hml : cs.length ≤ 9223372036854775807 := by
  rcases h.own.2 with ⟨_, h0⟩ | ⟨g, cap, cur, _, _, _, h1, h2, _⟩
  ·omega
  ·unfold maxLen at h2; omega
 by_cases h0 : 0 < cs.length
 ·obtain ⟨g, cap, rfl, hg, hlt, hc⟩ := owned_val h.own h0
  have hcap : cs.length ≤ cap := by
   rcases h.own.2 with ⟨e, _⟩ | ⟨g', cap', cur, e, _, _, h1, _⟩
   ·cases e
   ·simp at e; omega
  refine ⟨_, cap, by simp, ⟨by simpa using hml, by simpa using hcap⟩, Or.inr ⟨g, 0, rfl, Or.inr hg, fun i hi => ?_⟩⟩
  have hi' : i < cs.length := by simpa using hi
  have g0 := hc (i * 3 + 0) (.string cs[i].1.nm) (by rw [flat3_get cs i hi' 0 (by decide)]; rfl)
  have g1 := hc (i * 3 + 1) (.string cs[i].1.t.name) (by rw [flat3_get cs i hi' 1 (by decide)]; rfl)
  have g2 := hc (i * 3 + 2) (.slice cs[i].2.1 cs[i].1.t.args.length cs[i].2.2) (by rw [flat3_get cs i hi' 2 (by decide)]; rfl)
  simp only [List.getElem_map, Nat.zero_add]
  exact ⟨g0, g1, _, _, g2, (h.row cs[i] (List.getElem_mem hi')).mono fun b hb _ => hb.imp id (fun h => h.1)⟩
 ·have e : cs = [] := List.length_eq_zero_iff.1 (by omega)
  subst e
  rcases h.own.2 with ⟨hv, _⟩ | ⟨g, cap, cur, hv, _⟩
  ·exact ⟨none, 0, hv, by simp, Or.inl rfl⟩
  ·exact ⟨_, _, hv, by simp, Or.inl rfl⟩
def ltB (a b : ByteArray) : Bool := Op.bytesLess a.toList b.toList
theorem bl_irrefl : ∀ a : List UInt8, Op.bytesLess a a = false
 | [] => rfl
 | x :: r => by simp [Op.bytesLess, bl_irrefl r]
theorem bl_trans : ∀ a b c : List UInt8, Op.bytesLess a b = true → Op.bytesLess b c = true → Op.bytesLess a c = true
 | _, [], _, h, _ => by simp [Op.bytesLess] at h
 | _, _ :: _, [], _, h => by simp [Op.bytesLess] at h
 | [], _ :: _, _ :: _, _, _ => by simp [Op.bytesLess]
 | x :: a, y :: b, z :: c, h1, h2 => by
  simp only [Op.bytesLess, Bool.or_eq_true, Bool.and_eq_true, decide_eq_true_eq, beq_iff_eq] at h1 h2 ⊢
  rw [UInt8.lt_iff_toNat_lt] at h1 h2 ⊢
  rcases h1 with h1 | ⟨rfl, h1⟩ <;> rcases h2 with h2 | ⟨rfl, h2⟩
  ·left; omega
  ·left; exact h1
  ·left; exact h2
  ·right; exact ⟨rfl, bl_trans a b c h1 h2⟩
theorem bl_conn : ∀ a b : List UInt8, Op.bytesLess a b = false → Op.bytesLess b a = false → a = b
 | [], [], _, _ => rfl
 | [], _ :: _, h, _ => by simp [Op.bytesLess] at h
 | _ :: _, [], _, h => by simp [Op.bytesLess] at h
 | x :: a, y :: b, h1, h2 => by
  simp only [Op.bytesLess, Bool.or_eq_false_iff, decide_eq_false_iff_not] at h1 h2
  obtain ⟨h1, h3⟩ := h1
  obtain ⟨h2, h4⟩ := h2
  rw [UInt8.lt_iff_toNat_lt] at h1 h2
  have e : x = y := UInt8.toNat_inj.mp (by omega)
  subst e
  simp only [BEq.rfl, Bool.true_and] at h3 h4
  rw [bl_conn a b h3 h4]
theorem ltB_irrefl (a : ByteArray) : ltB a a = false := bl_irrefl _
theorem ltB_trans {a b c : ByteArray} (h1 : ltB a b = true) (h2 : ltB b c = true) : ltB a c = true := bl_trans _ _ _ h1 h2
theorem ltB_conn {a b : ByteArray} (h1 : ltB a b = false) (h2 : ltB b a = false) : a = b := bytes_inj (bl_conn _ _ h1 h2)
theorem ltB_asymm {a b : ByteArray} (h : ltB a b = true) : ltB b a = false := by
 cases hb : ltB b a with
 | false => rfl
 | true => have := ltB_trans h hb; rw [ltB_irrefl] at this; cases this
theorem ltB_ntrans {a b c : ByteArray} (h1 : ltB a b = false) (h2 : ltB b c = false) : ltB a c = false := by
 cases h : ltB a c with
 | false => rfl
 | true =>
  cases h3 : ltB b a with
  | true => rw [ltB_trans h3 h] at h2; cases h2
  | false =>
   have e := ltB_conn h1 h3
   subst e
   rw [h] at h2; cases h2
def SortedB (l : List Bd) : Prop := l.Pairwise fun a b => ltB a.nm b.nm = true
def ApartB (l : List Bd) : Prop := l.Pairwise fun a b => a.nm ≠ b.nm
theorem SortedB.apart {l : List Bd} (h : SortedB l) : ApartB l := h.imp fun {a b} h e => by rw [e, ltB_irrefl] at h; cases h
theorem ApartB.perm {l k : List Bd} (h : ApartB l) (hp : k.Perm l) : ApartB k := (hp.pairwise_iff (fun {_ _} hne => Ne.symm hne)).2 h
theorem sortedB_unique {l k : List Bd} (hp : l.Perm k) (h1 : SortedB l) (h2 : SortedB k) : l = k :=
 List.Perm.eq_of_pairwise (le := fun a b : Bd => ltB a.nm b.nm = true) (fun a b _ _ h3 h4 => by rw [ltB_asymm h3] at h4; cases h4) h1 h2 hp
theorem sortedB_of {l : List Bd} (ha : ApartB l) (h : l.Pairwise fun a b => ltB b.nm a.nm = false) : SortedB l := by
 unfold SortedB ApartB at *
 refine (List.pairwise_and_iff.2 ⟨ha, h⟩).imp fun {a b} ⟨h1, h2⟩ => ?_
 cases h3 : ltB a.nm b.nm with
 | true => rfl
 | false => exact absurd (ltB_conn h3 h2) h1
def LV {α : Type} (f : α → Value) (w : World) (X : Nat → Prop) (v : Value) (l : List α) : Prop :=
 ∃ a c, v = .slice a l.length c ∧ (l.length ≤ 9223372036854775807 ∧ l.length ≤ c) ∧ (l = [] ∨ ∃ b o, a = some ⟨b, o, none⟩ ∧ X b ∧ ∀ i (h : i < l.length), w.cell? ⟨b, o + i, none⟩ = some (f l[i]))
theorem LV.kept {α : Type} {f : α → Value} {w w' : World} {X : Nat → Prop} {v : Value} {l : List α} (h : LV f w X v l) (hk : ∀ b, X b → w'.heap[b]? = w.heap[b]?) : LV f w' X v l := by
 obtain ⟨a, c, e, hl, h⟩ := h
 refine ⟨a, c, e, hl, ?_⟩
 rcases h with h | ⟨b, o, e, hx, h⟩
 ·exact Or.inl h
 ·exact Or.inr ⟨b, o, e, hx, fun i hi => by rw [World.cell?_of_block (hk b hx)]; exact h i hi⟩
theorem LV.mono {α : Type} {f : α → Value} {w : World} {X Y : Nat → Prop} {v : Value} {l : List α} (h : LV f w X v l) (hk : ∀ b, X b → b < w.heap.size → Y b) : LV f w Y v l := by
 obtain ⟨a, c, e, hl, h⟩ := h
 refine ⟨a, c, e, hl, ?_⟩
 rcases h with h | ⟨b, o, e, hx, h⟩
 ·exact Or.inl h
 ·by_cases h0 : l = []
  ·exact Or.inl h0
  ·have hp : 0 < l.length := List.length_pos_iff.2 h0
   exact Or.inr ⟨b, o, e, hk b hx (World.block_lt_of_cell? w _ (h 0 hp)), h⟩
theorem LV.below {α : Type} {f : α → Value} {w w' : World} {X : Nat → Prop} {v : Value} {l : List α} {B : Nat} (h : LV f w X v l) (hb : Below B w w') (hX : ∀ b, X b → b < w.heap.size → b < B) : LV f w' X v l := by
 have h1 : LV f w (fun b => X b ∧ b < B) v l := h.mono fun b hx hs => ⟨hx, hX b hx hs⟩
 have h2 : LV f w' (fun b => X b ∧ b < B) v l := h1.kept fun b hx => hb.block b hx.2
 exact h2.mono fun b hx _ => hx.1
theorem LV.later {α : Type} {f : α → Value} {w w' : World} {X : Nat → Prop} {v : Value} {l : List α} (h : LV f w X v l) (hb : Below w.heap.size w w') : LV f w' X v l := h.below hb (fun _ _ h => h)
theorem LV.alloc {α : Type} {f : α → Value} {w : World} {X : Nat → Prop} {v : Value} {l : List α} (h : LV f w X v l) (o : Obj) : LV f (w.alloc o) X v l := h.later ((Below.refl _ _).alloc (Nat.le_refl _) o)
theorem LV.of_own {α : Type} {f : α → Value} {w : World} {N T : Nat} {v : Value} {l : List α} (h : w.ownsRow N T 1 v l.length (l.map f)) : LV f w (fun b => N ≤ b) v l := by
 have h' := h
 obtain ⟨_, h1⟩ := h
 rcases h1 with ⟨rfl, h0⟩ | ⟨g, cap, cur, hv, hg, hh, hnc, hcm, _⟩
 ·have e : l = [] := List.length_eq_zero_iff.1 h0
  subst e
  exact ⟨none, 0, rfl, by simp, Or.inl rfl⟩
 ·unfold maxLen at hcm
  refine ⟨some ⟨g, 0, none⟩, cap, hv, ⟨by omega, hnc⟩, ?_⟩
  by_cases h0 : l = []
  ·exact Or.inl h0
  ·have hp : 0 < l.length := List.length_pos_iff.2 h0
   obtain ⟨g2, cap2, hv2, _, _, hc⟩ := owned_val h' hp
   rw [hv] at hv2
   simp at hv2
   obtain ⟨rfl, rfl⟩ := hv2
   exact Or.inr ⟨g, 0, rfl, hg, fun i hi => by rw [Nat.zero_add]; exact hc i _ (by simp [hi])⟩
def inB (x : ByteArray) (l : List ByteArray) : Bool := l.any fun y => y.toList == x.toList
theorem inB_take {x : ByteArray} {l : List ByteArray} {k : Nat} (h : k < l.length) (h0 : inB x (l.take k) = false) (h1 : (l[k].toList == x.toList) = false) : inB x (l.take (k + 1)) = false := by
 unfold inB at *
 rw [List.take_succ_eq_append_getElem h, List.any_append, h0]
 simpa using h1
theorem inB_yes {x : ByteArray} {l : List ByteArray} {k : Nat} (h : k < l.length) (h1 : (l[k].toList == x.toList) = true) : inB x l = true := by
 unfold inB
 rw [List.any_eq_true]
 exact ⟨l[k], List.getElem_mem h, h1⟩
set_option maxHeartbeats 400000 in
theorem in_any (x : ByteArray) (l : List ByteArray) (v : Value) (w : World) (X : Nat → Prop) (hv : LV Value.string w X v l) :
  Calls Tryz.prog 37 #[.string x, v] w fun e w' => e = .returned (.bool (inB x l)) ∧ w' = w := by
 obtain ⟨a, c, rfl, ⟨hl, _⟩, h1⟩ := hv
 go_enter Tryz.func37, Tryz.ntmps37
 go_wp2_with fail
 go_loop [5] (fun i => ∃ k : Nat, k ≤ l.length ∧ i = .int .i64 k ∧ inB x (l.take k) = false) (fun i => l.length - (intOf i).toNat)
 case atStart => exact ⟨0, Nat.zero_le _, rfl, by simp [inB]⟩
 case round =>
  obtain ⟨k, hk, rfl, ha⟩ := hrel
  have HA := hide ha
  clear ha
  by_cases hlt : k < l.length
  ·obtain ⟨b, o, rfl, _, hc⟩ := h1.resolve_left (fun h => by rw [h] at hlt; simp at hlt)
   have d1 := hc k hlt
   clear hc h1
   cases hq : (l[k].toList == x.toList) with
   | true =>
    have HQ := hide (inB_yes hlt hq)
    go_wp2_with fail
    go_ret
    exact ⟨ret_bool HQ.out.symm, rfl⟩
   | false =>
    have HQ := hide (inB_take hlt HA.out hq)
    go_wp2_with fail
    go_round
    case rel => exact ⟨k + 1, by omega, by go_num, HQ.out⟩
    case measure => simp [intOf]; omega
  ·have htk : l.take k = l := List.take_of_length_le (by omega)
   have HF : Hid (false = inB x l) := by unfold Hid; rw [← HA.out, htk]
   go_wp2_with fail
   go_ret
   exact ⟨ret_bool HF.out, rfl⟩
theorem Tryz.infoStr : (Tryz.prog.info? 9).map (fun i => (i.zero, i.size, i.bytes)) = some (some (.string ByteArray.empty), 1, 16) := by kernel_rfl
def addV (acc : List ByteArray) (s : ByteArray) : List ByteArray := if (varB s && !inB s acc) = true then acc ++ [s] else acc
def varsP (acc : List ByteArray) (ks : List Tm) : List ByteArray := ks.foldl (fun acc k => addV acc k.name) acc
theorem addV_yes {acc : List ByteArray} {s : ByteArray} (h : varB s = true) (h2 : inB s acc = false) : addV acc s = acc ++ [s] := by simp [addV, h, h2]
theorem addV_in {acc : List ByteArray} {s : ByteArray} (h : varB s = true) (h2 : inB s acc = true) : addV acc s = acc := by simp [addV, h, h2]
theorem addV_no {acc : List ByteArray} {s : ByteArray} (h : varB s = false) : addV acc s = acc := by simp [addV, h]
theorem addV_len (acc : List ByteArray) (s : ByteArray) : (addV acc s).length ≤ acc.length + 1 := by
 unfold addV; split <;> simp
theorem varsP_append (acc : List ByteArray) (a b : List Tm) : varsP acc (a ++ b) = varsP (varsP acc a) b := by simp [varsP, List.foldl_append]
theorem varsP_len (ks : List Tm) : ∀ acc, (varsP acc ks).length ≤ acc.length + ks.length := by
 induction ks with
 | nil => intro acc; simp [varsP]
 | cons k r ih => intro acc; have := ih (addV acc k.name); have h2 := addV_len acc k.name; simp only [varsP, List.foldl_cons, List.length_cons] at *; omega
theorem varsP_take (acc : List ByteArray) (ks : List Tm) (k : Nat) (h : k < ks.length) : varsP acc (ks.take (k + 1)) = addV (varsP acc (ks.take k)) ks[k].name := by
 rw [List.take_succ_eq_append_getElem h, varsP_append]; rfl
set_option maxHeartbeats 1000000 in
theorem varsOf_any (t : Tm) (v : Value) (w : World) (X : Nat → Prop) (hv : TV w X v t) (hsm : sizeL [t] ≤ 1000000) :
  Calls Tryz.prog 16 #[v] w fun e w' => ∃ v', e = .returned v' ∧ LV Value.string w' (fun b => w.heap.size ≤ b) v' (varsP [] (preL [t])) ∧ Below w.heap.size w w' := by
 obtain ⟨a, c, rfl, hs⟩ := hv
 have HV := hide (show TV w X (.agg #[.string t.name, .slice a t.args.length c]) t from ⟨a, c, rfl, hs⟩)
 clear hs
 obtain ⟨i0, hi, hz0, hz1, hz2⟩ := info_parts Tryz.infoStr
 go_enter Tryz.func16, Tryz.ntmps16
 go_wp2_with fail
 refine (knots_any t _ _ X (by exact HV.out.alloc _) hsm).mono ?_
 rintro e w2 ⟨v2, xs, rfl, hown, hrow, hb3⟩
 have hpos : 0 < sizeL [t] := by obtain ⟨s', l'⟩ := t; simp [sizeL]; omega
 obtain ⟨g, cap, rfl, hg, hg', hcel⟩ := owned_val hown hpos
 have hb4 := hide (((Below.refl w.heap.size w).alloc (Nat.le_refl _) (.cells #[.string t.name, .slice a t.args.length c] 48)).trans (hb3.mono (by simp)))
 have HROW := hide hrow
 have HCEL := hide hcel
 have hpl := preL_length [t]
 generalize hkse : preL [t] = ks at *
 have HKSE := hide hkse
 clear hkse
 have hks : ks.length ≤ 1000000 := by omega
 rw [← hpl]
 clear hown hrow hcel hb3 hpl hpos hsm
 go_wp2_with fail
 go_loopw [4, 5] (fun q i wr => ∃ k : Nat, k ≤ ks.length ∧ i = .int .i64 k ∧ wr.ownsRow w2.heap.size 9 1 q (varsP [] (ks.take k)).length ((varsP [] (ks.take k)).map Value.string) ∧ Below w2.heap.size w2 wr) (fun q i wr => ks.length - (intOf i).toNat)
 case atStart => exact ⟨0, Nat.zero_le _, rfl, by simpa [varsP] using World.ownsRow_nil w2 w2.heap.size 9 1, Below.refl _ _⟩
 case round =>
  obtain ⟨k, hk, rfl, hown, hb⟩ := hrel
  have HOWN := hide hown
  have HB := hide hb
  by_cases hlt : k < ks.length
  ·obtain ⟨x0, a', c', x1, hsl⟩ := HROW.out.get k hlt
   have d0 := cell_later hb (HCEL.out _ _ x0)
   have HT := hide (varsP_take [] ks k hlt)
   have hlen0 := varsP_len (ks.take k) []
   have hlen : (varsP [] (ks.take k)).length ≤ 1000000 := by
    have : (ks.take k).length ≤ k := List.length_take_le _ _
    simp at hlen0; omega
   clear x0 x1 hsl hown hb hlen0
   generalize hacc : varsP [] (ks.take k) = acc at *
   have HACC := hide hacc
   clear hacc
   cases hvb : varB ks[k].name with
   | false =>
    have HN := hide (addV_no (acc := acc) hvb)
    have HVB := hide hvb
    clear hvb
    go_wp2_with (go_at_call 36; refine (isVarR_any _ _).mono ?_; rintro e w' ⟨rfl, rfl⟩; rw [HVB.out])
    go_roundw
    case rel => exact ⟨k + 1, by omega, by go_num, by rw [HT.out, HN.out]; exact HOWN.out, HB.out⟩
    case measure => simp [intOf]; omega
   | true =>
    have HVB := hide hvb
    cases hin : inB ks[k].name acc with
    | true =>
     have HN := hide (addV_in hvb hin)
     have HIN := hide hin
     clear hvb hin
     go_wp2_with (first | (go_at_call 36; refine (isVarR_any _ _).mono ?_; rintro e w' ⟨rfl, rfl⟩; rw [HVB.out]) | (go_at_call 37; refine (in_any _ _ _ _ _ (LV.of_own HOWN.out)).mono ?_; rintro e w' ⟨rfl, rfl⟩; rw [HIN.out]))
     go_roundw
     case rel => exact ⟨k + 1, by omega, by go_num, by rw [HT.out, HN.out]; exact HOWN.out, HB.out⟩
     case measure => simp [intOf]; omega
    | false =>
     have HN := hide (addV_yes hvb hin)
     have HIN := hide hin
     clear hvb hin
     obtain ⟨q2, w3, hr2, hown2, hgr2, _⟩ := run_append_own (P := Tryz.prog) (wr.alloc (.cells #[.string ks[k].name] 9)) w2.heap.size 56 56 9 i0 _ 1 16 Tryz.underlying56 hi hz0 hz1 hz2 rfl (by decide) _ acc.length (acc.map Value.string) (HOWN.out.alloc _)
      ⟨wr.heap.size, 0, none⟩ 1 1 [.string ks[k].name] rfl (cell_one_new _ _ _) (fun x hx => by simp at hx; subst hx; rfl) (by unfold maxLen; omega) (by omega) (by have := HB.out.size; simp; omega)
     have HR := hide hr2
     have HO2 := hide hown2
     have HB2 := hide ((HB.out.alloc HB.out.size _).grown hgr2 (by have := HB.out.size; simp; omega) (fun j hj => (HOWN.out.lt j hj).1))
     clear hr2 hown2 hgr2
     go_wp2_with (first | (go_at_call 36; refine (isVarR_any _ _).mono ?_; rintro e w' ⟨rfl, rfl⟩; rw [HVB.out]) | (go_at_call 37; refine (in_any _ _ _ _ _ (LV.of_own HOWN.out)).mono ?_; rintro e w' ⟨rfl, rfl⟩; rw [HIN.out]) | (at_builtin; refine wpList_append_eq rfl _ _ _ _ rfl rfl rfl HR.out ?_))
     go_roundw
     case rel => exact ⟨k + 1, by omega, by go_num, by rw [HT.out, HN.out]; simpa using HO2.out, HB2.out⟩
     case measure => simp [intOf]; omega
  ·have htk : ks.take k = ks := List.take_of_length_le (by omega)
   rw [htk] at hown
   have HO := hide hown
   clear hown hb
   go_wp2_with fail
   go_ret
   exact ⟨_, rfl, by rw [HKSE.out]; exact (LV.of_own HO.out).mono fun b hb _ => Nat.le_trans hb4.out.size hb, hb4.out.trans (HB.out.mono hb4.out.size)⟩
theorem grown_trans {w w1 w2 : World} {r r1 : Option Nat} (h : w.grownBy w1 r) (h1 : w1.grownBy w2 r1) (hr : ∀ k, r1 = some k → r = some k ∨ w.heap.size ≤ k) : w.grownBy w2 r :=
 ⟨h1.os.trans h.os, h1.tape.trans h.tape, h1.output.trans h.output, Nat.le_trans h.size h1.size, fun k hk hne => (h1.block k (Nat.lt_of_lt_of_le hk h.size) (fun e => by
  rcases hr k e.symm with h2 | h2
  ·exact hne h2.symm
  ·omega)).trans (h.block k hk hne)⟩
theorem grown_of_below {w w' : World} (hb : Below w.heap.size w w') (r : Option Nat) : w.grownBy w' r := ⟨hb.os, hb.tape, hb.output, hb.size, fun k hk _ => hb.block k hk⟩
theorem TV.grown {w w' : World} {X : Nat → Prop} {v : Value} {t : Tm} {r : Option Nat} (h : TV w X v t) (hg : w.grownBy w' r) (hX : ∀ b, X b → some b ≠ r) : TV w' X v t := by
 have h1 : TV w (fun b => X b ∧ b < w.heap.size) v t := h.mono fun b h1 h2 => ⟨h1, h2⟩
 have h2 : TV w' (fun b => X b ∧ b < w.heap.size) v t := h1.kept fun b hx => hg.block b hx.2 (hX b hx.1)
 exact h2.mono fun b hx _ => hx.1
def NamesAt (w0 : World) (B : Nat) (q0 : Value) (acc : List ByteArray) (q : Value) (wr : World) : Prop :=
 wr.ownsRow B 9 1 q acc.length (acc.map Value.string) ∧ w0.grownBy wr q0.ownBlock ∧ (∀ k, q.ownBlock = some k → q0.ownBlock = some k ∨ w0.heap.size ≤ k)
theorem NamesAt.step {w0 w1 w2 : World} {B : Nat} {q0 q1 q2 : Value} {acc1 acc2 : List ByteArray} (h1 : NamesAt w0 B q0 acc1 q1 w1) (h2 : NamesAt w1 B q1 acc2 q2 w2) : NamesAt w0 B q0 acc2 q2 w2 := by
 refine ⟨h2.1, grown_trans h1.2.1 h2.2.1 h1.2.2, fun k hk => ?_⟩
 rcases h2.2.2 k hk with h | h
 ·exact h1.2.2 k h
 ·exact Or.inr (Nat.le_trans h1.2.1.size h)
theorem NamesAt.below {w0 w1 w2 : World} {B : Nat} {q0 q1 : Value} {acc1 : List ByteArray} (h1 : NamesAt w0 B q0 acc1 q1 w1) (hb : Below w1.heap.size w1 w2) : NamesAt w0 B q0 acc1 q1 w2 :=
 ⟨h1.1.kept (w' := w2) (row := none) ⟨hb.os, hb.tape, hb.output, hb.size, fun j hj _ => hb.block j hj⟩ (by rcases Option.eq_none_or_eq_some (Value.ownBlock q1) with h | ⟨x, h⟩; exact Or.inl h; exact Or.inr (by rw [h]; simp)),
  grown_trans h1.2.1 (grown_of_below hb q1.ownBlock) h1.2.2, h1.2.2⟩
def insB (d : Bd) : List Bd → List Bd
 | [] => [d]
 | e :: r => if ltB d.nm e.nm = true then d :: e :: r else e :: insB d r
def srtB : List Bd → List Bd
 | [] => []
 | d :: r => insB d (srtB r)
theorem insB_perm (d : Bd) : ∀ l, (insB d l).Perm (d :: l)
 | [] => List.Perm.refl _
 | e :: r => by
  rw [insB]
  split
  ·exact List.Perm.refl _
  ·exact ((insB_perm d r).cons e).trans (List.Perm.swap d e r)
theorem srtB_perm : ∀ l, (srtB l).Perm l
 | [] => List.Perm.refl _
 | d :: r => (insB_perm d _).trans ((srtB_perm r).cons d)
theorem insB_sorted (d : Bd) : ∀ l, SortedB l → (∀ e ∈ l, d.nm ≠ e.nm) → SortedB (insB d l)
 | [], _, _ => by simp [insB, SortedB]
 | e :: r, h, hn => by
  obtain ⟨h1, h2⟩ := List.pairwise_cons.1 h
  rw [insB]
  split
  ·rename_i hlt
   refine List.pairwise_cons.2 ⟨fun x hx => ?_, h⟩
   rcases List.mem_cons.1 hx with rfl | hx
   ·exact hlt
   ·exact ltB_trans hlt (h1 x hx)
  ·rename_i hlt
   refine List.pairwise_cons.2 ⟨fun x hx => ?_, insB_sorted d r h2 fun e he => hn e (by simp [he])⟩
   rcases List.mem_cons.1 ((insB_perm d r).subset hx) with rfl | hx
   ·cases h3 : ltB e.nm x.nm with
    | true => rfl
    | false => exact absurd (ltB_conn (by simpa using hlt) h3) (hn e (by simp))
   ·exact h1 x hx
theorem srtB_sorted : ∀ l, ApartB l → SortedB (srtB l)
 | [], _ => by simp [srtB, SortedB]
 | d :: r, h => by
  obtain ⟨h1, h2⟩ := List.pairwise_cons.1 h
  exact insB_sorted d _ (srtB_sorted r h2) fun e he => h1 e ((srtB_perm r).subset he)
inductive UO where
 | go (s : List Bd) (l : List Pr)
 | stop (e : Int) (s : List Bd)
def zipP : List Tm → List Tm → List Pr
 | a :: r, b :: q => ⟨a, b⟩ :: zipP r q
 | _, _ => []
def putB (x : ByteArray) (t : Tm) (d : Bd) : Bd := ⟨d.nm, onT [⟨x, t⟩] d.t⟩
def grtB (s : List Bd) : Bool := s.any fun d => decide (2000 < sizeL [d.t])
def uBind (lim : Bool) (s : List Bd) (l : List Pr) (x : ByteArray) (t : Tm) : UO :=
 if inB x (varsP [] (preL [t])) = true then .stop 6 s
 else if (lim && grtB (s.map (putB x t))) = true then .stop 8 s
 else .go (srtB (s.map (putB x t) ++ [⟨x, t⟩])) l
def uPair (lim : Bool) (s : List Bd) (l : List Pr) (a b : Tm) : UO :=
 if 2000 < sizeL [a] ∨ 2000 < sizeL [b] then .stop 8 s
 else if varB a.name = true then (if a.name = b.name then .go s l else uBind lim s l a.name b)
 else if varB b.name = true then uBind lim s l b.name a
 else if a.name = b.name ∧ a.args.length = b.args.length then .go s (zipP a.args b.args ++ l)
 else .stop 5 s
def uNext (lim : Bool) (s : List Bd) : List Pr → UO
 | [] => .stop 0 s
 | p :: l => uPair lim s l (onT s p.l) (onT s p.r)
theorem uNext_cons (lim : Bool) (s : List Bd) (p : Pr) (l : List Pr) : uNext lim s (p :: l) = uPair lim s l (onT s p.l) (onT s p.r) := rfl
def uRun (lim : Bool) : Nat → List Bd → List Pr → Option (Int × List Bd)
 | 0, _, _ => none
 | n + 1, s, l => match uNext lim s l with
  | .stop e s' => some (e, s')
  | .go s' l' => uRun lim n s' l'
theorem sizeL_pos (t : Tm) : 1 ≤ sizeL [t] := by
 obtain ⟨s, l⟩ := t
 simp [sizeL]
theorem onL_grow (ls : List Bd) : ∀ l : List Tm, sizeL l ≤ sizeL (onL ls l) := by
 intro l
 induction l using Tm.indL with
 | h0 => simp [onL, sizeL]
 | h s l r ihl ihr =>
  have e1 : sizeL (onL ls (⟨s, l⟩ :: r)) = sizeL [onT ls ⟨s, l⟩] + sizeL (onL ls r) := by
   rw [onL_cons]
   generalize onT ls ⟨s, l⟩ = x
   obtain ⟨s2, m⟩ := x
   simp [sizeL]
  have e2 : sizeL (⟨s, l⟩ :: r) = (1 + sizeL l) + sizeL r := by simp [sizeL]
  have h1 : 1 + sizeL l ≤ sizeL [onT ls ⟨s, l⟩] := by
   by_cases hl : l = []
   ·subst hl
    have := sizeL_pos (onT ls ⟨s, []⟩)
    simpa [sizeL] using this
   ·rw [onT_deep (Or.inl hl)]
    simp only [sizeL]
    omega
  rw [e1, e2]
  omega
theorem onT_grow (ls : List Bd) (t : Tm) : sizeL [t] ≤ sizeL [onT ls t] := by
 have h := onL_grow ls [t]
 rw [onL_cons] at h
 simpa [onL] using h
theorem grtB_perm {l k : List Bd} (h : l.Perm k) : grtB l = grtB k := by
 unfold grtB
 rw [Bool.eq_iff_iff, List.any_eq_true, List.any_eq_true]
 exact ⟨fun ⟨d, hd, e⟩ => ⟨d, h.subset hd, e⟩, fun ⟨d, hd, e⟩ => ⟨d, h.symm.subset hd, e⟩⟩
theorem grtB_put {s : List Bd} (x : ByteArray) (t : Tm) (h : grtB s = true) : grtB (s.map (putB x t)) = true := by
 unfold grtB at *
 rw [List.any_eq_true] at *
 obtain ⟨d, hd, e⟩ := h
 refine ⟨putB x t d, List.mem_map.2 ⟨d, hd, rfl⟩, ?_⟩
 have h1 := onT_grow [⟨x, t⟩] d.t
 simp only [decide_eq_true_eq] at e ⊢
 exact Nat.lt_of_lt_of_le e h1
theorem grtB_new {s : List Bd} (x : ByteArray) (t : Tm) : grtB (srtB (s.map (putB x t) ++ [⟨x, t⟩])) = (grtB (s.map (putB x t)) || decide (2000 < sizeL [t])) := by
 rw [grtB_perm (srtB_perm _)]
 unfold grtB
 rw [List.any_append]
 simp
theorem uNext_great {lim : Bool} {s s' : List Bd} {l l' : List Pr} (h : uNext lim s l = .go s' l') (hg : grtB s = true) : grtB s' = true := by
 cases l with
 | nil => cases h
 | cons p l =>
  have bind : ∀ x t, uBind lim s l x t = .go s' l' → grtB s' = true := fun x t h => by
   unfold uBind at h
   split at h
   ·cases h
   ·split at h
    ·cases h
    ·cases h
     rw [grtB_new, grtB_put x t hg]
     rfl
  rw [uNext_cons] at h
  unfold uPair at h
  generalize onT s p.l = a at h
  generalize onT s p.r = b at h
  split at h
  ·cases h
  ·split at h
   ·split at h
    ·cases h; exact hg
    ·exact bind _ _ h
   ·split at h
    ·exact bind _ _ h
    ·split at h
     ·cases h; exact hg
     ·cases h
theorem uNext_stop {lim : Bool} {s s' : List Bd} {l : List Pr} {e : Int} (h : uNext lim s l = .stop e s') : s' = s := by
 cases l with
 | nil => cases h; rfl
 | cons p l =>
  have bind : ∀ x t, uBind lim s l x t = .stop e s' → s' = s := fun x t h => by
   unfold uBind at h
   split at h
   ·cases h; rfl
   ·split at h
    ·cases h; rfl
    ·cases h
  rw [uNext_cons] at h
  unfold uPair at h
  generalize onT s p.l = a at h
  generalize onT s p.r = b at h
  split at h
  ·cases h; rfl
  ·split at h
   ·split at h
    ·cases h
    ·exact bind _ _ h
   ·split at h
    ·exact bind _ _ h
    ·split at h
     ·cases h
     ·cases h; rfl
theorem uRun_great {lim : Bool} : ∀ (n : Nat) (s : List Bd) (l : List Pr) (e : Int) (sf : List Bd), uRun lim n s l = some (e, sf) → grtB s = true → grtB sf = true
 | 0, _, _, _, _, h, _ => by cases h
 | n + 1, s, l, e, sf, h, hg => by
  rw [uRun] at h
  cases hn : uNext lim s l with
  | stop e' s' =>
   rw [hn] at h
   cases h
   rw [uNext_stop hn]; exact hg
  | go s' l' =>
   rw [hn] at h
   exact uRun_great n s' l' e sf h (uNext_great hn hg)
theorem uNext_lim {s : List Bd} {l : List Pr} : uNext true s l = uNext false s l ∨ (uNext true s l = .stop 8 s ∧ ∃ s' l', uNext false s l = .go s' l' ∧ grtB s' = true) := by
 cases l with
 | nil => exact Or.inl rfl
 | cons p l =>
  have bind : ∀ x t, uBind true s l x t = uBind false s l x t ∨ (uBind true s l x t = .stop 8 s ∧ ∃ s' l', uBind false s l x t = .go s' l' ∧ grtB s' = true) := fun x t => by
   unfold uBind
   by_cases h1 : inB x (varsP [] (preL [t])) = true
   ·rw [if_pos h1, if_pos h1]; exact Or.inl rfl
   ·rw [if_neg h1, if_neg h1]
    cases h2 : grtB (s.map (putB x t)) with
    | true => exact Or.inr ⟨rfl, _, _, rfl, by rw [grtB_new, h2]; rfl⟩
    | false => exact Or.inl rfl
  rw [uNext_cons, uNext_cons]
  unfold uPair
  generalize onT s p.l = a
  generalize onT s p.r = b
  by_cases h1 : 2000 < sizeL [a] ∨ 2000 < sizeL [b]
  ·rw [if_pos h1, if_pos h1]; exact Or.inl rfl
  ·rw [if_neg h1, if_neg h1]
   by_cases h2 : varB a.name = true
   ·rw [if_pos h2, if_pos h2]
    by_cases h3 : a.name = b.name
    ·rw [if_pos h3, if_pos h3]; exact Or.inl rfl
    ·rw [if_neg h3, if_neg h3]; exact bind _ _
   ·rw [if_neg h2, if_neg h2]
    by_cases h3 : varB b.name = true
    ·rw [if_pos h3, if_pos h3]; exact bind _ _
    ·rw [if_neg h3, if_neg h3]; exact Or.inl rfl
theorem uRun_lim : ∀ (n : Nat) (s : List Bd) (l : List Pr) (e : Int) (sf : List Bd), uRun false n s l = some (e, sf) → grtB s = false → ∃ e' sf', uRun true n s l = some (e', sf') ∧ (grtB sf = true → e' = 8) ∧ (grtB sf = false → e' = e ∧ sf' = sf)
 | 0, _, _, _, _, h, _ => by cases h
 | n + 1, s, l, e, sf, h, hg => by
  rw [uRun] at h
  rcases uNext_lim (s := s) (l := l) with h1 | ⟨h1, s', l', h2, h3⟩
  ·rw [uRun, h1]
   cases hn : uNext false s l with
   | stop e' s' =>
    rw [hn] at h
    cases h
    refine ⟨e, sf, rfl, fun h4 => ?_, fun _ => ⟨rfl, rfl⟩⟩
    rw [uNext_stop hn, hg] at h4
    cases h4
   | go s' l' =>
    rw [hn] at h
    cases h4 : grtB s' with
    | false => exact uRun_lim n s' l' e sf h h4
    | true =>
     exfalso
     rw [hn] at h1
     have h5 : grtB s' = false := by
      cases l with
      | nil => cases hn
      | cons p l =>
       have bind : ∀ x t, sizeL [t] ≤ 2000 → uBind true s l x t = .go s' l' → grtB s' = false := fun x t ht h => by
        unfold uBind at h
        split at h
        ·cases h
        ·split at h
         ·cases h
         ·rename_i h6
          cases h
          rw [grtB_new]
          simp only [Bool.true_and, Bool.not_eq_true] at h6
          rw [h6]
          simp; omega
       rw [uNext_cons] at h1
       unfold uPair at h1
       generalize onT s p.l = a at h1
       generalize onT s p.r = b at h1
       split at h1
       ·cases h1
       ·rename_i h7
        split at h1
        ·split at h1
         ·cases h1; exact hg
         ·exact bind _ _ (by omega) h1
        ·split at h1
         ·exact bind _ _ (by omega) h1
         ·split at h1
          ·cases h1; exact hg
          ·cases h1
     rw [h5] at h4
     cases h4
  ·rw [h2] at h
   have h4 := uRun_great n s' l' e sf h h3
   refine ⟨8, s, by rw [uRun, h1], fun _ => rfl, fun h5 => ?_⟩
   rw [h4] at h5
   cases h5
def mpL (f : ByteArray → ByteArray) : List Tm → List Tm
 | [] => []
 | ⟨s, l⟩ :: r => ⟨f s, mpL f l⟩ :: mpL f r
def mpT (f : ByteArray → ByteArray) (t : Tm) : Tm := ⟨f t.name, mpL f t.args⟩
def mpB (f : ByteArray → ByteArray) (d : Bd) : Bd := ⟨f d.nm, mpT f d.t⟩
def mpP (f : ByteArray → ByteArray) (p : Pr) : Pr := ⟨mpT f p.l, mpT f p.r⟩
def mpU (f : ByteArray → ByteArray) : UO → UO
 | .go s l => .go (s.map (mpB f)) (l.map (mpP f))
 | .stop e s => .stop e (s.map (mpB f))
theorem mpL_cons (f : ByteArray → ByteArray) (t : Tm) (r : List Tm) : mpL f (t :: r) = mpT f t :: mpL f r := by
 obtain ⟨s, l⟩ := t
 simp only [mpL, mpT]
theorem mpL_map (f : ByteArray → ByteArray) : ∀ l, mpL f l = l.map (mpT f)
 | [] => by simp [mpL]
 | t :: r => by rw [mpL_cons, mpL_map f r]; rfl
theorem mpL_len (f : ByteArray → ByteArray) (l : List Tm) : (mpL f l).length = l.length := by rw [mpL_map]; simp
theorem mpL_size (f : ByteArray → ByteArray) (l : List Tm) : sizeL (mpL f l) = sizeL l := by
 induction l using Tm.indL with
 | h0 => simp [mpL]
 | h s l r ihl ihr => simp only [mpL, sizeL, ihl, ihr]
theorem mpT_size (f : ByteArray → ByteArray) (t : Tm) : sizeL [mpT f t] = sizeL [t] := by
 have := mpL_size f [t]
 rw [mpL_cons, mpL_map f []] at this
 exact this
theorem mpL_empty (f : ByteArray → ByteArray) (l : List Tm) : (mpL f l).isEmpty = l.isEmpty := by
 rw [mpL_map]; simp
def DnL (D : ByteArray → Prop) (l : List Tm) : Prop := ∀ k ∈ preL l, D k.name
theorem DnL.cons {D : ByteArray → Prop} {t : Tm} {r : List Tm} : DnL D (t :: r) ↔ D t.name ∧ DnL D t.args ∧ DnL D r := by
 obtain ⟨s, l⟩ := t
 unfold DnL
 simp only [preL, List.mem_cons, List.mem_append]
 constructor
 ·intro h
  exact ⟨h ⟨s, l⟩ (Or.inl rfl), fun k hk => h k (Or.inr (Or.inl hk)), fun k hk => h k (Or.inr (Or.inr hk))⟩
 ·rintro ⟨h1, h2, h3⟩ k (rfl | hk | hk)
  ·exact h1
  ·exact h2 k hk
  ·exact h3 k hk
theorem DnL.nil {D : ByteArray → Prop} : DnL D [] := fun k hk => by simp [preL] at hk
theorem DnL.one {D : ByteArray → Prop} {t : Tm} : DnL D [t] ↔ D t.name ∧ DnL D t.args := by
 rw [DnL.cons]
 exact ⟨fun h => ⟨h.1, h.2.1⟩, fun h => ⟨h.1, h.2, DnL.nil⟩⟩
theorem DnL.all {D : ByteArray → Prop} : ∀ {l : List Tm}, DnL D l ↔ ∀ t ∈ l, DnL D [t]
 | [] => by simp [DnL.nil]
 | t :: r => by
  rw [DnL.cons, DnL.all (l := r)]
  simp only [List.mem_cons, forall_eq_or_imp, DnL.one]
  exact ⟨fun h => ⟨⟨h.1, h.2.1⟩, h.2.2⟩, fun h => ⟨h.1.1, h.1.2, h.2⟩⟩
def DnB (D : ByteArray → Prop) (s : List Bd) : Prop := ∀ d ∈ s, D d.nm ∧ DnL D [d.t]
def DnP (D : ByteArray → Prop) (l : List Pr) : Prop := ∀ p ∈ l, DnL D [p.l] ∧ DnL D [p.r]
structure OkF (D : ByteArray → Prop) (f : ByteArray → ByteArray) : Prop where
 inj : ∀ a b, D a → D b → f a = f b → a = b
 var : ∀ a, D a → varB (f a) = varB a
 lt : ∀ a b, D a → D b → ltB (f a) (f b) = ltB a b
theorem forT_mp {D : ByteArray → Prop} {f : ByteArray → ByteArray} (hf : OkF D f) {n : ByteArray} (hn : D n) : ∀ {s : List Bd}, DnB D s → forT (s.map (mpB f)) (f n) = (forT s n).map (mpT f)
 | [], _ => rfl
 | d :: r, h => by
  have h1 := h d (by simp)
  have ih := forT_mp hf hn (s := r) fun e he => h e (by simp [he])
  simp only [List.map_cons, forT, mpB]
  by_cases e : d.nm = n
  ·rw [if_pos e, if_pos (by rw [e])]; rfl
  ·rw [if_neg e, if_neg (fun e2 => e (hf.inj _ _ h1.1 hn e2)), ← ih]
theorem forT_dn {D : ByteArray → Prop} {n : ByteArray} {x : Tm} : ∀ {s : List Bd}, DnB D s → forT s n = some x → DnL D [x]
 | [], _, h => by cases h
 | d :: r, h, e => by
  simp only [forT] at e
  split at e
  ·cases e; exact (h d (by simp)).2
  ·exact forT_dn (fun e he => h e (by simp [he])) e
theorem onL_mp {D : ByteArray → Prop} {f : ByteArray → ByteArray} (hf : OkF D f) {s : List Bd} (hs : DnB D s) (l : List Tm) : DnL D l → onL (s.map (mpB f)) (mpL f l) = mpL f (onL s l) ∧ DnL D (onL s l) := by
 induction l using Tm.indL with
 | h0 => intro _; simp only [mpL, onL]; exact ⟨trivial, DnL.nil⟩
 | h n l r ihl ihr =>
  intro h
  obtain ⟨h1, h2, h3⟩ := DnL.cons.1 h
  obtain ⟨i1, i2⟩ := ihl h2
  obtain ⟨i3, i4⟩ := ihr h3
  have h1' : D n := h1
  simp only [mpL, onL]
  rw [i1, i3, mpL_cons]
  have key : onN (s.map (mpB f)) (f n) (mpL f l) (mpL f (onL s l)) = mpT f (onN s n l (onL s l)) ∧ DnL D [onN s n l (onL s l)] := by
   unfold onN
   rw [forT_mp hf h1' hs]
   cases hq : forT s n with
   | none => exact ⟨rfl, DnL.one.2 ⟨h1', i2⟩⟩
   | some x =>
    simp only [Option.map_some, mpL_empty]
    cases l.isEmpty with
    | true => exact ⟨rfl, forT_dn hs hq⟩
    | false => exact ⟨rfl, DnL.one.2 ⟨h1', i2⟩⟩
  rw [key.1]
  exact ⟨rfl, DnL.cons.2 ⟨(DnL.one.1 key.2).1, (DnL.one.1 key.2).2, i4⟩⟩
theorem onT_mp {D : ByteArray → Prop} {f : ByteArray → ByteArray} (hf : OkF D f) {s : List Bd} (hs : DnB D s) {t : Tm} (ht : DnL D [t]) : onT (s.map (mpB f)) (mpT f t) = mpT f (onT s t) ∧ DnL D [onT s t] := by
 have h := onL_mp hf hs [t] ht
 rw [mpL_cons, onL_cons, onL_cons, mpL_cons] at h
 simp only [onL] at h
 exact ⟨(List.cons.inj h.1).1, h.2⟩
theorem inB_mem1 {x : ByteArray} {l : List ByteArray} : inB x l = true ↔ x ∈ l := by
 unfold inB
 rw [List.any_eq_true]
 constructor
 ·rintro ⟨y, hy, e⟩
  have e1 : y.toList = x.toList := by simpa using e
  have e2 : y = x := by
   have h := congrArg List.toArray e1
   rw [ByteArray.toList_eq, ByteArray.toList_eq] at h
   cases y; cases x
   simpa using h
  exact e2 ▸ hy
 ·intro h
  exact ⟨x, h, by simp⟩
theorem inB_mp {D : ByteArray → Prop} {f : ByteArray → ByteArray} (hf : OkF D f) {x : ByteArray} (hx : D x) {l : List ByteArray} (hl : ∀ y ∈ l, D y) : inB (f x) (l.map f) = inB x l := by
 rw [Bool.eq_iff_iff, inB_mem1, inB_mem1, List.mem_map]
 constructor
 ·rintro ⟨y, hy, e⟩
  rw [← hf.inj _ _ (hl y hy) hx e]
  exact hy
 ·intro h
  exact ⟨x, h, rfl⟩
theorem addV_mp {D : ByteArray → Prop} {f : ByteArray → ByteArray} (hf : OkF D f) {x : ByteArray} (hx : D x) {l : List ByteArray} (hl : ∀ y ∈ l, D y) : addV (l.map f) (f x) = (addV l x).map f ∧ ∀ y ∈ addV l x, D y := by
 unfold addV
 rw [hf.var x hx, inB_mp hf hx hl]
 split
 ·refine ⟨by simp, fun y hy => ?_⟩
  rcases List.mem_append.1 hy with h | h
  ·exact hl y h
  ·rw [List.mem_singleton.1 h]; exact hx
 ·exact ⟨rfl, hl⟩
theorem preL_mp (f : ByteArray → ByteArray) (l : List Tm) : (preL (mpL f l)).map (·.name) = ((preL l).map (·.name)).map f := by
 induction l using Tm.indL with
 | h0 => simp [mpL, preL]
 | h s l r ihl ihr => simp only [mpL, preL, List.map_cons, List.map_append, ihl, ihr]
theorem varsN (acc : List ByteArray) : ∀ ks : List Tm, varsP acc ks = (ks.map (·.name)).foldl addV acc := fun ks => by
 unfold varsP
 rw [List.foldl_map]
theorem foldV_mp {D : ByteArray → Prop} {f : ByteArray → ByteArray} (hf : OkF D f) : ∀ (ns acc : List ByteArray), (∀ y ∈ ns, D y) → (∀ y ∈ acc, D y) → (ns.map f).foldl addV (acc.map f) = (ns.foldl addV acc).map f ∧ ∀ y ∈ ns.foldl addV acc, D y
 | [], acc, _, h => ⟨rfl, h⟩
 | n :: r, acc, hn, h => by
  have h1 := addV_mp hf (hn n (by simp)) h
  simp only [List.map_cons, List.foldl_cons]
  rw [h1.1]
  exact foldV_mp hf r _ (fun y hy => hn y (by simp [hy])) h1.2
theorem varsP_mp {D : ByteArray → Prop} {f : ByteArray → ByteArray} (hf : OkF D f) {t : Tm} (ht : DnL D [t]) : varsP [] (preL [mpT f t]) = (varsP [] (preL [t])).map f ∧ ∀ y ∈ varsP [] (preL [t]), D y := by
 have e : preL [mpT f t] = preL (mpL f [t]) := by rw [mpL_cons, mpL_map f []]; rfl
 rw [varsN, varsN, e, preL_mp]
 refine foldV_mp hf _ [] (fun y hy => ?_) (by simp)
 obtain ⟨k, hk, rfl⟩ := List.mem_map.1 hy
 exact ht k hk
theorem insB_mp {D : ByteArray → Prop} {f : ByteArray → ByteArray} (hf : OkF D f) {d : Bd} (hd : D d.nm) : ∀ {s : List Bd}, DnB D s → insB (mpB f d) (s.map (mpB f)) = (insB d s).map (mpB f)
 | [], _ => rfl
 | e :: r, h => by
  have h1 := h e (by simp)
  simp only [List.map_cons, insB]
  rw [show (mpB f d).nm = f d.nm from rfl, show (mpB f e).nm = f e.nm from rfl, hf.lt _ _ hd h1.1, insB_mp hf hd (s := r) fun x hx => h x (by simp [hx])]
  split <;> rfl
theorem srtB_dn {D : ByteArray → Prop} {s : List Bd} (h : DnB D s) : DnB D (srtB s) := fun d hd => h d ((srtB_perm s).subset hd)
theorem srtB_mp {D : ByteArray → Prop} {f : ByteArray → ByteArray} (hf : OkF D f) : ∀ {s : List Bd}, DnB D s → srtB (s.map (mpB f)) = (srtB s).map (mpB f)
 | [], _ => rfl
 | e :: r, h => by
  have hr : DnB D r := fun x hx => h x (by simp [hx])
  simp only [List.map_cons, srtB]
  rw [srtB_mp hf hr, insB_mp hf (h e (by simp)).1 (srtB_dn hr)]
theorem grtB_mp (f : ByteArray → ByteArray) (s : List Bd) : grtB (s.map (mpB f)) = grtB s := by
 unfold grtB
 rw [List.any_map]
 congr 1
 funext d
 simp only [Function.comp, mpB, mpT_size]
theorem putB_mp {D : ByteArray → Prop} {f : ByteArray → ByteArray} (hf : OkF D f) {x : ByteArray} (hx : D x) {t : Tm} (ht : DnL D [t]) {s : List Bd} (hs : DnB D s) : (s.map (mpB f)).map (putB (f x) (mpT f t)) = (s.map (putB x t)).map (mpB f) ∧ DnB D (s.map (putB x t)) := by
 have h1 : DnB D [⟨x, t⟩] := fun d hd => by rw [List.mem_singleton.1 hd]; exact ⟨hx, ht⟩
 constructor
 ·rw [List.map_map, List.map_map]
  refine List.map_congr_left fun d hd => ?_
  have h := onT_mp hf h1 (hs d hd).2
  simp only [Function.comp, putB, mpB]
  rw [show [(⟨f x, mpT f t⟩ : Bd)] = [(⟨x, t⟩ : Bd)].map (mpB f) from rfl, h.1]
 ·intro d hd
  obtain ⟨d0, hd0, rfl⟩ := List.mem_map.1 hd
  exact ⟨(hs d0 hd0).1, (onT_mp hf h1 (hs d0 hd0).2).2⟩
def DnU (D : ByteArray → Prop) : UO → Prop
 | .go s l => DnB D s ∧ DnP D l
 | .stop _ s => DnB D s
theorem uBind_mp {D : ByteArray → Prop} {f : ByteArray → ByteArray} (hf : OkF D f) (lim : Bool) {s : List Bd} (hs : DnB D s) {l : List Pr} (hl : DnP D l) {x : ByteArray} (hx : D x) {t : Tm} (ht : DnL D [t]) : uBind lim (s.map (mpB f)) (l.map (mpP f)) (f x) (mpT f t) = mpU f (uBind lim s l x t) ∧ DnU D (uBind lim s l x t) := by
 have hv := varsP_mp hf ht
 have hp := putB_mp hf hx ht hs
 unfold uBind
 rw [hv.1, inB_mp hf hx hv.2, hp.1, grtB_mp]
 have hD : DnB D (s.map (putB x t) ++ [⟨x, t⟩]) := fun d hd => by
  rcases List.mem_append.1 hd with h | h
  ·exact hp.2 d h
  ·rw [List.mem_singleton.1 h]; exact ⟨hx, ht⟩
 split
 ·exact ⟨rfl, hs⟩
 ·split
  ·exact ⟨rfl, hs⟩
  ·refine ⟨?_, srtB_dn hD, hl⟩
   simp only [mpU]
   rw [← srtB_mp hf hD]
   simp [mpB]
theorem zip_mp (f : ByteArray → ByteArray) : ∀ a b : List Tm, zipP (mpL f a) (mpL f b) = (zipP a b).map (mpP f)
 | [], _ => by simp [mpL, zipP]
 | t :: r, [] => by rw [mpL_cons]; simp [mpL, zipP]
 | t :: r, u :: q => by rw [mpL_cons, mpL_cons]; simp only [zipP, List.map_cons]; rw [zip_mp f r q]; rfl
theorem zip_dn {D : ByteArray → Prop} : ∀ {a b : List Tm}, DnL D a → DnL D b → DnP D (zipP a b)
 | [], _, _, _ => fun p hp => by simp [zipP] at hp
 | t :: r, [], _, _ => fun p hp => by simp [zipP] at hp
 | t :: r, u :: q, ha, hb => fun p hp => by
  obtain ⟨a1, a2, a3⟩ := DnL.cons.1 ha
  obtain ⟨b1, b2, b3⟩ := DnL.cons.1 hb
  simp only [zipP] at hp
  rcases List.mem_cons.1 hp with rfl | hp
  ·exact ⟨DnL.one.2 ⟨a1, a2⟩, DnL.one.2 ⟨b1, b2⟩⟩
  ·exact zip_dn a3 b3 p hp
theorem uPair_mp {D : ByteArray → Prop} {f : ByteArray → ByteArray} (hf : OkF D f) (lim : Bool) {s : List Bd} (hs : DnB D s) {l : List Pr} (hl : DnP D l) {a b : Tm} (ha : DnL D [a]) (hb : DnL D [b]) : uPair lim (s.map (mpB f)) (l.map (mpP f)) (mpT f a) (mpT f b) = mpU f (uPair lim s l a b) ∧ DnU D (uPair lim s l a b) := by
 obtain ⟨a1, a2⟩ := DnL.one.1 ha
 obtain ⟨b1, b2⟩ := DnL.one.1 hb
 have e : (mpT f a).name = (mpT f b).name ↔ a.name = b.name := ⟨fun h => hf.inj _ _ a1 b1 h, fun h => congrArg f h⟩
 have e2 : (mpT f a).args.length = (mpT f b).args.length ↔ a.args.length = b.args.length := by
  show (mpL f a.args).length = (mpL f b.args).length ↔ _
  rw [mpL_len, mpL_len]
 unfold uPair
 rw [mpT_size, mpT_size, show varB (mpT f a).name = varB a.name from hf.var _ a1, show varB (mpT f b).name = varB b.name from hf.var _ b1]
 simp only [e, e2]
 split
 ·exact ⟨rfl, hs⟩
 ·split
  ·split
   ·exact ⟨rfl, hs, hl⟩
   ·exact uBind_mp hf lim hs hl a1 hb
  ·split
   ·exact uBind_mp hf lim hs hl b1 ha
   ·split
    ·refine ⟨?_, hs, fun p hp => ?_⟩
     ·show UO.go _ (zipP (mpL f a.args) (mpL f b.args) ++ _) = _
      rw [zip_mp]
      simp [mpU]
     ·rcases List.mem_append.1 hp with h | h
      ·exact zip_dn a2 b2 p h
      ·exact hl p h
    ·exact ⟨rfl, hs⟩
theorem uRun_mp {D : ByteArray → Prop} {f : ByteArray → ByteArray} (hf : OkF D f) (lim : Bool) : ∀ (n : Nat) {s : List Bd} (hs : DnB D s) {l : List Pr} (hl : DnP D l) {R : Int × List Bd}, uRun lim n s l = some R → uRun lim n (s.map (mpB f)) (l.map (mpP f)) = some (R.1, R.2.map (mpB f)) ∧ DnB D R.2
 | 0, _, _, _, _, _, h => by cases h
 | n + 1, s, hs, [], hl, R, h => by
  simp only [uRun, uNext] at h
  cases h
  exact ⟨rfl, hs⟩
 | n + 1, s, hs, p :: l, hl, R, h => by
  have hp := hl p (by simp)
  have hl' : DnP D l := fun q hq => hl q (by simp [hq])
  have o1 := onT_mp hf hs hp.1
  have o2 := onT_mp hf hs hp.2
  have k := uPair_mp hf lim hs hl' o1.2 o2.2
  rw [uRun, uNext_cons] at h
  rw [uRun, List.map_cons, uNext_cons, show (mpP f p).l = mpT f p.l from rfl, show (mpP f p).r = mpT f p.r from rfl, o1.1, o2.1, k.1]
  have k2 := k.2
  revert h k2
  cases uPair lim s l (onT s p.l) (onT s p.r) with
  | stop e s' =>
   intro h k2
   cases h
   exact ⟨rfl, k2⟩
  | go s' l' =>
   intro h k2
   exact uRun_mp hf lim n k2.1 k2.2 h
structure Lm where
 kind : Int
 idx : Int
 subs : List Lm
theorem Lm.ind {P : Lm → Prop} (h : ∀ k x l, (∀ y ∈ l, P y) → P ⟨k, x, l⟩) (t : Lm) : P t :=
 Lm.rec (motive_1 := P) (motive_2 := fun l => ∀ x ∈ l, P x) (fun k x l ih => h k x l ih) (fun x hx => by cases hx)
  (fun a l ha hl x hx => by
   rcases List.mem_cons.1 hx with e | e
   ·subst e; exact ha
   ·exact hl x e) t
theorem Lm.indL {P : List Lm → Prop} (h0 : P []) (h : ∀ k x l r, P l → P r → P (⟨k, x, l⟩ :: r)) (l : List Lm) : P l :=
 Lm.rec_1 (motive_1 := fun t => P t.subs) (motive_2 := P) (fun _ _ _ ih => ih) h0 (fun a l ha hl => by obtain ⟨k, x, m⟩ := a; exact h k x m l ha hl) l
def sizeM : List Lm → Nat
 | [] => 0
 | ⟨_, _, l⟩ :: r => 1 + sizeM l + sizeM r
theorem sizeM_append (a b : List Lm) : sizeM (a ++ b) = sizeM a + sizeM b := by
 induction a with
 | nil => simp [sizeM]
 | cons t r ih => obtain ⟨k, x, l⟩ := t; simp only [List.cons_append, sizeM, ih]; omega
theorem sizeM_take (l : List Lm) (k : Nat) (h : k < l.length) : sizeM (l.take (k + 1)) = sizeM (l.take k) + sizeM [l[k]] := by
 rw [List.take_succ_eq_append_getElem h, sizeM_append]
theorem sizeM_take_le (l : List Lm) (k : Nat) : sizeM (l.take k) ≤ sizeM l := by
 have h := sizeM_append (l.take k) (l.drop k)
 rw [List.take_append_drop] at h
 omega
def LiesM (w : World) (X : Nat → Prop) : Nat → Nat → List Lm → Prop
 | _, _, [] => True
 | b, o, ⟨k, x, l⟩ :: r => X b ∧ w.cell? ⟨b, o, none⟩ = some (.int .i64 k) ∧ w.cell? ⟨b, o + 1, none⟩ = some (.int .i64 x) ∧
   (∃ a c, w.cell? ⟨b, o + 2, none⟩ = some (.slice a l.length c) ∧ l.length ≤ 9223372036854775807 ∧ (l = [] ∨ ∃ b' o', a = some ⟨b', o', none⟩ ∧ LiesM w X b' o' l)) ∧ LiesM w X b (o + 3) r
def SlM (w : World) (X : Nat → Prop) (a : Option Addr) (l : List Lm) : Prop := l.length ≤ 9223372036854775807 ∧ (l = [] ∨ ∃ b o, a = some ⟨b, o, none⟩ ∧ LiesM w X b o l)
def MV (w : World) (X : Nat → Prop) (v : Value) (t : Lm) : Prop := ∃ a c, v = .agg #[.int .i64 t.kind, .int .i64 t.idx, .slice a t.subs.length c] ∧ SlM w X a t.subs
theorem liesM_kept {w w' : World} {X : Nat → Prop} (h : ∀ b, X b → w'.heap[b]? = w.heap[b]?) (l : List Lm) : ∀ b o, LiesM w X b o l → LiesM w' X b o l := by
 induction l using Lm.indL with
 | h0 => intro b o _; simp [LiesM]
 | h k x l r ihl ihr =>
  intro b o hl
  simp only [LiesM] at hl ⊢
  obtain ⟨hx, h1, h1', ⟨a, c, h2, h2', h3⟩, h4⟩ := hl
  refine ⟨hx, by rw [World.cell?_of_block (h b hx)]; exact h1, by rw [World.cell?_of_block (h b hx)]; exact h1', ⟨a, c, by rw [World.cell?_of_block (h b hx)]; exact h2, h2', ?_⟩, ihr _ _ h4⟩
  rcases h3 with h3 | ⟨b', o', h3, h5⟩
  ·exact Or.inl h3
  ·exact Or.inr ⟨b', o', h3, ihl _ _ h5⟩
theorem liesM_mono {w : World} {X Y : Nat → Prop} (h : ∀ b, X b → b < w.heap.size → Y b) (l : List Lm) : ∀ b o, LiesM w X b o l → LiesM w Y b o l := by
 induction l using Lm.indL with
 | h0 => intro b o _; simp [LiesM]
 | h k x l r ihl ihr =>
  intro b o hl
  simp only [LiesM] at hl ⊢
  obtain ⟨hx, h1, h1', ⟨a, c, h2, h2', h3⟩, h4⟩ := hl
  have hb : b < w.heap.size := by
   apply Classical.byContradiction
   intro hn
   have e : w.heap[b]? = none := Array.getElem?_eq_none (by omega)
   simp [World.cell?, e] at h1
  refine ⟨h b hx hb, h1, h1', ⟨a, c, h2, h2', ?_⟩, ihr _ _ h4⟩
  rcases h3 with h3 | ⟨b', o', h3, h5⟩
  ·exact Or.inl h3
  ·exact Or.inr ⟨b', o', h3, ihl _ _ h5⟩
theorem SlM.kept {w w' : World} {X : Nat → Prop} {a : Option Addr} {l : List Lm} (h : SlM w X a l) (hk : ∀ b, X b → w'.heap[b]? = w.heap[b]?) : SlM w' X a l := by
 obtain ⟨hl, h⟩ := h
 refine ⟨hl, ?_⟩
 rcases h with h | ⟨b, o, e, h⟩
 ·exact Or.inl h
 ·exact Or.inr ⟨b, o, e, liesM_kept hk _ _ _ h⟩
theorem SlM.mono {w : World} {X Y : Nat → Prop} {a : Option Addr} {l : List Lm} (h : SlM w X a l) (hk : ∀ b, X b → b < w.heap.size → Y b) : SlM w Y a l := by
 obtain ⟨hl, h⟩ := h
 refine ⟨hl, ?_⟩
 rcases h with h | ⟨b, o, e, h⟩
 ·exact Or.inl h
 ·exact Or.inr ⟨b, o, e, liesM_mono hk _ _ _ h⟩
theorem SlM.below {w w' : World} {X : Nat → Prop} {a : Option Addr} {l : List Lm} {B : Nat} (h : SlM w X a l) (hb : Below B w w') (hX : ∀ b, X b → b < w.heap.size → b < B) : SlM w' X a l := by
 have h1 : SlM w (fun b => X b ∧ b < B) a l := h.mono fun b hx hs => ⟨hx, hX b hx hs⟩
 have h2 : SlM w' (fun b => X b ∧ b < B) a l := h1.kept fun b hx => hb.block b hx.2
 exact h2.mono fun b hx _ => hx.1
theorem MV.kept {w w' : World} {X : Nat → Prop} {v : Value} {t : Lm} (h : MV w X v t) (hk : ∀ b, X b → w'.heap[b]? = w.heap[b]?) : MV w' X v t := by
 obtain ⟨a, c, e, h⟩ := h
 exact ⟨a, c, e, h.kept hk⟩
theorem MV.mono {w : World} {X Y : Nat → Prop} {v : Value} {t : Lm} (h : MV w X v t) (hk : ∀ b, X b → b < w.heap.size → Y b) : MV w Y v t := by
 obtain ⟨a, c, e, h⟩ := h
 exact ⟨a, c, e, h.mono hk⟩
theorem MV.below {w w' : World} {X : Nat → Prop} {v : Value} {t : Lm} {B : Nat} (h : MV w X v t) (hb : Below B w w') (hX : ∀ b, X b → b < w.heap.size → b < B) : MV w' X v t := by
 obtain ⟨a, c, e, h⟩ := h
 exact ⟨a, c, e, h.below hb hX⟩
theorem MV.alloc {w : World} {X : Nat → Prop} {v : Value} {t : Lm} (h : MV w X v t) (o : Obj) : MV (w.alloc o) X v t :=
 h.below ((Below.refl _ _).alloc (Nat.le_refl _) o) (fun _ _ h => h)
theorem MV.later {w w' : World} {X : Nat → Prop} {v : Value} {t : Lm} (h : MV w X v t) (hb : Below w.heap.size w w') : MV w' X v t := h.below hb (fun _ _ h => h)
theorem SlM.later {w w' : World} {X : Nat → Prop} {a : Option Addr} {l : List Lm} (h : SlM w X a l) (hb : Below w.heap.size w w') : SlM w' X a l := h.below hb (fun _ _ h => h)
theorem liesM_get {w : World} {X : Nat → Prop} : ∀ (l : List Lm) (b o : Nat), LiesM w X b o l → ∀ i (h : i < l.length),
  X b ∧ w.cell? ⟨b, o + i * 3, none⟩ = some (.int .i64 l[i].kind) ∧ w.cell? ⟨b, o + i * 3 + 1, none⟩ = some (.int .i64 l[i].idx) ∧ ∃ a c, w.cell? ⟨b, o + i * 3 + 2, none⟩ = some (.slice a l[i].subs.length c) ∧ SlM w X a l[i].subs := by
 intro l
 induction l with
 | nil => intro b o _ i h; simp at h
 | cons t r ih =>
  intro b o hl i h
  obtain ⟨s, x, k⟩ := t
  simp only [LiesM] at hl
  obtain ⟨hx, h1, h1', ⟨a, c, h2, h3⟩, h4⟩ := hl
  cases i with
  | zero => exact ⟨hx, h1, h1', a, c, h2, h3⟩
  | succ i =>
   have := ih b (o + 3) h4 i (by simpa using h)
   simp only [List.getElem_cons_succ]
   rw [show o + (i + 1) * 3 = o + 3 + i * 3 by omega]
   exact this
theorem SlM.get {w wr : World} {X : Nat → Prop} {a : Option Addr} {l : List Lm} {B : Nat} (h : SlM w X a l) (hb : Below B w wr) (hX : ∀ b, X b → b < w.heap.size → b < B) (k : Nat) (hk : k < l.length) :
  ∃ b o a' c', a = some ⟨b, o, none⟩ ∧ wr.cell? ⟨b, o + k * 3, none⟩ = some (.int .i64 l[k].kind) ∧ wr.cell? ⟨b, o + k * 3 + 1, none⟩ = some (.int .i64 l[k].idx) ∧ wr.cell? ⟨b, o + k * 3 + 2, none⟩ = some (.slice a' l[k].subs.length c') ∧ MV wr X (.agg #[.int .i64 l[k].kind, .int .i64 l[k].idx, .slice a' l[k].subs.length c']) l[k] := by
 have h' := h.below hb hX
 obtain ⟨_, h1⟩ := h'
 rcases h1 with h1 | ⟨b, o, e, h1⟩
 ·subst h1; simp at hk
 ·obtain ⟨_, h2, h2', a', c', h3, h4⟩ := liesM_get _ _ _ h1 k hk
  exact ⟨b, o, a', c', e, h2, h2', h3, a', c', rfl, h4⟩
set_option maxHeartbeats 400000 in
theorem lamSize_any (t : Lm) : ∀ (v : Value) (most : Int) (w : World) (X : Nat → Prop), MV w X v t → 0 ≤ most → most ≤ 1000000 →
  Calls Tryz.prog 25 #[v, .int .i64 most] w fun e w' => e = .returned (.int .i64 (min (sizeM [t]) (most + 1))) ∧ Below w.heap.size w w' := by
 induction t using Lm.ind with
 | h kd ix l ih =>
  intro v most w X hv hm0 hm1
  obtain ⟨a, c, rfl, hs⟩ := hv
  have IH := hide ih
  clear ih
  go_enter Tryz.func25, Tryz.ntmps25
  go_wp2_with fail
  go_loopw [5, 6] (fun n i wr => ∃ k : Nat, k ≤ l.length ∧ i = .int .i64 k ∧ n = .int .i64 (min (1 + sizeM (l.take k)) (most + 1)) ∧ Below (w.heap.size + 1) (w.alloc (Obj.cells #[Value.int .i64 kd, Value.int .i64 ix, Value.slice a l.length c] 25)) wr) (fun n i wr => l.length - (intOf i).toNat)
  case atStart => exact ⟨0, Nat.zero_le _, rfl, by simp [sizeM]; omega, Below.refl _ _⟩
  case round =>
   obtain ⟨k, hk, rfl, rfl, hb⟩ := hrel
   have hc := bcell hb
   have c0 : wr.cell? ⟨w.heap.size, 0, none⟩ = some (.int .i64 kd) := by rw [hc.1 _ _ (by omega)]; simp
   have c0' : wr.cell? ⟨w.heap.size, 1, none⟩ = some (.int .i64 ix) := by rw [hc.1 _ _ (by omega)]; simp
   have c1 : wr.cell? ⟨w.heap.size, 2, none⟩ = some (.slice a l.length c) := by rw [hc.1 _ _ (by omega)]; simp
   have hl := hs.1
   have hn : 0 ≤ ((1 : Int) + sizeM (l.take k)) := by omega
   by_cases hlt : k < l.length
   ·obtain ⟨b, o, a', c', rfl, d0, d0', d1, hx⟩ := hs.get (((Below.refl _ _).alloc (Nat.le_refl _) _).trans (hb.mono (Nat.le_succ _))) (fun _ _ h => h) k hlt
    by_cases hle : 1 + (sizeM (l.take k) : Int) ≤ most
    ·have hmin : min (1 + (sizeM (l.take k) : Int)) (most + 1) = 1 + (sizeM (l.take k) : Int) := by omega
     rw [hmin]
     go_wp2_with fail
     refine (IH.out _ (List.getElem_mem hlt) _ _ _ X hx (by omega) (by omega)).mono ?_
     rintro e w1 ⟨rfl, hb1⟩
     have hsz : w.heap.size + 1 ≤ wr.heap.size := by have := hb.size; simpa using this
     have Hst := hide (sizeM_take l k hlt)
     have hm2 : 0 ≤ min ((sizeM [l[k]] : Int)) (most - (1 + (sizeM (l.take k) : Int)) + 1) := by omega
     have hm3 : min ((sizeM [l[k]] : Int)) (most - (1 + (sizeM (l.take k) : Int)) + 1) ≤ 1000001 := by omega
     go_wp2_with fail
     go_roundw
     case rel => exact ⟨k + 1, by omega, by go_num, by rw [Hst.out]; congr 1; omega, hb.trans (hb1.mono hsz)⟩
     case measure => simp [intOf]; omega
    ·have hmin : min (1 + (sizeM (l.take k) : Int)) (most + 1) = most + 1 := by omega
     rw [hmin]
     have hz : (sizeM [(⟨kd, ix, l⟩ : Lm)] : Int) = 1 + sizeM l := by simp [sizeM]
     have hle2 : sizeM (l.take k) ≤ sizeM l := sizeM_take_le l k
     have HF := hide (show (most + 1 : Int) = min (sizeM [(⟨kd, ix, l⟩ : Lm)] : Int) (most + 1) by omega)
     clear hz
     go_wp2_with fail
     go_ret
     exact ⟨ret_int HF.out, below_box hb⟩
   ·have htk : l.take k = l := List.take_of_length_le (by omega)
    rw [htk]
    have hz : (sizeM [(⟨kd, ix, l⟩ : Lm)] : Int) = 1 + sizeM l := by simp [sizeM]
    have HZ := hide hz
    clear hz
    go_wp2_with fail
    ·go_ret
     exact ⟨ret_int (by have := HZ.out; omega), below_box hb⟩
    ·go_ret
     exact ⟨ret_int (by have := HZ.out; omega), below_box hb⟩
theorem hugeLam_any (t : Lm) (v : Value) (w : World) (X : Nat → Prop) (hv : MV w X v t) :
  Calls Tryz.prog 17 #[v] w fun e w' => e = .returned (.bool (decide (3000 < sizeM [t]))) ∧ Below w.heap.size w w' := by
 obtain ⟨a, c, rfl, hs⟩ := hv
 have hv : MV w X (.agg #[.int .i64 t.kind, .int .i64 t.idx, .slice a t.subs.length c]) t := ⟨a, c, rfl, hs⟩
 go_enter Tryz.func17, Tryz.ntmps17
 go_wp2_with fail
 refine (lamSize_any t _ _ _ X (hv.alloc _) (by omega) (by omega)).mono ?_
 rintro e w1 ⟨rfl, hb1⟩
 by_cases h : 3000 < sizeM [t]
 ·have e : min (sizeM [t] : Int) (3000 + 1) = 3001 := by omega
  rw [e]
  go_wp2_with fail
  go_ret
  exact ⟨by simp [h], ((Below.refl _ _).alloc (Nat.le_refl _) _).trans (hb1.mono (by simp))⟩
 ·have e : min (sizeM [t] : Int) (3000 + 1) = sizeM [t] := by omega
  rw [e]
  go_wp2_with fail
  go_ret
  exact ⟨by simp [h] <;> omega, ((Below.refl _ _).alloc (Nat.le_refl _) _).trans (hb1.mono (by simp))⟩
theorem subsOf_any (kd ix : Int) (a : Option Addr) (n c : Nat) (w : World) :
  Calls Tryz.prog 88 #[.agg #[.int .i64 kd, .int .i64 ix, .slice a n c]] w fun e w' => e = .returned (.slice a n c) ∧ w' = w.alloc (.cells #[.int .i64 kd, .int .i64 ix, .slice a n c] 25) := by
 go_enter Tryz.func88, Tryz.ntmps88
 go_wp2_with fail
 go_ret
 exact ⟨rfl, rfl⟩
set_option maxHeartbeats 400000 in
theorem countOnM_any (M : Int) (hM0 : 0 ≤ M) (hM1 : M ≤ 1000000) (t : Lm) : ∀ (v : Value) (n : Int) (w : World) (X : Nat → Prop), MV w X v t → 0 ≤ n → n ≤ M →
  Calls Tryz.prog 100 #[v, .func (.func 88) #[] #[], .int .i64 M, .int .i64 n] w fun e w' => e = .returned (.int .i64 (min (n + sizeM [t]) (M + 1))) ∧ Below w.heap.size w w' := by
 induction t using Lm.ind with
 | h kd ix l ih =>
  intro v n w X hv hn0 hn1
  obtain ⟨a, c, rfl, hs⟩ := hv
  have IH := hide ih
  clear ih
  have hz : Hid ((sizeM [(⟨kd, ix, l⟩ : Lm)] : Int) = 1 + sizeM l) := by simp [Hid, sizeM]
  go_enter Tryz.func100, Tryz.ntmps100
  go_wp2_with (go_at_call 88; refine (subsOf_any _ _ _ _ _ _).mono ?_; rintro e w' ⟨rfl, rfl⟩)
  have hB0 : Hid (Below w.heap.size w ((w.alloc (Obj.cells #[Value.int .i64 kd, Value.int .i64 ix, Value.slice a l.length c] 25)).alloc (Obj.cells #[Value.int .i64 kd, Value.int .i64 ix, Value.slice a l.length c] 25))) := ((Below.refl _ _).alloc (Nat.le_refl _) _).alloc (by simp) _
  have hZ0 : Hid (w.heap.size + 2 ≤ ((w.alloc (Obj.cells #[Value.int .i64 kd, Value.int .i64 ix, Value.slice a l.length c] 25)).alloc (Obj.cells #[Value.int .i64 kd, Value.int .i64 ix, Value.slice a l.length c] 25)).heap.size) := by simp [Hid]
  generalize ((w.alloc (Obj.cells #[Value.int .i64 kd, Value.int .i64 ix, Value.slice a l.length c] 25)).alloc (Obj.cells #[Value.int .i64 kd, Value.int .i64 ix, Value.slice a l.length c] 25)) = w0 at *
  go_loopw [9, 18] (fun m i wr => ∃ k : Nat, k ≤ l.length ∧ i = .int .i64 k ∧ m = .int .i64 (min (n + 1 + sizeM (l.take k)) (M + 1)) ∧ Below w.heap.size w wr) (fun m i wr => l.length - (intOf i).toNat)
  case atStart => exact ⟨0, Nat.zero_le _, rfl, by rw [show sizeM (l.take 0) = 0 by simp [sizeM]]; congr 1; omega, hB0.out⟩
  case round =>
   obtain ⟨k, hk, rfl, rfl, hb⟩ := hrel
   have hl := hs.1
   have hsz : w.heap.size ≤ wr.heap.size := hb.size
   by_cases hlt : k < l.length
   ·obtain ⟨b, o, a', c', rfl, d0, d0', d1, hx⟩ := hs.get hb (fun _ _ h => h) k hlt
    by_cases hle : n + 1 + (sizeM (l.take k) : Int) ≤ M
    ·have hmin : min (n + 1 + (sizeM (l.take k) : Int)) (M + 1) = n + 1 + (sizeM (l.take k) : Int) := by omega
     rw [hmin]
     go_wp2_with fail
     refine (IH.out _ (List.getElem_mem hlt) _ _ _ X (hx.alloc _) (by omega) (by omega)).mono ?_
     rintro e w1 ⟨rfl, hb1⟩
     have Hst := hide (sizeM_take l k hlt)
     go_wp2_with fail
     go_roundw
     case rel => exact ⟨k + 1, by omega, by go_num, by rw [Hst.out]; congr 1; omega, (hb.alloc hsz _).trans (hb1.mono (by simp; omega))⟩
     case measure => simp [intOf]; omega
    ·have hmin : min (n + 1 + (sizeM (l.take k) : Int)) (M + 1) = M + 1 := by omega
     rw [hmin]
     have hle2 : sizeM (l.take k) ≤ sizeM l := sizeM_take_le l k
     go_wp2_with fail
     go_ret
     refine ⟨ret_int (by have := hz.out; omega), ?_⟩
     exact hb.alloc (by omega) _
   ·have htk : l.take k = l := List.take_of_length_le (by omega)
    rw [htk]
    go_wp2_with fail
    go_ret
    exact ⟨ret_int (by have := hz.out; omega), hb⟩
theorem countTM_any (M : Int) (hM0 : 0 ≤ M) (hM1 : M ≤ 1000000) (t : Lm) (v : Value) (w : World) (X : Nat → Prop) (hv : MV w X v t) :
  Calls Tryz.prog 87 #[v, .func (.func 88) #[] #[], .int .i64 M] w fun e w' => e = .returned (.int .i64 (min (sizeM [t] : Int) (M + 1))) ∧ Below w.heap.size w w' := by
 obtain ⟨a, c, rfl, hs⟩ := hv
 have hv : MV w X (.agg #[.int .i64 t.kind, .int .i64 t.idx, .slice a t.subs.length c]) t := ⟨a, c, rfl, hs⟩
 go_enter Tryz.func87, Tryz.ntmps87
 go_wp2_with fail
 refine (countOnM_any M hM0 hM1 t _ _ _ X (hv.alloc _) (by omega) (by omega)).mono ?_
 rintro e w1 ⟨rfl, hb1⟩
 go_wp2_with fail
 go_ret
 exact ⟨ret_int (by omega), ((Below.refl _ _).alloc (Nat.le_refl _) _).trans (hb1.mono (by simp))⟩
theorem countM_any (M : Int) (hM0 : 0 ≤ M) (hM1 : M ≤ 1000000) (t : Lm) (v : Value) (w : World) (X : Nat → Prop) (hv : MV w X v t) :
  Calls Tryz.prog 73 #[v, .int .i64 M] w fun e w' => e = .returned (.int .i64 (min (sizeM [t] : Int) (M + 1))) ∧ Below w.heap.size w w' := by
 obtain ⟨a, c, rfl, hs⟩ := hv
 have hv : MV w X (.agg #[.int .i64 t.kind, .int .i64 t.idx, .slice a t.subs.length c]) t := ⟨a, c, rfl, hs⟩
 go_enter Tryz.func73, Tryz.ntmps73
 go_wp2_with fail
 refine (countTM_any M hM0 hM1 t _ _ X (hv.alloc _)).mono ?_
 rintro e w1 ⟨rfl, hb1⟩
 go_wp2_with fail
 go_ret
 exact ⟨ret_int (by omega), ((Below.refl _ _).alloc (Nat.le_refl _) _).trans (hb1.mono (by simp))⟩
def subsK (k : Int) : Nat := if k = 2 then 1 else if k = 3 then 2 else 0
def mostK (u m k : Int) : Int := if k = 1 then u else if k = 4 then 40 else if k = 5 then m else 1
def deepK (u k : Int) : Int := if k = 2 then u + 1 else u
def knE (u m k x : Int) (n : Nat) : Int := if k < 1 ∨ 5 < k then 2 else if n ≠ subsK k then 2 else if x < 0 ∨ mostK u m k ≤ x then 15 else 0
def errM : Int → Int → List Lm → Int
 | _, _, [] => 0
 | u, m, ⟨k, x, l⟩ :: r => if knE u m k x l.length = 0 then (if errM (deepK u k) m l = 0 then errM u m r else errM (deepK u k) m l) else knE u m k x l.length
theorem errM_cons (u m : Int) (t : Lm) (r : List Lm) : errM u m (t :: r) = if errM u m [t] = 0 then errM u m r else errM u m [t] := by
 obtain ⟨k, x, l⟩ := t
 simp only [errM]
 split
 ·split <;> simp_all
 ·simp_all
theorem errM_append (u m : Int) (a b : List Lm) : errM u m (a ++ b) = if errM u m a = 0 then errM u m b else errM u m a := by
 induction a with
 | nil => simp [errM]
 | cons t r ih =>
  rw [List.cons_append, errM_cons, errM_cons u m t r, ih]
  by_cases h : errM u m [t] = 0 <;> simp [h]
theorem errM_take (u m : Int) (l : List Lm) (k : Nat) (h : k < l.length) : errM u m (l.take (k + 1)) = if errM u m (l.take k) = 0 then errM u m [l[k]] else errM u m (l.take k) := by
 rw [List.take_succ_eq_append_getElem h, errM_append]
theorem errM_of_take {u m : Int} {l : List Lm} {k : Nat} (h : errM u m (l.take k) ≠ 0) : errM u m l = errM u m (l.take k) := by
 have := errM_append u m (l.take k) (l.drop k)
 rw [List.take_append_drop, if_neg h] at this
 exact this
theorem errM_good {u m kd ix : Int} {l : List Lm} (h : knE u m kd ix l.length = 0) : errM u m [⟨kd, ix, l⟩] = errM (deepK u kd) m l := by
 simp only [errM, h, if_true]
 by_cases h0 : errM (deepK u kd) m l = 0 <;> simp [h0]
theorem errM_bad {u m kd ix : Int} {l : List Lm} (h : knE u m kd ix l.length ≠ 0) : errM u m [⟨kd, ix, l⟩] = knE u m kd ix l.length := by
 simp [errM, h]
def lamE (u m : Int) (t : Lm) : Int := if u < 0 ∨ 40 < u then 10 else if 200 < sizeM [t] then 3 else errM u m [t]
set_option maxHeartbeats 1000000 in
theorem checkKnot_any (kd ix u m : Int) (a : Option Addr) (n c : Nat) (w : World) (hn : n ≤ 9223372036854775807) :
  Calls Tryz.prog 89 #[.agg #[.int .i64 kd, .int .i64 ix, .slice a n c], .int .i64 u, .int .i64 m] w fun e w' => e = .returned (.int .i64 (knE u m kd ix n)) ∧ Below w.heap.size w w' := by
 have HB : Hid (Below w.heap.size w (w.alloc (.cells #[.int .i64 kd, .int .i64 ix, .slice a n c] 25))) := (Below.refl _ _).alloc (Nat.le_refl _) _
 by_cases k1 : kd = 1
 case pos =>
  subst k1
  by_cases hl : n = 0
  case pos =>
   subst hl
   by_cases hi : ix < 0
   ·have HE : Hid (knE u m 1 ix 0 = 15) := by unfold Hid knE mostK subsK; simp [hi]
    go_enter Tryz.func89, Tryz.ntmps89
    go_wp2_with fail
    go_ret
    exact ⟨ret_int HE.out.symm, HB.out⟩
   ·by_cases hj : (u : Int) ≤ ix
    ·have HE : Hid (knE u m 1 ix 0 = 15) := by unfold Hid knE mostK subsK; simp [hi, hj]
     go_enter Tryz.func89, Tryz.ntmps89
     go_wp2_with fail
     go_ret
     exact ⟨ret_int HE.out.symm, HB.out⟩
    ·have HE : Hid (knE u m 1 ix 0 = 0) := by unfold Hid knE mostK subsK; simp [hi, hj]
     go_enter Tryz.func89, Tryz.ntmps89
     go_wp2_with fail
     go_ret
     exact ⟨ret_int HE.out.symm, HB.out⟩
  case neg =>
   have HE : Hid (knE u m 1 ix n = 2) := by unfold Hid knE mostK subsK; simp [hl]
   have hl2 : ¬ (n : Int) = 0 := by omega
   have hl3 : ((n : Int) != 0) = true := by simpa using hl2
   clear hl
   go_enter Tryz.func89, Tryz.ntmps89
   go_wp2_with fail
   go_ret
   exact ⟨ret_int HE.out.symm, HB.out⟩
 case neg =>
  by_cases k2 : kd = 2
  case pos =>
   subst k2
   by_cases hl : n = 1
   case pos =>
    subst hl
    by_cases hi : ix < 0
    ·have HE : Hid (knE u m 2 ix 1 = 15) := by unfold Hid knE mostK subsK; simp [hi]
     go_enter Tryz.func89, Tryz.ntmps89
     go_wp2_with fail
     go_ret
     exact ⟨ret_int HE.out.symm, HB.out⟩
    ·by_cases hj : (1 : Int) ≤ ix
     ·have HE : Hid (knE u m 2 ix 1 = 15) := by unfold Hid knE mostK subsK; simp [hi, hj]
      go_enter Tryz.func89, Tryz.ntmps89
      go_wp2_with fail
      go_ret
      exact ⟨ret_int HE.out.symm, HB.out⟩
     ·have HE : Hid (knE u m 2 ix 1 = 0) := by unfold Hid knE mostK subsK; simp [hi, hj]
      go_enter Tryz.func89, Tryz.ntmps89
      go_wp2_with fail
      go_ret
      exact ⟨ret_int HE.out.symm, HB.out⟩
   case neg =>
    have HE : Hid (knE u m 2 ix n = 2) := by unfold Hid knE mostK subsK; simp [hl]
    have hl2 : ¬ (n : Int) = 1 := by omega
    have hl3 : ((n : Int) != 1) = true := by simpa using hl2
    clear hl
    go_enter Tryz.func89, Tryz.ntmps89
    go_wp2_with fail
    go_ret
    exact ⟨ret_int HE.out.symm, HB.out⟩
  case neg =>
   by_cases k3 : kd = 3
   case pos =>
    subst k3
    by_cases hl : n = 2
    case pos =>
     subst hl
     by_cases hi : ix < 0
     ·have HE : Hid (knE u m 3 ix 2 = 15) := by unfold Hid knE mostK subsK; simp [hi]
      go_enter Tryz.func89, Tryz.ntmps89
      go_wp2_with fail
      go_ret
      exact ⟨ret_int HE.out.symm, HB.out⟩
     ·by_cases hj : (1 : Int) ≤ ix
      ·have HE : Hid (knE u m 3 ix 2 = 15) := by unfold Hid knE mostK subsK; simp [hi, hj]
       go_enter Tryz.func89, Tryz.ntmps89
       go_wp2_with fail
       go_ret
       exact ⟨ret_int HE.out.symm, HB.out⟩
      ·have HE : Hid (knE u m 3 ix 2 = 0) := by unfold Hid knE mostK subsK; simp [hi, hj]
       go_enter Tryz.func89, Tryz.ntmps89
       go_wp2_with fail
       go_ret
       exact ⟨ret_int HE.out.symm, HB.out⟩
    case neg =>
     have HE : Hid (knE u m 3 ix n = 2) := by unfold Hid knE mostK subsK; simp [hl]
     have hl2 : ¬ (n : Int) = 2 := by omega
     have hl3 : ((n : Int) != 2) = true := by simpa using hl2
     clear hl
     go_enter Tryz.func89, Tryz.ntmps89
     go_wp2_with fail
     go_ret
     exact ⟨ret_int HE.out.symm, HB.out⟩
   case neg =>
    by_cases k4 : kd = 4
    case pos =>
     subst k4
     by_cases hl : n = 0
     case pos =>
      subst hl
      by_cases hi : ix < 0
      ·have HE : Hid (knE u m 4 ix 0 = 15) := by unfold Hid knE mostK subsK; simp [hi]
       go_enter Tryz.func89, Tryz.ntmps89
       go_wp2_with fail
       go_ret
       exact ⟨ret_int HE.out.symm, HB.out⟩
      ·by_cases hj : (40 : Int) ≤ ix
       ·have HE : Hid (knE u m 4 ix 0 = 15) := by unfold Hid knE mostK subsK; simp [hi, hj]
        go_enter Tryz.func89, Tryz.ntmps89
        go_wp2_with fail
        go_ret
        exact ⟨ret_int HE.out.symm, HB.out⟩
       ·have HE : Hid (knE u m 4 ix 0 = 0) := by unfold Hid knE mostK subsK; simp [hi, hj]
        go_enter Tryz.func89, Tryz.ntmps89
        go_wp2_with fail
        go_ret
        exact ⟨ret_int HE.out.symm, HB.out⟩
     case neg =>
      have HE : Hid (knE u m 4 ix n = 2) := by unfold Hid knE mostK subsK; simp [hl]
      have hl2 : ¬ (n : Int) = 0 := by omega
      have hl3 : ((n : Int) != 0) = true := by simpa using hl2
      clear hl
      go_enter Tryz.func89, Tryz.ntmps89
      go_wp2_with fail
      go_ret
      exact ⟨ret_int HE.out.symm, HB.out⟩
    case neg =>
     by_cases k5 : kd = 5
     case pos =>
      subst k5
      by_cases hl : n = 0
      case pos =>
       subst hl
       by_cases hi : ix < 0
       ·have HE : Hid (knE u m 5 ix 0 = 15) := by unfold Hid knE mostK subsK; simp [hi]
        go_enter Tryz.func89, Tryz.ntmps89
        go_wp2_with fail
        go_ret
        exact ⟨ret_int HE.out.symm, HB.out⟩
       ·by_cases hj : (m : Int) ≤ ix
        ·have HE : Hid (knE u m 5 ix 0 = 15) := by unfold Hid knE mostK subsK; simp [hi, hj]
         go_enter Tryz.func89, Tryz.ntmps89
         go_wp2_with fail
         go_ret
         exact ⟨ret_int HE.out.symm, HB.out⟩
        ·have HE : Hid (knE u m 5 ix 0 = 0) := by unfold Hid knE mostK subsK; simp [hi, hj]
         go_enter Tryz.func89, Tryz.ntmps89
         go_wp2_with fail
         go_ret
         exact ⟨ret_int HE.out.symm, HB.out⟩
      case neg =>
       have HE : Hid (knE u m 5 ix n = 2) := by unfold Hid knE mostK subsK; simp [hl]
       have hl2 : ¬ (n : Int) = 0 := by omega
       have hl3 : ((n : Int) != 0) = true := by simpa using hl2
       clear hl
       go_enter Tryz.func89, Tryz.ntmps89
       go_wp2_with fail
       go_ret
       exact ⟨ret_int HE.out.symm, HB.out⟩
     case neg =>
      have HE : Hid (knE u m kd ix n = 2) := by unfold Hid knE; rw [if_pos (by omega)]
      have e1 : (kd == 1) = false := by simpa using k1
      have e2 : (kd == 2) = false := by simpa using k2
      have e3 : (kd == 3) = false := by simpa using k3
      have e4 : (kd == 4) = false := by simpa using k4
      have e5 : (kd == 5) = false := by simpa using k5
      go_enter Tryz.func89, Tryz.ntmps89
      go_wp2_with fail
      go_ret
      exact ⟨ret_int HE.out.symm, HB.out⟩
def KnInv2 (u m : Int) (l : List Lm) (w : World) (o : Value) (wr : World) : Prop := ∃ k : Nat, k ≤ l.length ∧ o = .int .i64 (k : Int) ∧ errM u m (l.take k) = 0 ∧ Below w.heap.size w wr
set_option maxHeartbeats 1000000 in
theorem checkKnotsM_any (m : Int) (t : Lm) : ∀ (v : Value) (u : Int) (w : World) (X : Nat → Prop), MV w X v t → 0 ≤ u → u + sizeM [t] ≤ 1000000 →
  Calls Tryz.prog 74 #[v, .int .i64 u, .int .i64 m] w fun e w' => e = .returned (.int .i64 (errM u m [t])) ∧ Below w.heap.size w w' := by
 induction t using Lm.ind with
 | h kd ix l ih =>
  intro v u w X hv hu0 hu1
  obtain ⟨a, c, rfl, hs⟩ := hv
  have IH := hide ih
  clear ih
  have hl := hs.1
  have hz : sizeM [(⟨kd, ix, l⟩ : Lm)] = 1 + sizeM l := by simp [sizeM]
  rw [hz] at hu1
  clear hz
  have HB0 : Hid (Below w.heap.size w (w.alloc (.cells #[.int .i64 kd, .int .i64 ix, .slice a l.length c] 25))) := (Below.refl _ _).alloc (Nat.le_refl _) _
  have hT0 := Blk.new w #[.int .i64 kd, .int .i64 ix, .slice a l.length c] 25
  go_enter Tryz.func74, Tryz.ntmps74
  go_wp2_with fail
  refine (checkKnot_any kd ix u m a l.length c _ hl).mono ?_
  rintro e w1 ⟨rfl, hb1⟩
  have HB1 := hide (HB0.out.trans (hb1.mono (by simp)))
  have T1 := hide (hT0.below hb1 hT0.lt)
  have t0 := T1.out.c0
  have t1 := T1.out.c1
  have t2 := T1.out.c2
  clear hb1 hT0 HB0
  by_cases h0 : knE u m kd ix l.length = 0
  case neg =>
   have HE := hide (errM_bad h0)
   have h1 : (knE u m kd ix l.length == 0) = false := by simpa using h0
   have h2 : (knE u m kd ix l.length != 0) = true := by simpa using h0
   go_wp2_with fail
   go_ret
   exact ⟨ret_int HE.out.symm, HB1.out⟩
  case pos =>
   have HE := hide (errM_good h0)
   rw [h0]
   clear h0
   by_cases k2 : kd = 2
   case pos =>
    subst k2
    have HD : Hid (deepK u 2 = u + 1) := by unfold Hid deepK; rfl
    go_wp2_with fail
    go_loopw [26] (fun o wr => KnInv2 (u + 1) m l w o wr) (fun o wr => l.length - (intOf o).toNat)
    case atStart => exact ⟨0, Nat.zero_le _, rfl, by simp [errM], HB1.out⟩
    case round =>
     obtain ⟨k, hk, rfl, he, hb⟩ := hrel
     have HEK := hide he
     have HBK := hide hb
     clear he
     have hsz : w.heap.size ≤ wr.heap.size := hb.size
     by_cases hlt : k < l.length
     ·obtain ⟨b, o, a', c', rfl, d0, d0', d1, hx⟩ := hs.get hb (fun _ _ h => h) k hlt
      have HT := hide (errM_take (u + 1) m l k hlt)
      have hzk : 1 + sizeM [l[k]] ≤ 1 + sizeM l := by
       have h1 := sizeM_take l k hlt
       have h2 := sizeM_take_le l (k + 1)
       omega
      clear hb
      go_wp2_with fail
      refine (IH.out _ (List.getElem_mem hlt) _ _ _ X (hx.alloc _) (by omega) (by omega)).mono ?_
      rintro e w2 ⟨rfl, hb2⟩
      have HB2 : Hid (Below w.heap.size w w2) := (HBK.out.alloc hsz _).trans (hb2.mono (by simp; omega))
      clear hb2
      by_cases hez : errM (u + 1) m [l[k]] = 0
      ·have HZ := hide hez
       rw [hez]
       clear hez
       go_wp2_with fail
       go_roundw
       case rel => exact ⟨k + 1, by omega, by go_num, by rw [HT.out, HEK.out, HZ.out]; rfl, HB2.out⟩
       case measure => simp [intOf]; omega
      ·have h1 : (errM (u + 1) m [l[k]] == 0) = false := by simpa using hez
       have h2 : (errM (u + 1) m [l[k]] != 0) = true := by simpa using hez
       have HZ : Hid (errM (u + 1) m [l[k]] = errM u m [(⟨2, ix, l⟩ : Lm)]) := by
        have h1 : errM (u + 1) m (l.take (k + 1)) = errM (u + 1) m [l[k]] := by rw [HT.out, HEK.out]; rfl
        unfold Hid
        rw [HE.out, HD.out, errM_of_take (l := l) (k := k + 1) (by rw [h1]; exact hez), h1]
       go_wp2_with fail
       go_ret
       exact ⟨ret_int HZ.out, HB2.out⟩
     ·have htk : l.take k = l := List.take_of_length_le (by omega)
      have hge : ¬ ((k : Int) < (l.length : Int)) := by omega
      have HZ : Hid (0 = errM u m [(⟨2, ix, l⟩ : Lm)]) := by unfold Hid; rw [HE.out, HD.out, ← htk, HEK.out]
      go_wp2_with fail
      go_ret
      exact ⟨ret_int HZ.out, HBK.out⟩
   case neg =>
    have HD : Hid (deepK u kd = u) := by unfold Hid deepK; rw [if_neg k2]
    have e2 : (kd == 2) = false := by simpa using k2
    go_wp2_with fail
    go_loopw [26] (fun o wr => KnInv2 (u) m l w o wr) (fun o wr => l.length - (intOf o).toNat)
    case atStart => exact ⟨0, Nat.zero_le _, rfl, by simp [errM], HB1.out⟩
    case round =>
     obtain ⟨k, hk, rfl, he, hb⟩ := hrel
     have HEK := hide he
     have HBK := hide hb
     clear he
     have hsz : w.heap.size ≤ wr.heap.size := hb.size
     by_cases hlt : k < l.length
     ·obtain ⟨b, o, a', c', rfl, d0, d0', d1, hx⟩ := hs.get hb (fun _ _ h => h) k hlt
      have HT := hide (errM_take (u) m l k hlt)
      have hzk : 1 + sizeM [l[k]] ≤ 1 + sizeM l := by
       have h1 := sizeM_take l k hlt
       have h2 := sizeM_take_le l (k + 1)
       omega
      clear hb
      go_wp2_with fail
      refine (IH.out _ (List.getElem_mem hlt) _ _ _ X (hx.alloc _) (by omega) (by omega)).mono ?_
      rintro e w2 ⟨rfl, hb2⟩
      have HB2 : Hid (Below w.heap.size w w2) := (HBK.out.alloc hsz _).trans (hb2.mono (by simp; omega))
      clear hb2
      by_cases hez : errM (u) m [l[k]] = 0
      ·have HZ := hide hez
       rw [hez]
       clear hez
       go_wp2_with fail
       go_roundw
       case rel => exact ⟨k + 1, by omega, by go_num, by rw [HT.out, HEK.out, HZ.out]; rfl, HB2.out⟩
       case measure => simp [intOf]; omega
      ·have h1 : (errM (u) m [l[k]] == 0) = false := by simpa using hez
       have h2 : (errM (u) m [l[k]] != 0) = true := by simpa using hez
       have HZ : Hid (errM (u) m [l[k]] = errM u m [(⟨kd, ix, l⟩ : Lm)]) := by
        have h1 : errM (u) m (l.take (k + 1)) = errM (u) m [l[k]] := by rw [HT.out, HEK.out]; rfl
        unfold Hid
        rw [HE.out, HD.out, errM_of_take (l := l) (k := k + 1) (by rw [h1]; exact hez), h1]
       go_wp2_with fail
       go_ret
       exact ⟨ret_int HZ.out, HB2.out⟩
     ·have htk : l.take k = l := List.take_of_length_le (by omega)
      have hge : ¬ ((k : Int) < (l.length : Int)) := by omega
      have HZ : Hid (0 = errM u m [(⟨kd, ix, l⟩ : Lm)]) := by unfold Hid; rw [HE.out, HD.out, ← htk, HEK.out]
      go_wp2_with fail
      go_ret
      exact ⟨ret_int HZ.out, HBK.out⟩
set_option maxHeartbeats 1000000 in
theorem checkM_any (t : Lm) (v : Value) (u m : Int) (w : World) (X : Nat → Prop) (hv : MV w X v t) :
  Calls Tryz.prog 60 #[v, .int .i64 u, .int .i64 m] w fun e w' => e = .returned (.int .i64 (lamE u m t)) ∧ Below w.heap.size w w' := by
 obtain ⟨a, c, rfl, hs⟩ := hv
 have hv : MV w X (.agg #[.int .i64 t.kind, .int .i64 t.idx, .slice a t.subs.length c]) t := ⟨a, c, rfl, hs⟩
 have HB0 : Hid (Below w.heap.size w (w.alloc (.cells #[.int .i64 t.kind, .int .i64 t.idx, .slice a t.subs.length c] 25))) := (Below.refl _ _).alloc (Nat.le_refl _) _
 have hT0 := Blk.new w #[.int .i64 t.kind, .int .i64 t.idx, .slice a t.subs.length c] 25
 go_enter Tryz.func60, Tryz.ntmps60
 by_cases h1 : u < 0
 ·have HE : Hid (lamE u m t = 10) := by unfold Hid lamE; rw [if_pos (Or.inl h1)]
  go_wp2_with fail
  go_ret
  exact ⟨ret_int HE.out.symm, HB0.out⟩
 by_cases h2 : 40 < u
 ·have HE : Hid (lamE u m t = 10) := by unfold Hid lamE; rw [if_pos (Or.inr h2)]
  go_wp2_with fail
  go_ret
  exact ⟨ret_int HE.out.symm, HB0.out⟩
 go_wp2_with fail
 refine (countM_any 200 (by omega) (by omega) t _ _ X (hv.alloc _)).mono ?_
 rintro e w1 ⟨rfl, hb1⟩
 have HB1 := hide (HB0.out.trans (hb1.mono (by simp)))
 have T1 := hide (hT0.below hb1 hT0.lt)
 have t0 := T1.out.c0
 have t1 := T1.out.c1
 have t2 := T1.out.c2
 clear hb1 hT0 HB0
 by_cases h3 : 200 < sizeM [t]
 ·have HE : Hid (lamE u m t = 3) := by unfold Hid lamE; rw [if_neg (by omega), if_pos h3]
  have e : min (sizeM [t] : Int) (200 + 1) = 201 := by omega
  rw [e]
  go_wp2_with fail
  go_ret
  exact ⟨ret_int HE.out.symm, HB1.out⟩
 ·have HE : Hid (lamE u m t = errM u m [t]) := by unfold Hid lamE; rw [if_neg (by omega), if_neg h3]
  have e : min (sizeM [t] : Int) (200 + 1) = sizeM [t] := by omega
  rw [e]
  have hle : ¬ (200 : Int) < (sizeM [t] : Int) := by omega
  go_wp2_with fail
  refine (checkKnotsM_any m t _ u _ X (hv.later HB1.out) (by omega) (by omega)).mono ?_
  rintro e w2 ⟨rfl, hb2⟩
  go_wp2_with fail
  go_ret
  exact ⟨ret_int HE.out.symm, HB1.out.trans (hb2.mono HB1.out.size)⟩
theorem lCheck_any (t : Lm) (v : Value) (u : Int) (w : World) (X : Nat → Prop) (hv : MV w X v t) :
  Calls Tryz.prog 49 #[v, .int .i64 u] w fun e w' => e = .returned (.int .i64 (lamE u 0 t)) ∧ Below w.heap.size w w' := by
 obtain ⟨a, c, rfl, hs⟩ := hv
 have hv : MV w X (.agg #[.int .i64 t.kind, .int .i64 t.idx, .slice a t.subs.length c]) t := ⟨a, c, rfl, hs⟩
 go_enter Tryz.func49, Tryz.ntmps49
 go_wp2_with fail
 refine (checkM_any t _ u 0 _ X (hv.alloc _)).mono ?_
 rintro e w1 ⟨rfl, hb1⟩
 go_wp2_with fail
 go_ret
 exact ⟨rfl, ((Below.refl _ _).alloc (Nat.le_refl _) _).trans (hb1.mono (by simp))⟩
theorem may_look {u : Int} {t : Lm} (h : errM u 0 [t] = 0) : (∃ x, t = ⟨1, x, []⟩ ∧ 0 ≤ x ∧ x < u) ∨ (∃ b, t = ⟨2, 0, [b]⟩ ∧ errM (u + 1) 0 [b] = 0) ∨ (∃ f a, t = ⟨3, 0, [f, a]⟩ ∧ errM u 0 [f] = 0 ∧ errM u 0 [a] = 0) ∨ (∃ x, t = ⟨4, x, []⟩ ∧ 0 ≤ x ∧ x < 40) := by
 obtain ⟨k, x, l⟩ := t
 have hk : knE u 0 k x l.length = 0 := by
  apply Classical.byContradiction
  intro hn
  rw [errM_bad hn] at h
  exact hn h
 have hg := errM_good hk
 rw [hg] at h
 unfold knE at hk
 by_cases h1 : k < 1 ∨ 5 < k
 ·rw [if_pos h1] at hk; cases hk
 rw [if_neg h1] at hk
 by_cases h2 : l.length ≠ subsK k
 ·rw [if_pos h2] at hk; cases hk
 rw [if_neg h2] at hk
 by_cases h3 : x < 0 ∨ mostK u 0 k ≤ x
 ·rw [if_pos h3] at hk; cases hk
 have hx : 0 ≤ x ∧ x < mostK u 0 k := by omega
 have hl : l.length = subsK k := by simpa using h2
 have hc : k = 1 ∨ k = 2 ∨ k = 3 ∨ k = 4 ∨ k = 5 := by omega
 rcases hc with rfl | rfl | rfl | rfl | rfl
 ·left
  simp [mostK] at hx
  simp [subsK] at hl
  subst hl
  exact ⟨x, rfl, hx.1, hx.2⟩
 ·right; left
  simp [mostK] at hx
  simp [subsK] at hl
  obtain ⟨b, rfl⟩ := List.length_eq_one_iff.1 hl
  have : x = 0 := by omega
  subst this
  exact ⟨b, rfl, by simpa [deepK] using h⟩
 ·right; right; left
  simp [mostK] at hx
  simp [subsK] at hl
  match l, hl with
  | [f, a], _ =>
   have : x = 0 := by omega
   subst this
   rw [errM_cons] at h
   simp only [deepK] at h
   have e2 : (3 : Int) = 2 ↔ False := by simp
   simp only [e2, if_false] at h
   by_cases hf : errM u 0 [f] = 0
   ·rw [if_pos hf] at h
    exact ⟨f, a, rfl, hf, h⟩
   ·rw [if_neg hf] at h; exact absurd h hf
 ·right; right; right
  simp [mostK] at hx
  simp [subsK] at hl
  subst hl
  exact ⟨x, rfl, hx.1, hx.2⟩
 ·simp [mostK] at hx
  omega
theorem dec_len (n : Nat) : (Lib.decDigits n).length ≤ n + 1 := by
 induction n using Nat.strongRecOn with
 | ind n ih =>
  rw [Lib.decDigits]
  by_cases h : n < 10
  ·rw [dif_pos h]; simp
  ·rw [dif_neg h]
   have := ih (n / 10) (by omega)
   simp only [List.length_append, List.length_cons, List.length_nil]
   omega
def vrN (p : UInt8) (n : Nat) : ByteArray := ⟨(p :: Lib.decDigits n).toArray⟩
def vrT (p : UInt8) (n : Nat) : Tm := ⟨vrN p n, []⟩
def arT (a b : Tm) : Tm := ⟨⟨#[102]⟩, [a, b]⟩
def noT : Tm := ⟨⟨#[]⟩, []⟩
def tyN (p : UInt8) (k i : Int) (ar : List Tm) (n : Nat) (b : List Tm × List Pr × Nat) : Tm × List Pr × Nat :=
 if k = 1 then (ar.getD (ar.length - 1 - i.toNat) noT, [], n)
 else if k = 2 then (arT (vrT p (n + 1)) (b.1.getD 0 noT), b.2.1, b.2.2)
 else (vrT p (b.2.2 + 1), b.2.1 ++ [⟨b.1.getD 0 noT, arT (b.1.getD 1 noT) (vrT p (b.2.2 + 1))⟩], b.2.2 + 1)
def arN (p : UInt8) (k : Int) (ar : List Tm) (n : Nat) : List Tm := if k = 2 then ar ++ [vrT p (n + 1)] else ar
def cnN (k : Int) (n : Nat) : Nat := if k = 2 then n + 1 else n
def tyL (p : UInt8) : List Lm → List Tm → Nat → List Tm × List Pr × Nat
 | [], _, n => ([], [], n)
 | ⟨k, i, l⟩ :: r, ar, n =>
  ((tyN p k i ar n (tyL p l (arN p k ar n) (cnN k n))).1 :: (tyL p r ar (tyN p k i ar n (tyL p l (arN p k ar n) (cnN k n))).2.2).1,
   (tyN p k i ar n (tyL p l (arN p k ar n) (cnN k n))).2.1 ++ (tyL p r ar (tyN p k i ar n (tyL p l (arN p k ar n) (cnN k n))).2.2).2.1,
   (tyL p r ar (tyN p k i ar n (tyL p l (arN p k ar n) (cnN k n))).2.2).2.2)
def tyT (p : UInt8) (t : Lm) (ar : List Tm) (n : Nat) : Tm × List Pr × Nat := tyN p t.kind t.idx ar n (tyL p t.subs (arN p t.kind ar n) (cnN t.kind n))
theorem tyL_nil (p : UInt8) (ar : List Tm) (n : Nat) : tyL p [] ar n = ([], [], n) := by simp [tyL]
theorem tyL_cons (p : UInt8) (t : Lm) (r : List Lm) (ar : List Tm) (n : Nat) : tyL p (t :: r) ar n = ((tyT p t ar n).1 :: (tyL p r ar (tyT p t ar n).2.2).1, (tyT p t ar n).2.1 ++ (tyL p r ar (tyT p t ar n).2.2).2.1, (tyL p r ar (tyT p t ar n).2.2).2.2) := by
 obtain ⟨k, i, l⟩ := t
 simp only [tyL, tyT]
theorem tyT_bound (p : UInt8) (i : Int) (ar : List Tm) (n : Nat) : tyT p ⟨1, i, []⟩ ar n = (ar.getD (ar.length - 1 - i.toNat) noT, [], n) := by simp [tyT, tyN]
theorem tyT_fun (p : UInt8) (i : Int) (b : Lm) (ar : List Tm) (n : Nat) : tyT p ⟨2, i, [b]⟩ ar n = (arT (vrT p (n + 1)) (tyT p b (ar ++ [vrT p (n + 1)]) (n + 1)).1, (tyT p b (ar ++ [vrT p (n + 1)]) (n + 1)).2.1, (tyT p b (ar ++ [vrT p (n + 1)]) (n + 1)).2.2) := by
 rw [tyT]
 simp only [tyN, arN, cnN, if_neg (show ¬ (2 : Int) = 1 by decide), if_true, tyL_cons, tyL_nil]
 simp
theorem tyT_app (p : UInt8) (i : Int) (f x : Lm) (ar : List Tm) (n : Nat) : tyT p ⟨3, i, [f, x]⟩ ar n =
  (vrT p ((tyT p x ar (tyT p f ar n).2.2).2.2 + 1), (tyT p f ar n).2.1 ++ (tyT p x ar (tyT p f ar n).2.2).2.1 ++ [⟨(tyT p f ar n).1, arT (tyT p x ar (tyT p f ar n).2.2).1 (vrT p ((tyT p x ar (tyT p f ar n).2.2).2.2 + 1))⟩], (tyT p x ar (tyT p f ar n).2.2).2.2 + 1) := by
 rw [tyT]
 simp only [tyN, arN, cnN, if_neg (show ¬ (3 : Int) = 1 by decide), if_neg (show ¬ (3 : Int) = 2 by decide), tyL_cons, tyL_nil]
 simp
def swp (s : ByteArray) : ByteArray := if s.data.toList.head? = some 84 then ⟨(86 :: s.data.toList.tail).toArray⟩ else s
theorem swp_vr (n : Nat) : swp (vrN 84 n) = vrN 86 n := by simp [swp, vrN]
theorem swp_f : swp ⟨#[102]⟩ = ⟨#[102]⟩ := by simp [swp]
theorem swp_no : swp ⟨#[]⟩ = ⟨#[]⟩ := by simp [swp]
def DoN (s : ByteArray) : Prop := s = ⟨#[]⟩ ∨ s = ⟨#[102]⟩ ∨ ∃ n, s = vrN 84 n
theorem varB_vr (p : UInt8) (n : Nat) : varB (vrN p n) = capB p.toNat := by
 unfold varB byteAt vrN
 have h : 0 < (⟨(p :: Lib.decDigits n).toArray⟩ : ByteArray).size := by simp [ByteArray.size]
 rw [dif_pos h]
 rfl
theorem okF_swp : OkF DoN swp where
 inj := by
  rintro a b (rfl | rfl | ⟨n, rfl⟩) (rfl | rfl | ⟨m, rfl⟩) h
  ·rfl
  ·rw [swp_no, swp_f] at h; simp at h
  ·rw [swp_no, swp_vr] at h; simp [vrN] at h
  ·rw [swp_no, swp_f] at h; simp at h
  ·rfl
  ·rw [swp_f, swp_vr] at h; simp [vrN] at h
  ·rw [swp_no, swp_vr] at h; simp [vrN] at h
  ·rw [swp_f, swp_vr] at h; simp [vrN] at h
  ·rw [swp_vr, swp_vr] at h
   simp [vrN] at h ⊢
   exact h
 var := by
  rintro a (rfl | rfl | ⟨n, rfl⟩)
  ·rw [swp_no]
  ·rw [swp_f]
  ·rw [swp_vr, varB_vr, varB_vr]; rfl
 lt := by
  have hl : ∀ l : List UInt8, (⟨l.toArray⟩ : ByteArray).toList = l := fun l => by rw [ByteArray.toList_eq]
  have h0 : (⟨#[]⟩ : ByteArray).toList = [] := hl []
  have h1 : (⟨#[102]⟩ : ByteArray).toList = [102] := hl [102]
  rintro a b (rfl | rfl | ⟨n, rfl⟩) (rfl | rfl | ⟨m, rfl⟩)
  ·rfl
  ·rw [swp_no, swp_f]
  ·rw [swp_no, swp_vr]
   unfold ltB vrN
   simp only [hl, h0, h1]
   simp [Op.bytesLess]
  ·rw [swp_no, swp_f]
  ·rfl
  ·rw [swp_f, swp_vr]
   unfold ltB vrN
   simp only [hl, h0, h1]
   simp [Op.bytesLess]
  ·rw [swp_no, swp_vr]
   unfold ltB vrN
   simp only [hl, h0, h1]
   simp [Op.bytesLess]
  ·rw [swp_f, swp_vr]
   unfold ltB vrN
   simp only [hl, h0, h1]
   simp [Op.bytesLess]
  ·rw [swp_vr, swp_vr]
   unfold ltB vrN
   rw [hl, hl, hl, hl]
   simp [Op.bytesLess]
theorem mp_vr (n : Nat) : mpT swp (vrT 84 n) = vrT 86 n := by simp [mpT, vrT, swp_vr, mpL]
theorem mp_ar (a b : Tm) : mpT swp (arT a b) = arT (mpT swp a) (mpT swp b) := by simp [mpT, arT, swp_f, mpL_cons, mpL]
theorem mp_no : mpT swp noT = noT := by simp [mpT, noT, swp_no, mpL]
theorem getD_mp (l : List Tm) (i : Nat) : (l.map (mpT swp)).getD i noT = mpT swp (l.getD i noT) := by
 rw [List.getD_eq_getElem?_getD, List.getD_eq_getElem?_getD, List.getElem?_map]
 cases l[i]? with
 | none => exact mp_no.symm
 | some x => rfl
theorem tyL_mp (l : List Lm) : ∀ (ar : List Tm) (n : Nat), tyL 86 l (ar.map (mpT swp)) n = ((tyL 84 l ar n).1.map (mpT swp), (tyL 84 l ar n).2.1.map (mpP swp), (tyL 84 l ar n).2.2) := by
 induction l using Lm.indL with
 | h0 => intro ar n; simp [tyL]
 | h k i l r ihl ihr =>
  intro ar n
  have e1 : arN 86 k (ar.map (mpT swp)) n = (arN 84 k ar n).map (mpT swp) := by
   unfold arN
   split
   ·simp [mp_vr]
   ·rfl
  have e2 : tyN 86 k i (ar.map (mpT swp)) n (tyL 86 l (arN 86 k (ar.map (mpT swp)) n) (cnN k n)) = (mpT swp (tyN 84 k i ar n (tyL 84 l (arN 84 k ar n) (cnN k n))).1, (tyN 84 k i ar n (tyL 84 l (arN 84 k ar n) (cnN k n))).2.1.map (mpP swp), (tyN 84 k i ar n (tyL 84 l (arN 84 k ar n) (cnN k n))).2.2) := by
   rw [e1, ihl]
   unfold tyN
   split
   ·simp only [getD_mp, List.length_map, List.map_nil]
   ·split
    ·simp only [getD_mp, mp_ar, mp_vr]
    ·simp only [getD_mp, mp_vr, List.map_append, List.map_cons, List.map_nil, mpP, mp_ar]
  simp only [tyL]
  rw [e2, ihr]
  simp
theorem tyT_mp (t : Lm) (n : Nat) : tyT 86 t [] n = (mpT swp (tyT 84 t [] n).1, (tyT 84 t [] n).2.1.map (mpP swp), (tyT 84 t [] n).2.2) := by
 have h := tyL_mp [t] [] n
 rw [List.map_nil, tyL_cons, tyL_cons] at h
 simp only [tyL_nil, List.append_nil] at h
 have h1 := congrArg (fun x => x.1.getD 0 noT) h
 have h2 := congrArg (fun x => x.2.1) h
 have h3 := congrArg (fun x => x.2.2) h
 simp at h1 h2 h3
 exact Prod.ext h1 (Prod.ext h2 h3)
theorem dn_vr (n : Nat) : DnL DoN [vrT 84 n] := DnL.one.2 ⟨Or.inr (Or.inr ⟨n, rfl⟩), DnL.nil⟩
theorem dn_ar {a b : Tm} (ha : DnL DoN [a]) (hb : DnL DoN [b]) : DnL DoN [arT a b] := DnL.one.2 ⟨Or.inr (Or.inl rfl), DnL.cons.2 ⟨(DnL.one.1 ha).1, (DnL.one.1 ha).2, hb⟩⟩
theorem dn_getD {l : List Tm} (h : DnL DoN l) (i : Nat) : DnL DoN [l.getD i noT] := by
 rw [List.getD_eq_getElem?_getD]
 cases hq : l[i]? with
 | none => exact DnL.one.2 ⟨Or.inl rfl, DnL.nil⟩
 | some x => exact DnL.all.1 h x (List.mem_of_getElem? hq)
theorem dn_snoc {l : List Tm} {x : Tm} (h : DnL DoN l) (hx : DnL DoN [x]) : DnL DoN (l ++ [x]) := DnL.all.2 fun t ht => by
 rcases List.mem_append.1 ht with h1 | h1
 ·exact DnL.all.1 h t h1
 ·rw [List.mem_singleton.1 h1]; exact hx
theorem tyL_dn (l : List Lm) : ∀ (ar : List Tm) (n : Nat), DnL DoN ar → DnL DoN (tyL 84 l ar n).1 ∧ DnP DoN (tyL 84 l ar n).2.1 := by
 induction l using Lm.indL with
 | h0 => intro ar n _; simp only [tyL]; exact ⟨DnL.nil, fun p hp => by simp at hp⟩
 | h k i l r ihl ihr =>
  intro ar n har
  have ha : DnL DoN (arN 84 k ar n) := by
   unfold arN
   split
   ·exact dn_snoc har (dn_vr _)
   ·exact har
  have h1 := ihl _ (cnN k n) ha
  have h2 : DnL DoN [(tyN 84 k i ar n (tyL 84 l (arN 84 k ar n) (cnN k n))).1] ∧ DnP DoN (tyN 84 k i ar n (tyL 84 l (arN 84 k ar n) (cnN k n))).2.1 := by
   unfold tyN
   split
   ·exact ⟨dn_getD har _, fun p hp => by simp at hp⟩
   ·split
    ·exact ⟨dn_ar (dn_vr _) (dn_getD h1.1 _), h1.2⟩
    ·refine ⟨dn_vr _, fun p hp => ?_⟩
     rcases List.mem_append.1 hp with h | h
     ·exact h1.2 p h
     ·rw [List.mem_singleton.1 h]
      exact ⟨dn_getD h1.1 _, dn_ar (dn_getD h1.1 _) (dn_vr _)⟩
  have h3 := ihr ar (tyN 84 k i ar n (tyL 84 l (arN 84 k ar n) (cnN k n))).2.2 har
  simp only [tyL]
  refine ⟨DnL.cons.2 ⟨(DnL.one.1 h2.1).1, (DnL.one.1 h2.1).2, h3.1⟩, fun p hp => ?_⟩
  rcases List.mem_append.1 hp with h | h
  ·exact h2.2 p h
  ·exact h3.2 p h
theorem tyT_dn (t : Lm) (n : Nat) : DnL DoN [(tyT 84 t [] n).1] ∧ DnP DoN (tyT 84 t [] n).2.1 := by
 have h := tyL_dn [t] [] n DnL.nil
 rw [tyL_cons] at h
 simp only [tyL_nil, List.append_nil] at h
 exact h
def csL : List Lm → Bool
 | [] => false
 | ⟨k, _, l⟩ :: r => ((k == 4) || csL l) || csL r
theorem csL_cons (t : Lm) (r : List Lm) : csL (t :: r) = (csL [t] || csL r) := by
 obtain ⟨k, i, l⟩ := t
 simp [csL]
theorem csL_any : ∀ l : List Lm, csL l = l.any fun t => csL [t]
 | [] => by simp [csL]
 | t :: r => by rw [csL_cons, csL_any r]; rfl
theorem csL_one (k i : Int) (l : List Lm) : csL [⟨k, i, l⟩] = ((k == 4) || csL l) := by simp [csL]
def dg2 (n : Nat) : List UInt8 := if n < 10 then [UInt8.ofNat (48 + n)] else [UInt8.ofNat (48 + n / 10), UInt8.ofNat (48 + n % 10)]
theorem dg2_eq {n : Nat} (h : n < 100) : Lib.decDigits n = dg2 n := by
 unfold dg2
 split
 ·rename_i h1; exact Lib.decDigits_one h1
 ·rename_i h1; exact Lib.decDigits_two h1 h
theorem dg2_names : ∀ n < 100, nameB ⟨(84 :: dg2 n).toArray⟩ = true ∧ nameB ⟨(86 :: dg2 n).toArray⟩ = true := by decide +kernel
theorem vr_name {p : UInt8} (hp : p = 84 ∨ p = 86) {n : Nat} (h : n < 100) : nameB (vrN p n) = true := by
 unfold vrN
 rw [dg2_eq h]
 rcases hp with rfl | rfl
 ·exact (dg2_names n h).1
 ·exact (dg2_names n h).2
theorem vr_err {p : UInt8} (hp : p = 84 ∨ p = 86) {n : Nat} (h : n < 100) : errL [vrT p n] = 0 := by simp [vrT, errL, vr_name hp h]
theorem ar_err {a b : Tm} (ha : errL [a] = 0) (hb : errL [b] = 0) : errL [arT a b] = 0 := by
 have h1 : nameB ⟨#[102]⟩ = true := by decide
 have h2 : varB ⟨#[102]⟩ = false := by decide
 have h3 : errL [a, b] = 0 := by rw [errL_cons, if_pos ha, hb]
 simp [arT, errL, h1, h2, h3]
theorem ar_size (a b : Tm) : sizeL [arT a b] = 1 + (sizeL [a] + sizeL [b]) := by
 have := sizeL_append [a] [b]
 simp only [List.cons_append, List.nil_append] at this
 simp only [arT, sizeL, this]
 omega
theorem vr_size (p : UInt8) (n : Nat) : sizeL [vrT p n] = 1 := by simp [vrT, sizeL]
theorem sizeM_oneI (k i : Int) (l : List Lm) : sizeM [⟨k, i, l⟩] = 1 + sizeM l := by simp [sizeM]
theorem sizeM_two (a b : Lm) : sizeM [a, b] = sizeM [a] + sizeM [b] := sizeM_append [a] [b]
def OkAr (ar : List Tm) : Prop := ∀ a ∈ ar, errL [a] = 0 ∧ sizeL [a] = 1
theorem OkAr.snoc {p : UInt8} (hp : p = 84 ∨ p = 86) {n : Nat} (h : n < 100) {ar : List Tm} (ha : OkAr ar) : OkAr (ar ++ [vrT p n]) := fun a h1 => by
 rcases List.mem_append.1 h1 with h2 | h2
 ·exact ha a h2
 ·rw [List.mem_singleton.1 h2]; exact ⟨vr_err hp h, vr_size p n⟩
structure TyOk (t : Lm) (n : Nat) (r : Tm × List Pr × Nat) : Prop where
 cnt : r.2.2 ≤ n + sizeM [t]
 le : n ≤ r.2.2
 few : 2 * r.2.1.length + 1 ≤ sizeM [t]
 err : errL [r.1] = 0
 size : sizeL [r.1] ≤ 2 * sizeM [t]
 eqs : ∀ q ∈ r.2.1, (errL [q.l] = 0 ∧ sizeL [q.l] ≤ 2 * sizeM [t]) ∧ errL [q.r] = 0 ∧ sizeL [q.r] ≤ 2 * sizeM [t] + 2
theorem ty_ok {p : UInt8} (hp : p = 84 ∨ p = 86) (t : Lm) : ∀ (ar : List Tm) (n : Nat), errM ar.length 0 [t] = 0 → csL [t] = false → OkAr ar → n + sizeM [t] < 100 → TyOk t n (tyT p t ar n) := by
 induction t using Lm.ind with
 | h k i l ih =>
  intro ar n he hc ha hn
  rcases may_look he with ⟨x, e, h1, h2⟩ | ⟨b, e, hb⟩ | ⟨f, a, e, hf, hx⟩ | ⟨x, e, _, _⟩
  ·cases e
   rw [tyT_bound]
   have hlt : ar.length - 1 - i.toNat < ar.length := by omega
   have hg : ar.getD (ar.length - 1 - i.toNat) noT = ar[ar.length - 1 - i.toNat] := by
    rw [List.getD_eq_getElem?_getD, List.getElem?_eq_getElem hlt]; rfl
   have h3 := ha _ (List.getElem_mem hlt)
   have hz : sizeM [(⟨1, i, []⟩ : Lm)] = 1 := by simp [sizeM]
   rw [hg]
   exact ⟨by rw [hz]; simp, by simp, by rw [hz]; simp, h3.1, by rw [hz, h3.2]; simp, fun q hq => by simp at hq⟩
  ·cases e
   rw [tyT_fun]
   have hc' : csL [b] = false := by rw [csL_one] at hc; simpa using hc
   have hz := sizeM_oneI 2 0 [b]
   have hl : ((ar ++ [vrT p (n + 1)]).length : Int) = (ar.length : Int) + 1 := by simp
   have h := ih b (by simp) (ar ++ [vrT p (n + 1)]) (n + 1) (by rw [hl]; exact hb) hc' (ha.snoc hp (by omega)) (by omega)
   refine ⟨by have := h.cnt; simp only; omega, by have := h.le; simp only; omega, by have := h.few; simp only; omega, ar_err (vr_err hp (by omega)) h.err, by rw [ar_size, vr_size, hz]; have := h.size; omega, fun q hq => ?_⟩
   obtain ⟨⟨q1, q2⟩, q3, q4⟩ := h.eqs q hq
   exact ⟨⟨q1, by omega⟩, q3, by omega⟩
  ·cases e
   rw [tyT_app]
   have hc1 : csL [f] = false ∧ csL [a] = false := by
    rw [csL_one, csL_cons] at hc
    simpa using hc
   have hz : sizeM [(⟨3, 0, [f, a]⟩ : Lm)] = 1 + (sizeM [f] + sizeM [a]) := by rw [sizeM_oneI, sizeM_two]
   have h1 := ih f (by simp) ar n hf hc1.1 ha (by omega)
   have hm := h1.cnt
   have h2 := ih a (by simp) ar (tyT p f ar n).2.2 hx hc1.2 ha (by omega)
   have hv : (tyT p a ar (tyT p f ar n).2.2).2.2 + 1 < 100 := by have := h2.cnt; omega
   have hs1 : 1 ≤ sizeM [f] := by obtain ⟨k, x, l⟩ := f; simp [sizeM]
   have hs2 : 1 ≤ sizeM [a] := by obtain ⟨k, x, l⟩ := a; simp [sizeM]
   refine ⟨by have := h2.cnt; simp only; omega, by have := h2.le; have := h1.le; simp only; omega, by have := h1.few; have := h2.few; simp only [List.length_append, List.length_singleton]; omega, vr_err hp hv, by rw [vr_size]; omega, fun q hq => ?_⟩
   rcases List.mem_append.1 hq with hq | hq
   ·rcases List.mem_append.1 hq with hq | hq
    ·obtain ⟨⟨q1, q2⟩, q3, q4⟩ := h1.eqs q hq
     exact ⟨⟨q1, by omega⟩, q3, by omega⟩
    ·obtain ⟨⟨q1, q2⟩, q3, q4⟩ := h2.eqs q hq
     exact ⟨⟨q1, by omega⟩, q3, by omega⟩
   ·rw [List.mem_singleton.1 hq]
    refine ⟨⟨h1.err, by have := h1.size; simp only; omega⟩, ar_err h2.err (vr_err hp hv), ?_⟩
    simp only
    rw [ar_size, vr_size]
    have := h2.size
    omega
  ·cases e
   rw [csL_one] at hc
   simp at hc
theorem pairsE_mkI {ls : List Pr} (hl : ls.length ≤ 40) (h : ∀ p ∈ ls, mayE p.l = 0 ∧ mayE p.r = 0) : pairsE ls = 0 := by
 unfold pairsE
 rw [if_neg (by omega)]
 have key : ∀ k, pmT ls k = 0 := fun k => by
  induction k with
  | zero => rfl
  | succ k ih =>
   rw [pmT, if_pos ih]
   cases hq : ls[k]? with
   | none => rfl
   | some p =>
    have h1 := h p (List.mem_of_getElem? hq)
    simp [twoE, h1.1, h1.2]
 exact key _
theorem may_mk {t : Tm} (h : errL [t] = 0) (hz : sizeL [t] ≤ 200) : mayE t = 0 := by
 unfold mayE
 rw [if_neg (by omega)]
 exact h
theorem ty_pairs {p : UInt8} (hp : p = 84 ∨ p = 86) {t : Lm} (he : errM 0 0 [t] = 0) (hc : csL [t] = false) (hz : sizeM [t] ≤ 60) : pairsE (tyT p t [] 0).2.1 = 0 := by
 have h := ty_ok hp t [] 0 he hc (fun a ha => by simp at ha) (by omega)
 refine pairsE_mkI (by have := h.few; omega) fun q hq => ?_
 obtain ⟨⟨q1, q2⟩, q3, q4⟩ := h.eqs q hq
 exact ⟨may_mk q1 (by omega), may_mk q3 (by omega)⟩
structure Ex (B : Nat) (w w' : World) : Prop where
 os : w'.os = w.os
 tape : w'.tape = w.tape
 output : w'.output = w.output
 size : w.heap.size ≤ w'.heap.size
 block : ∀ k, k < w.heap.size → k ≠ B → w'.heap[k]? = w.heap[k]?
theorem Ex.refl (B : Nat) (w : World) : Ex B w w := ⟨rfl, rfl, rfl, Nat.le_refl _, fun _ _ _ => rfl⟩
theorem Ex.trans {B : Nat} {a b c : World} (h : Ex B a b) (k : Ex B b c) : Ex B a c :=
 ⟨k.os.trans h.os, k.tape.trans h.tape, k.output.trans h.output, Nat.le_trans h.size k.size, fun i hi hn => (k.block i (Nat.lt_of_lt_of_le hi h.size) hn).trans (h.block i hi hn)⟩
theorem Ex.drewN {B : Nat} {a w : World} (h : Ex B a w) (n : Nat) : Ex B a (w.drewN n) := ⟨h.os, h.tape, h.output, h.size, h.block⟩
theorem Ex.drew {B : Nat} {a w : World} (h : Ex B a w) : Ex B a w.drew := ⟨h.os, h.tape, h.output, h.size, h.block⟩
theorem Ex.set {B : Nat} {a w : World} (h : Ex B a w) (i : Nat) (v : Value) : Ex B a (w.setCell ⟨B, i, none⟩ v) :=
 ⟨h.os, h.tape, h.output, by simpa [World.setCell] using h.size, fun k hk hn => (Below.heap_setCell _ _ _ _ (by simpa using hn)).trans (h.block k hk hn)⟩
theorem Ex.alloc {B : Nat} {a w : World} (h : Ex B a w) (o : Obj) : Ex B a (w.alloc o) :=
 ⟨h.os, h.tape, h.output, by have := h.size; simp; omega, fun k hk hn => (Below.heap_alloc _ _ _ (Nat.lt_of_lt_of_le hk h.size)).trans (h.block k hk hn)⟩
theorem Blk.ex {w w' : World} {B b T : Nat} {cs : Array Value} (h : Blk w b cs T) (he : Ex B w w') (hne : b ≠ B) : Blk w' b cs T := by
 unfold Blk at *
 rw [he.block b (Blk.lt h) hne]; exact h
theorem Ex.mid {B : Nat} {w w1 : World} (h : Ex B w w1) : ∃ wm, Below wm.heap.size wm w1 ∧ wm.heap.size = w.heap.size ∧ Ex B w wm := by
 by_cases hB : B < w.heap.size
 ·have hB1 : B < w1.heap.size := Nat.lt_of_lt_of_le hB h.size
  refine ⟨{ w with heap := w.heap.setIfInBounds B w1.heap[B] }, ⟨h.os, h.tape, h.output, by simpa using h.size, fun k hk => ?_⟩, by simp, ⟨rfl, rfl, rfl, by simp, fun k hk hn => ?_⟩⟩
  ·simp at hk
   by_cases e : k = B
   ·subst e
    simp [Array.getElem?_setIfInBounds, hB, hB1]
   ·rw [h.block k hk e]
    simp [Array.getElem?_setIfInBounds, Ne.symm e]
  ·simp [Array.getElem?_setIfInBounds, Ne.symm hn]
 ·exact ⟨w, ⟨h.os, h.tape, h.output, h.size, fun k hk => h.block k hk (by omega)⟩, rfl, Ex.refl _ _⟩
theorem Row.ex {w w' : World} {B N T : Nat} {Y : Nat → Prop} {v : Value} {l : List Tm} {xs : List Value} (h : Row w N T Y v l xs) (he : Ex B w w') (hB : B < N) (hY : ¬ Y B) : Row w' N T Y v l xs :=
 ⟨h.own.kept (w' := w') (row := some B) ⟨he.os, he.tape, he.output, he.size, fun j hj hn => he.block j hj (fun e => hn (by rw [e]))⟩ (Or.inr (fun e => by have := (h.own.lt B e).1; omega)),
  h.row.imp fun a l hs => ((hs.mono (Y := fun b => (Y b ∨ (N ≤ b ∧ some b ≠ v.ownBlock)) ∧ b < w.heap.size) fun b h1 h2 => ⟨h1, h2⟩).kept fun b hb => he.block b hb.2 (fun e => by
   rcases hb.1 with h1 | h1
   ·rw [e] at h1; exact hY h1
   ·omega)).mono fun b hb _ => hb.1⟩
theorem Ex.grown {B : Nat} {a w w' : World} {row : Option Nat} (h : Ex B a w) (hg : w.grownBy w' row) (hr : ∀ k, row = some k → a.heap.size ≤ k) : Ex B a w' :=
 ⟨hg.os.trans h.os, hg.tape.trans h.tape, hg.output.trans h.output, Nat.le_trans h.size hg.size, fun k hk hn => (hg.block k (Nat.lt_of_lt_of_le hk h.size) (fun e => by have := hr k e.symm; omega)).trans (h.block k hk hn)⟩
theorem Ex.setNew {B : Nat} {a w : World} (h : Ex B a w) {b : Nat} (hb : a.heap.size ≤ b) (i : Nat) (v : Value) : Ex B a (w.setCell ⟨b, i, none⟩ v) :=
 ⟨h.os, h.tape, h.output, by simpa [World.setCell] using h.size, fun k hk hn => (Below.heap_setCell _ _ _ _ (by simp; omega)).trans (h.block k hk hn)⟩
theorem below3 {w : World} (o1 o2 o3 : Obj) : Below w.heap.size w (((w.alloc o1).alloc o2).alloc o3) := (below2 o1 o2).alloc (by simp; omega) o3
theorem below4 {w : World} (o1 o2 o3 o4 : Obj) : Below w.heap.size w ((((w.alloc o1).alloc o2).alloc o3).alloc o4) := (below3 o1 o2 o3).alloc (by simp; omega) o4
def CpPost (w : World) (F : Nat) (sv : Value) (t : Tm) (n : Nat) (e : Ending) (w' : World) : Prop :=
 ∃ (s' : ByteArray) (a' : Option Addr) (l' c' : Nat) (m : Int), e = .returned (.agg #[.string s', .slice a' l' c']) ∧ Blk w' F #[.int .i64 m, sv] 122 ∧ Ex F w w' ∧ (sizeL [t] ≤ n → m = (n : Int) - sizeL [t] ∧ s' = t.name ∧ l' = t.args.length ∧ Sl w' (fun b => w.heap.size ≤ b) a' t.args) ∧ (n < sizeL [t] → m = -1)
theorem fcopy_of (F : Nat) (sv : Value) (t : Tm) (n : Nat) (a : Option Addr) (c : Nat) (w : World) (hFl : F < w.heap.size) (h : Calls Tryz.prog 95 #[.pointer (some ⟨F, 0, none⟩), .agg #[.string t.name, .slice a t.args.length c], .func (.func 96) #[.pointer (some ⟨F, 0, none⟩)] #[]] ((w.alloc (.cells #[.string t.name, .slice a t.args.length c] 48)).alloc (.cells #[.string ⟨#[]⟩, .slice none 0 0] 48)) fun e w' => CpPost ((w.alloc (.cells #[.string t.name, .slice a t.args.length c] 48)).alloc (.cells #[.string ⟨#[]⟩, .slice none 0 0] 48)) F sv t n e w') :
  Calls Tryz.prog 96 #[.pointer (some ⟨F, 0, none⟩), .agg #[.string t.name, .slice a t.args.length c]] w fun e w' => CpPost w F sv t n e w' := by
 have hmf : ∀ (fn : Fn) (first cap : Array Value) (w : World), (Instr.makeFunc fn first cap).run Tryz.prog w = .ok (.func fn first cap) w := fun _ _ _ _ => rfl
 have H := hide h
 clear h
 go_enter Tryz.func96, Tryz.ntmps96
 go_wp2_with fail
 refine H.out.mono ?_
 rintro e w1 ⟨s', a', l', c', m, rfl, hF1, hx1, hy1, hn1⟩
 have R1 : Hid (Blk w1 (w.heap.size + 1) #[.string ⟨#[]⟩, .slice none 0 0] 48) := by
  have h := (Blk.new (w.alloc (.cells #[.string t.name, .slice a t.args.length c] 48)) #[.string ⟨#[]⟩, .slice none 0 0] 48).ex hx1 (by simp; omega)
  unfold Hid
  simpa using h
 have HX := hide ((((Ex.refl F w).alloc (.cells #[.string t.name, .slice a t.args.length c] 48)).alloc (.cells #[.string ⟨#[]⟩, .slice none 0 0] 48)).trans hx1)
 have HF := hide hF1
 have HY := hide hy1
 have HN := hide hn1
 clear hF1 hx1 hy1 hn1
 have r0 := R1.out.c0
 have r1 := R1.out.c1
 have rf := R1.out.frozen
 go_wp2_with fail
 refine bodyPost_ret (v := .agg #[.string s', .slice a' l' c']) (by simp [results, Tryz.results96, go_sem, World.cell?_setCell_same, World.cell?_setCell_other, r0, r1]) rfl ?_
 refine ⟨s', a', l', c', m, rfl, (HF.out.setOther _ _ (by omega)).setOther _ _ (by omega), (HX.out.setNew (by omega) _ _).setNew (by omega) _ _, fun h => ?_, HN.out⟩
 obtain ⟨h1, h2, h3, h4⟩ := HY.out h
 refine ⟨h1, h2, h3, (h4.kept fun b hb => ?_).mono fun b hb _ => by simp at hb; omega⟩
 simp at hb
 rw [Below.heap_setCell _ _ _ _ (by simp; omega), Below.heap_setCell _ _ _ _ (by simp; omega)]
theorem Sl.ex {w w' : World} {F : Nat} {X : Nat → Prop} {a : Option Addr} {l : List Tm} (h : Sl w X a l) (he : Ex F w w') (hX : ∀ b, X b → b ≠ F) : Sl w' X a l :=
 ((h.mono (Y := fun b => X b ∧ b < w.heap.size) fun b h1 h2 => ⟨h1, h2⟩).kept fun b hb => he.block b hb.2 (hX b hb.1)).mono fun b hb _ => hb.1
def KnSet (w : World) (F O : Nat) (s : ByteArray) (u : Value) (cF : Array Value) (wr : World) : Prop :=
 Ex F w wr ∧ Blk wr (w.heap.size + 1) #[.string ⟨#[]⟩, .slice none 0 0] 48 ∧ Blk wr O #[.string s, u] 48 ∧ Blk wr F cF 122 ∧ O < wr.heap.size
theorem kn_set {w wr w1 w3 : World} {F O : Nat} {s : ByteArray} {u v : Value} {cF cF' : Array Value} {o2 : Obj} (hFw : F < w.heap.size) (hO : w.heap.size + 2 ≤ O) (h : KnSet w F O s u cF wr) (hu : ∀ k, u.ownBlock = some k → O + 1 ≤ k)
  (he1 : Ex F wr w1) (hF1 : Blk w1 F cF' 122) (hg : (w1.alloc o2).grownBy w3 u.ownBlock) : KnSet w F O s v cF' (w3.setCell ⟨O, 1, none⟩ v) := by
 obtain ⟨h1, h2, h3, h4, h5⟩ := h
 have hne : ∀ b, b < O + 1 → some b ≠ u.ownBlock := fun b hb e => by have := hu b e.symm; omega
 have hs1 := he1.size
 have hs3 := hg.size
 simp at hs3
 refine ⟨(((h1.trans he1).alloc o2).grown hg (fun k hk => by have := hu k hk; omega)).setNew (by omega) _ _, ?_, ?_, ?_, by simp [World.setCell]; omega⟩
 ·exact (((h2.ex he1 (by omega)).alloc o2).grown hg (hne _ (by omega))).setOther _ _ (by omega)
 ·exact (((h3.ex he1 (by omega)).alloc o2).grown hg (hne _ (by omega))).set 1 _
 ·exact ((hF1.alloc o2).grown hg (hne _ (by omega))).setOther _ _ (by omega)
theorem kn_row {wr w1 w3 : World} {F O : Nat} {u : Value} {L : List Tm} {xs : List Value} {o2 : Obj} {s' : ByteArray} {a1 : Option Addr} {n1 c1 g cap : Nat} {t : Tm} (hFO : F < O) (hOr : O < wr.heap.size) (hrow : Row wr (O + 1) 48 (fun _ => False) u L xs)
  (he1 : Ex F wr w1) (ht : TV w1 (fun b => wr.heap.size ≤ b) (.agg #[.string s', .slice a1 n1 c1]) t)
  (hown : w3.ownsRow (O + 1) 48 2 (.slice (some ⟨g, 0, none⟩) (L.length + 1) cap) (L.length + 1) (xs ++ [.string s', .slice a1 n1 c1])) (hg : (w1.alloc o2).grownBy w3 u.ownBlock) (hat : u.ownBlock = some g ∨ g = (w1.alloc o2).heap.size) :
  Row (w3.setCell ⟨O, 1, none⟩ (.slice (some ⟨g, 0, none⟩) (L.length + 1) cap)) (O + 1) 48 (fun _ => False) (.slice (some ⟨g, 0, none⟩) (L.length + 1) cap) (L ++ [t]) (xs ++ [.string s', .slice a1 n1 c1]) := by
 obtain ⟨wm, hbm, hsm, hem⟩ := he1.mid
 have hrm := hrow.ex hem (by omega) (fun h => h)
 exact (hrm.push (w1 := w1) (w2 := w1.alloc o2) (w3 := w3) (by omega) (fun _ h => h.elim) hbm (ht.mono fun b h _ => Or.inr (by omega)) o2 rfl hown hg hat).setCell (by omega) (fun h => h) _
def KnInv (w : World) (F O : Nat) (s : ByteArray) (sv : Value) (l : List Tm) (n : Nat) (i : Value) (wr : World) : Prop :=
 ∃ (k : Nat) (u : Value), k ≤ l.length ∧ i = .int .i64 (k : Int) ∧
  ((∃ (m : Nat) (xs : List Value), (m : Int) = (n : Int) - 1 - sizeL (l.take k) ∧ KnSet w F O s u #[.int .i64 (m : Int), sv] wr ∧ Row wr (O + 1) 48 (fun _ => False) u (l.take k) xs) ∨
   (n < 1 + sizeL l ∧ KnSet w F O s u #[.int .i64 (-1), sv] wr ∧ ∃ a9 l9 c9, u = .slice a9 l9 c9))
set_option maxHeartbeats 1000000 in
theorem knotC_any (F : Nat) (sv : Value) (t : Tm) : ∀ (n : Nat) (v : Value) (w : World) (X : Nat → Prop), TV w X v t → (∀ b, X b → b ≠ F) → n ≤ 1000000 → Blk w F #[.int .i64 (n : Int), sv] 122 →
  Calls Tryz.prog 95 #[.pointer (some ⟨F, 0, none⟩), v, .func (.func 96) #[.pointer (some ⟨F, 0, none⟩)] #[]] w fun e w' => CpPost w F sv t n e w' := by
 induction t using Tm.ind with
 | h s l ih =>
  intro n v w X hv hXF hn hF
  obtain ⟨a, c, rfl, hs⟩ := hv
  have IH := hide ih
  clear ih
  obtain ⟨i0, hi0, hz0, hz1, hz2⟩ := info_parts Tryz.infoTerm
  have f0 : ∀ o, (w.alloc o).cell? ⟨F, 0, none⟩ = some (.int .i64 (n : Int)) := fun o => (hF.alloc o).cell 0
  have ff : ∀ o, (w.alloc o).frozen? ⟨F, 0, none⟩ = false := fun o => (hF.alloc o).frozen 0
  have hFl : F < w.heap.size := hF.lt
  go_enter Tryz.func95, Tryz.ntmps95
  go_wp2_with fail
  have E3 : Hid (KnSet w F (w.heap.size + 1 + 1) s (.slice none 0 0) #[.int .i64 ((n : Int) - 1), sv] ((((w.setCell ⟨F, 0, none⟩ (.int .i64 ((n : Int) - 1))).alloc (.cells #[.string s, .slice a l.length c] 48)).alloc (.cells #[.string ⟨#[]⟩, .slice none 0 0] 48)).alloc (.cells #[.string s, .slice none 0 0] 48))) := by
   refine ⟨((((Ex.refl F w).set 0 _).alloc _).alloc _).alloc _, ?_, ?_, (((hF.set 0 _).alloc _).alloc _).alloc _, by simp [World.setCell]⟩
   ·have h := (Blk.new ((w.setCell ⟨F, 0, none⟩ (.int .i64 ((n : Int) - 1))).alloc (.cells #[.string s, .slice a l.length c] 48)) #[.string ⟨#[]⟩, .slice none 0 0] 48).alloc (.cells #[.string s, .slice none 0 0] 48)
    simpa [World.setCell] using h
   ·have h := Blk.new (((w.setCell ⟨F, 0, none⟩ (.int .i64 ((n : Int) - 1))).alloc (.cells #[.string s, .slice a l.length c] 48)).alloc (.cells #[.string ⟨#[]⟩, .slice none 0 0] 48)) #[.string s, .slice none 0 0] 48
    simpa [World.setCell] using h
  generalize ((((w.setCell ⟨F, 0, none⟩ (.int .i64 ((n : Int) - 1))).alloc (.cells #[.string s, .slice a l.length c] 48)).alloc (.cells #[.string ⟨#[]⟩, .slice none 0 0] 48)).alloc (.cells #[.string s, .slice none 0 0] 48)) = w3 at *
  generalize hOe : w.heap.size + 1 + 1 = O at *
  have hO : w.heap.size + 2 ≤ O := by omega
  clear hOe
  clear f0 ff
  have HS := hide hs
  have hl := hs.1
  have HXF := hide hXF
  have hz : sizeL [(⟨s, l⟩ : Tm)] = 1 + sizeL l := by simp [sizeL]
  clear hs hXF
  go_loopw [23] (fun i wr => KnInv w F O s sv l n i wr) (fun i wr => l.length - (intOf i).toNat)
  case atStart =>
   refine ⟨0, .slice none 0 0, Nat.zero_le _, rfl, ?_⟩
   by_cases hn0 : n = 0
   ·subst hn0
    exact Or.inr ⟨by omega, E3.out, none, 0, 0, rfl⟩
   ·refine Or.inl ⟨n - 1, [], by simp [sizeL]; omega, ?_, Row.start _ _ _ _⟩
    rw [show ((n - 1 : Nat) : Int) = (n : Int) - 1 by omega]
    exact E3.out
  case round =>
   obtain ⟨k, u, hk, rfl, hcase⟩ := hrel
   rcases hcase with ⟨m, xs, hm, hset, hrow⟩ | ⟨hbig, hset, a9, l9, c9, rfl⟩
   ·have XS := hide hset
    have XW := hide hrow
    have HMM := hide hm
    clear hset hrow
    by_cases hlt : k < l.length
    ·obtain ⟨b, o, a', c', rfl, d0, d1, hx⟩ := (HS.out.ex XS.out.1 HXF.out).get (Below.refl _ _) (fun _ _ h => h) k hlt
     obtain ⟨av, cv, ev, hsx⟩ := hx
     simp at ev
     obtain ⟨rfl, rfl⟩ := ev
     have hmn : m ≤ 1000000 := by omega
     have HOF : Hid (O ≠ F) := by unfold Hid; omega
     have HFO1 : Hid (F < O + 1) := by unfold Hid; omega
     have hlen := sizeL_len l
     have hsk : (l.take k).length = k := by simp; omega
     have hkn : k ≤ 1000000 := by have h1 := sizeL_len (l.take k); rw [hsk] at h1; omega
     have HL1 : Hid ((l.take k).length + 1 ≤ maxLen ∧ ((l.take k).length + 1) * 40 ≤ 140737488355328) := by unfold Hid; rw [hsk]; exact ⟨by unfold maxLen; omega, by omega⟩
     clear hsk
     have IHQ : Hid (Calls Tryz.prog 96 #[.pointer (some ⟨F, 0, none⟩), .agg #[.string l[k].name, .slice a' l[k].args.length c']] (wr.alloc (.cells #[.string l[k].name, .slice a' l[k].args.length c'] 48)).drew fun e w'' => CpPost (wr.alloc (.cells #[.string l[k].name, .slice a' l[k].args.length c'] 48)).drew F sv l[k] m e w'') := fcopy_of F sv l[k] m a' c' _ (by have := XS.out.1.size; simp; omega) (IH.out l[k] (List.getElem_mem hlt) m _ _ X ⟨a', c', rfl, ((hsx.later ((Below.refl _ _).alloc (Nat.le_refl _) (.cells #[.string l[k].name, .slice a' l[k].args.length c'] 48))).later ((Below.refl _ _).drew)).later (((Below.refl _ _).alloc (Nat.le_refl _) _).alloc (by simp) _)⟩ HXF.out hmn (by exact ((((XS.out.2.2.2.1.alloc _).drewN 1).alloc _).alloc _)))
     have f0 : ∀ o, (wr.alloc o).cell? ⟨F, 0, none⟩ = some (.int .i64 (m : Int)) := fun o => (XS.out.2.2.2.1.alloc o).cell 0
     have o1 : ∀ o, (wr.alloc o).cell? ⟨O, 1, none⟩ = some u := fun o => (XS.out.2.2.1.alloc o).cell 1
     have hm0 : ¬ (m : Int) < 0 := by omega
     by_cases hle : sizeL [l[k]] ≤ m
     ·have IHG : Hid (Calls Tryz.prog 96 #[.pointer (some ⟨F, 0, none⟩), .agg #[.string l[k].name, .slice a' l[k].args.length c']] (wr.alloc (.cells #[.string l[k].name, .slice a' l[k].args.length c'] 48)).drew fun e w'' => ∃ a1 c1, e = .returned (.agg #[.string l[k].name, .slice a1 l[k].args.length c1]) ∧ Blk w'' F #[.int .i64 ((m : Int) - sizeL [l[k]]), sv] 122 ∧ Ex F wr w'' ∧ Sl w'' (fun b => wr.heap.size ≤ b) a1 l[k].args) := IHQ.out.mono fun e w'' hp => by
       obtain ⟨s1, a1, l1, c1, m1, h1, h2, h3, h4, _⟩ := hp
       obtain ⟨rfl, rfl, rfl, h5⟩ := h4 hle
       exact ⟨a1, c1, h1, h2, (((Ex.refl F wr).alloc _).drew).trans h3, h5.mono fun b hb _ => by simp at hb; omega⟩
      clear IHQ
      go_wp2_with fail
      go_region_law (first
       | (go_simp; go_at_call 96; refine IHG.out.mono ?_; rintro e w1 ⟨a1, c1, rfl, hF1, he1, hs1⟩; have hc3 : ∀ o, (w1.alloc o).cell? ⟨O, 1, none⟩ = some u := fun o => ((Blk.ex XS.out.2.2.1 he1 HOF.out).alloc o).cell 1; have hc4 : w1.cell? ⟨O, 1, none⟩ = some u := (Blk.ex XS.out.2.2.1 he1 HOF.out).cell 1)
       | (refine step_append_lies _ rfl _ _ 46 rfl (O + 1) 48 i0 _ 2 40 Tryz.underlying46 hi0 hz0 hz1 hz2 rfl (by decide) u (l.take k).length xs rfl (by exact (Row.ex (B := F) XW.out he1 HFO1.out (fun h => h)).own.alloc _) ⟨w1.heap.size, 0, none⟩ 1 1 [.string l[k].name, .slice a1 l[k].args.length c1] rfl rfl (cell_two_new _ _ _ _) (fun x hx => by simp at hx; rcases hx with rfl | rfl <;> rfl) (by decide) HL1.out.1 HL1.out.2 (by have := he1.size; have := XS.out.2.2.2.2; simp; omega) _ rfl ?_; intro g cap w3 hown3 hgrow3 hat3 hlt3; have hB3 := hide (((Blk.ex XS.out.2.2.1 he1 HOF.out).alloc _).grown hgrow3 (XW.out.ne (Nat.lt_succ_self _))); have hc5 : w3.cell? ⟨O, 1, none⟩ = some u := hB3.out.cell 1; have hf5 := hB3.out.frozen 1))
      all_goals
       have HK := hide (kn_set (v := .slice (some ⟨g, 0, none⟩) ((l.take k).length + 1) cap) hFl hO XS.out (fun j hj => (XW.out.own.lt j hj).1) he1 hF1 hgrow3)
       have HRW := hide (kn_row (by omega) XS.out.2.2.2.2 XW.out he1 ⟨a1, c1, rfl, hs1⟩ hown3 hgrow3 hat3)
       clear hown3 hgrow3 hat3 hc3 hc4 hc5 hf5 hB3 hF1 he1 hs1 hlt3
       go_wp2_with fail
       go_roundw
       case rel =>
        have hkl : (l.take k).length = k := by simp; omega
        have h1 := HK.out
        have h2 := HRW.out
        have hmm := HMM.out
        simp only [hkl] at h1 h2
        refine ⟨k + 1, .slice (some ⟨g, 0, none⟩) (k + 1) cap, by omega, by go_num, Or.inl ⟨m - sizeL [l[k]], xs ++ [.string l[k].name, .slice a1 l[k].args.length c1], by rw [sizeL_take l k hlt]; omega, ?_, ?_⟩⟩
        ·rw [show ((m - sizeL [l[k]] : Nat) : Int) = (m : Int) - sizeL [l[k]] by omega]
         exact h1
        ·rw [List.take_succ_eq_append_getElem hlt]
         exact h2
       case measure => simp [intOf]; omega
     ·have IHG : Hid (Calls Tryz.prog 96 #[.pointer (some ⟨F, 0, none⟩), .agg #[.string l[k].name, .slice a' l[k].args.length c']] (wr.alloc (.cells #[.string l[k].name, .slice a' l[k].args.length c'] 48)).drew fun e w'' => ∃ s1 a1 l1 c1, e = .returned (.agg #[.string s1, .slice a1 l1 c1]) ∧ Blk w'' F #[.int .i64 (-1), sv] 122 ∧ Ex F wr w'') := IHQ.out.mono fun e w'' hp => by
       obtain ⟨s1, a1, l1, c1, m1, h1, h2, h3, _, h4⟩ := hp
       obtain rfl := h4 (by omega)
       exact ⟨s1, a1, l1, c1, h1, h2, (((Ex.refl F wr).alloc _).drew).trans h3⟩
      clear IHQ
      go_wp2_with fail
      go_region_law (first
       | (go_simp; go_at_call 96; refine IHG.out.mono ?_; rintro e w1 ⟨s1, a1, l1, c1, rfl, hF1, he1⟩; have hc3 : ∀ o, (w1.alloc o).cell? ⟨O, 1, none⟩ = some u := fun o => ((Blk.ex XS.out.2.2.1 he1 HOF.out).alloc o).cell 1; have hc4 : w1.cell? ⟨O, 1, none⟩ = some u := (Blk.ex XS.out.2.2.1 he1 HOF.out).cell 1)
       | (refine step_append_lies _ rfl _ _ 46 rfl (O + 1) 48 i0 _ 2 40 Tryz.underlying46 hi0 hz0 hz1 hz2 rfl (by decide) u (l.take k).length xs rfl (by exact (Row.ex (B := F) XW.out he1 HFO1.out (fun h => h)).own.alloc _) ⟨w1.heap.size, 0, none⟩ 1 1 [.string s1, .slice a1 l1 c1] rfl rfl (cell_two_new _ _ _ _) (fun x hx => by simp at hx; rcases hx with rfl | rfl <;> rfl) (by decide) HL1.out.1 HL1.out.2 (by have := he1.size; have := XS.out.2.2.2.2; simp; omega) _ rfl ?_; intro g cap w3 hown3 hgrow3 hat3 hlt3; have hB3 := hide (((Blk.ex XS.out.2.2.1 he1 HOF.out).alloc _).grown hgrow3 (XW.out.ne (Nat.lt_succ_self _))); have hc5 : w3.cell? ⟨O, 1, none⟩ = some u := hB3.out.cell 1; have hf5 := hB3.out.frozen 1))
      all_goals
       have HK := hide (kn_set (v := .slice (some ⟨g, 0, none⟩) ((l.take k).length + 1) cap) hFl hO XS.out (fun j hj => (XW.out.own.lt j hj).1) he1 hF1 hgrow3)
       clear hown3 hgrow3 hat3 hc3 hc4 hc5 hf5 hB3 hF1 he1 hlt3
       go_wp2_with fail
       go_roundw
       case rel =>
        have hkl : (l.take k).length = k := by simp; omega
        have h0 := HK.out
        have hmm := HMM.out
        simp only [hkl] at h0
        refine ⟨k + 1, .slice (some ⟨g, 0, none⟩) (k + 1) cap, by omega, by go_num, Or.inr ⟨?_, h0, _, _, _, rfl⟩⟩
        have h1 := sizeL_take l k hlt
        have h2 := sizeL_take_le l (k + 1)
        omega
       case measure => simp [intOf]; omega
    ·have htk : l.take k = l := List.take_of_length_le (by omega)
     rw [htk] at XW HMM
     obtain ⟨a9, c9, hu9, hsl9⟩ := XW.out.sl
     subst hu9
     have S9 := hide hsl9
     clear hsl9
     have r0 := XS.out.2.1.c0
     have r1 := XS.out.2.1.c1
     have rf := XS.out.2.1.frozen
     have o0 := XS.out.2.2.1.c0
     have o1 := XS.out.2.2.1.c1
     go_wp2_with fail
     refine bodyPost_ret (v := .agg #[.string s, .slice a9 l.length c9]) (by simp [results, Tryz.results95, go_sem, World.cell?_setCell_same, World.cell?_setCell_other, r0, r1]) rfl ?_
     have hmm := HMM.out
     refine ⟨s, a9, l.length, c9, m, rfl, (XS.out.2.2.2.1.setOther _ _ (by omega)).setOther _ _ (by omega), (XS.out.1.setNew (by omega) _ _).setNew (by omega) _ _, fun h => ⟨by rw [hz]; omega, rfl, rfl, (S9.out.kept fun b hb => ?_).mono fun b hb _ => ?_⟩, fun h => by omega⟩
     ·have hb' : O + 1 ≤ b := hb.elim False.elim id
      rw [Below.heap_setCell _ _ _ _ (by simp; omega), Below.heap_setCell _ _ _ _ (by simp; omega)]
     ·have hb' : O + 1 ≤ b := hb.elim False.elim id
      omega
   ·have XS := hide hset
    clear hset
    have f0 : ∀ o, (wr.alloc o).cell? ⟨F, 0, none⟩ = some (.int .i64 (-1)) := fun o => (XS.out.2.2.2.1.alloc o).cell 0
    by_cases hlt : k < l.length
    ·obtain ⟨b, o, a', c', rfl, d0, d1, hx⟩ := (HS.out.ex XS.out.1 HXF.out).get (Below.refl _ _) (fun _ _ h => h) k hlt
     clear hx
     have o0 : ∀ o, (wr.alloc o).cell? ⟨O, 0, none⟩ = some (.string s) := fun o => (XS.out.2.2.1.alloc o).cell 0
     have o1 : ∀ o, (wr.alloc o).cell? ⟨O, 1, none⟩ = some (.slice a9 l9 c9) := fun o => (XS.out.2.2.1.alloc o).cell 1
     have r0 := XS.out.2.1.c0
     have r1 := XS.out.2.1.c1
     have rf := XS.out.2.1.frozen
     have hRl : w.heap.size + 1 < wr.heap.size := XS.out.2.1.lt
     go_wp2_with fail
     refine bodyPost_ret (v := .agg #[.string s, .slice a9 l9 c9]) (by simp [results, Tryz.results95, go_sem, World.cell?_setCell_same, World.cell?_setCell_other, r0, r1, hRl, World.cell?_alloc_old]) rfl ?_
     exact ⟨s, a9, l9, c9, -1, rfl, ((XS.out.2.2.2.1.setOther _ _ (by omega)).setOther _ _ (by omega)).alloc _, ((XS.out.1.setNew (by omega) _ _).setNew (by omega) _ _).alloc _, fun h => by omega, fun _ => rfl⟩
    ·have r0 := XS.out.2.1.c0
     have r1 := XS.out.2.1.c1
     have rf := XS.out.2.1.frozen
     have o0 := XS.out.2.2.1.c0
     have o1 := XS.out.2.2.1.c1
     go_wp2_with fail
     refine bodyPost_ret (v := .agg #[.string s, .slice a9 l9 c9]) (by simp [results, Tryz.results95, go_sem, World.cell?_setCell_same, World.cell?_setCell_other, r0, r1]) rfl ?_
     exact ⟨s, a9, l9, c9, -1, rfl, (XS.out.2.2.2.1.setOther _ _ (by omega)).setOther _ _ (by omega), (XS.out.1.setNew (by omega) _ _).setNew (by omega) _ _, fun h => by omega, fun _ => rfl⟩
def Once (ls : List Bd) : Prop := ∀ k (h : k < ls.length), forT (ls.take k) ls[k].nm = none
def PairsL (w : World) (X : Nat → Prop) : List Bd → List (ByteArray × Value) → Prop
 | [], L => L = []
 | d :: r, L => ∃ a c L', L = (d.nm, .agg #[.string d.t.name, .slice a d.t.args.length c]) :: L' ∧ Sl w X a d.t.args ∧ PairsL w X r L'
theorem PairsL.imp {w w' : World} {X Y : Nat → Prop} (hs : ∀ a l, Sl w X a l → Sl w' Y a l) : ∀ {l : List Bd} {L : List (ByteArray × Value)}, PairsL w X l L → PairsL w' Y l L
 | [], L, h => h
 | d :: r, L, h => by obtain ⟨a, c, L', e, h1, h2⟩ := h; exact ⟨a, c, L', e, hs _ _ h1, PairsL.imp hs h2⟩
theorem PairsL.push {w : World} {X : Nat → Prop} {d : Bd} {a : Option Addr} {c : Nat} (hs : Sl w X a d.t.args) : ∀ {l : List Bd} {L : List (ByteArray × Value)}, PairsL w X l L → PairsL w X (l ++ [d]) (L ++ [(d.nm, .agg #[.string d.t.name, .slice a d.t.args.length c])])
 | [], L, h => by
  have e : L = [] := h
  subst e
  exact ⟨a, c, [], rfl, hs, rfl⟩
 | d' :: r, L, h => by obtain ⟨a', c', L', e, h1, h2⟩ := h; subst e; exact ⟨a', c', _, rfl, h1, PairsL.push hs h2⟩
theorem PairsL.get {w : World} {X : Nat → Prop} (n : ByteArray) : ∀ {l : List Bd} {L : List (ByteArray × Value)}, PairsL w X l L → (forT l n = none → mapGet L n = none) ∧ (∀ t, forT l n = some t → ∃ a c, mapGet L n = some (.agg #[.string t.name, .slice a t.args.length c]) ∧ Sl w X a t.args)
 | [], L, h => by
  have e : L = [] := h
  subst e
  exact ⟨fun _ => rfl, fun t h => by simp [forT] at h⟩
 | d :: r, L, h => by
  obtain ⟨a, c, L', rfl, h1, h2⟩ := h
  obtain ⟨g1, g2⟩ := PairsL.get n h2
  by_cases hd : d.nm = n
  ·refine ⟨fun h => by simp [forT, hd] at h, fun t h => ?_⟩
   rw [forT, if_pos hd] at h
   cases h
   exact ⟨a, c, by simp [mapGet, hd], h1⟩
  ·refine ⟨fun h => ?_, fun t h => ?_⟩
   ·rw [forT, if_neg hd] at h
    simp only [mapGet, hd, if_false]
    exact g1 h
   ·rw [forT, if_neg hd] at h
    simp only [mapGet, hd, if_false]
    exact g2 t h
def ByInv (w : World) (X : Nat → Prop) (ls : List Bd) (v : Value) (wr : World) : Prop := ∃ (k : Nat) (L : List (ByteArray × Value)), v = .int .i64 (k : Int) ∧ k ≤ ls.length ∧ MapAt wr w.heap.size L ∧ PairsL wr (fun b => X b ∧ b < w.heap.size) (ls.take k) L ∧ Below w.heap.size w wr
set_option maxHeartbeats 1000000 in
theorem byName_any (ls : List Bd) (ho : Once ls) (u : Value) (w : World) (X : Nat → Prop) (hu : BV w X u ls) :
  Calls Tryz.prog 66 #[u] w fun e w' => ∃ L, e = .returned (.map (some w.heap.size)) ∧ MapAt w' w.heap.size L ∧ PairsL w' (fun b => X b ∧ b < w.heap.size) ls L ∧ Below w.heap.size w w' := by
 have HU := hide hu
 obtain ⟨a, c, rfl, hl, hu2⟩ := hu
 clear hu2
 have hmm := @run_makeMap Tryz.prog
 go_enter Tryz.func66, Tryz.ntmps66
 go_wp2_with fail
 go_loopw [9] (fun v wr => ByInv w X ls v wr) (fun v wr => ls.length - (intOf v).toNat)
 case atStart => exact ⟨0, [], rfl, Nat.zero_le _, MapAt.new w, rfl, (Below.refl _ _).alloc (Nat.le_refl _) _⟩
 case round =>
  obtain ⟨k, L, rfl, hk, hM, hP, hb⟩ := hrel
  have HM := hide hM
  have HP := hide hP
  have HB := hide hb
  by_cases hlt : k < ls.length
  ·obtain ⟨b, o, a', c', rfl, d0, d1, d2, hs⟩ := ((HU.out.mono (Y := fun b => X b ∧ b < w.heap.size) fun b h1 h2 => ⟨h1, h2⟩).later hb).get k hlt
   have hlt2 : (k : Int) < (ls.length : Int) := by omega
   have HX := hide hs
   have hno := (hP.get ls[k].nm).1 (ho k hlt)
   have htk : ls.take (k + 1) = ls.take k ++ [ls[k]] := List.take_succ_eq_append_getElem hlt
   have HTK := hide htk
   have hMr := hM.lt
   clear hb hs hM hP htk
   generalize ls[k] = d at *
   obtain ⟨w2, hrun, hM2, hz2, ho2, ht2, hu2, hk2⟩ := run_put (P := Tryz.prog) (w := wr.alloc (.cells #[.string d.nm, .string d.t.name, .slice a' d.t.args.length c'] 79)) Tryz.underlying106 Tryz.underlying9 (HM.out.kept (Below.heap_alloc _ _ _ hMr)) d.nm (.agg #[.string d.t.name, .slice a' d.t.args.length c']) hno
   have HM2 := hide hM2
   have HB2 : Hid (Below w.heap.size w w2) := by
    have h0 := HB.out.alloc HB.out.size (.cells #[.string d.nm, .string d.t.name, .slice a' d.t.args.length c'] 79)
    exact ⟨ho2.trans h0.os, ht2.trans h0.tape, hu2.trans h0.output, by rw [hz2]; exact h0.size, fun j hj => (hk2 j (by omega)).trans (h0.block j hj)⟩
   have HP2 : Hid (PairsL w2 (fun b => X b ∧ b < w.heap.size) (ls.take (k + 1)) (L ++ [(d.nm, .agg #[.string d.t.name, .slice a' d.t.args.length c'])])) := by
    have hkp : ∀ q l, Sl wr (fun b => X b ∧ b < w.heap.size) q l → Sl w2 (fun b => X b ∧ b < w.heap.size) q l := fun q l h => h.kept fun j hj => (hk2 j (by have := hj.2; omega)).trans (Below.heap_alloc _ _ _ (by have := hj.2; omega))
    unfold Hid
    rw [HTK.out]
    exact PairsL.push (hkp _ _ HX.out) (HP.out.imp hkp)
   clear hM2 hz2 ho2 ht2 hu2 hk2 hno
   go_wp2_with fail
   go_roundw
   case rel => exact ⟨k + 1, _, by go_num, by omega, HM2.out, HP2.out, HB2.out⟩
   case measure => simp [intOf]; omega
  ·have htk : ls.take k = ls := List.take_of_length_le (by omega)
   rw [htk] at HP
   clear hP htk
   go_wp2_with fail
   go_ret
   exact ⟨L, rfl, HM.out, HP.out, HB.out⟩
theorem look_any (r : Nat) (w : World) :
  Calls Tryz.prog 65 #[.map (some r)] w fun e w' => e = .returned (.func (.func 81) #[] #[.pointer (some ⟨w.heap.size, 0, none⟩)]) ∧ w' = w.alloc (.cells #[.map (some r)] 106) := by
 have hmf : ∀ (fn : Fn) (first cap : Array Value) (w : World), (Instr.makeFunc fn first cap).run Tryz.prog w = .ok (.func fn first cap) w := fun _ _ _ _ => rfl
 go_enter Tryz.func65, Tryz.ntmps65
 go_wp2_with fail
 go_ret
 exact ⟨rfl, rfl⟩
set_option maxHeartbeats 1000000 in
theorem look1_any (ls : List Bd) (n : ByteArray) (B r : Nat) (L : List (ByteArray × Value)) (w : World) (X : Nat → Prop) (hB : Blk w B #[.map (some r)] 106) (hM : MapAt w r L) (hP : PairsL w X ls L) :
  Calls Tryz.prog 81 #[.string n, .pointer (some ⟨B, 0, none⟩)] w fun e w' => Below w.heap.size w w' ∧ ((∃ t a c, forT ls n = some t ∧ e = .returned (.tuple #[.agg #[.string t.name, .slice a t.args.length c], .bool true]) ∧ Sl w X a t.args) ∨ (forT ls n = none ∧ e = .returned (.tuple #[.agg #[.string ⟨#[]⟩, .slice none 0 0], .bool false]))) := by
 have c0 : ∀ o, (w.alloc o).cell? ⟨B, 0, none⟩ = some (.map (some r)) := fun o => (hB.alloc o).cell 0
 have hlt : B < w.heap.size := hB.lt
 have hz : ∀ w', (zeroValue 48).run Tryz.prog w' = .ok (.agg #[.string ⟨#[]⟩, .slice none 0 0]) w' := fun w' => Tryz.zeroValue48 w'
 have hM' := fun o : Obj => hM.kept (Below.heap_alloc w o _ hM.lt)
 cases hf : forT ls n with
 | none =>
  have hg := (hP.get n).1 hf
  have hlook : ∀ o, (Instr.lookup 106 (.map (some r)) (.string n) true).run Tryz.prog (w.alloc o) = .ok (.tuple #[.agg #[.string ⟨#[]⟩, .slice none 0 0], .bool false]) (w.alloc o) := fun o => by
   rw [run_look (P := Tryz.prog) Tryz.underlying106 Tryz.underlying9 (hz _) (hM' o) n, hg]; rfl
  have HF := hide hf
  clear hf hg hM' hP hM hB
  go_enter Tryz.func81, Tryz.ntmps81
  go_wp2_with fail
  have q0 := ((Blk.new w #[.string ⟨#[]⟩, .slice none 0 0] 48).alloc (.cells #[.string ⟨#[]⟩, .slice none 0 0] 48)).cell 0
  have q1 := ((Blk.new w #[.string ⟨#[]⟩, .slice none 0 0] 48).alloc (.cells #[.string ⟨#[]⟩, .slice none 0 0] 48)).cell 1
  simp at q0 q1
  refine bodyPost_ret (v := .tuple #[.agg #[.string ⟨#[]⟩, .slice none 0 0], .bool false]) (by simp [results, Tryz.results81, go_sem, q0, q1]) rfl ?_
  exact ⟨((Below.refl _ _).alloc (Nat.le_refl _) _).alloc (by simp) _, Or.inr ⟨by trivial, rfl⟩⟩
 | some t =>
  obtain ⟨a, c, hg, hs⟩ := (hP.get n).2 t hf
  have hlook : ∀ o, (Instr.lookup 106 (.map (some r)) (.string n) true).run Tryz.prog (w.alloc o) = .ok (.tuple #[.agg #[.string t.name, .slice a t.args.length c], .bool true]) (w.alloc o) := fun o => by
   rw [run_look (P := Tryz.prog) Tryz.underlying106 Tryz.underlying9 (hz _) (hM' o) n, hg]; rfl
  have HF := hide hf
  have HS := hide hs
  clear hf hg hs hM' hP hM hB
  go_enter Tryz.func81, Tryz.ntmps81
  go_wp2_with fail
  have q0 := ((Blk.new w #[.string t.name, .slice a t.args.length c] 48).alloc (.cells #[.string t.name, .slice a t.args.length c] 48)).cell 0
  have q1 := ((Blk.new w #[.string t.name, .slice a t.args.length c] 48).alloc (.cells #[.string t.name, .slice a t.args.length c] 48)).cell 1
  simp at q0 q1
  refine bodyPost_ret (v := .tuple #[.agg #[.string t.name, .slice a t.args.length c], .bool true]) (by simp [results, Tryz.results81, go_sem, q0, q1]) rfl ?_
  exact ⟨((Below.refl _ _).alloc (Nat.le_refl _) _).alloc (by simp) _, Or.inl ⟨t, a, c, rfl, rfl, HS.out⟩⟩
end Go.Proofs.YthnncjgjmohinaaGreatDoor
