/- Several texts in one. -/
import Derived.Deep.RegionHeld3
import Derived.WalkKit
import Derived.WalkSpells
import Derived.WalkLawsBesides
import Derived.Test.YtdebiiodhkcnkaaGreatRows
import Derived.BigQuiet
import Derived.Deep.RegionHeld
import Derived.Deep.AppendLies
import Derived.Deep.RegionLaw
import Derived.WideMake
import Derived.Laws.EntriesVeiled
namespace Go.Proofs.YtdebiiodhkcnkaaGreat
theorem sqA : type_of% @List.setIfInBounds_toArray := @List.setIfInBounds_toArray
theorem sqB : type_of% @List.set_cons_zero := @List.set_cons_zero
theorem sqC : type_of% @List.set_cons_succ := @List.set_cons_succ
theorem sqD : type_of% @List.getElem_toArray := @List.getElem_toArray
theorem sqE : type_of% @List.getElem_cons_succ := @List.getElem_cons_succ
theorem sqF : type_of% @List.getElem_cons_zero := @List.getElem_cons_zero
theorem sq {α : Type} : (∀ (l : List α) (i : Nat) (a : α), l.toArray.setIfInBounds i a = (l.set i a).toArray) ∧ (∀ (x y : α) (l : List α), (x :: l).set 0 y = y :: l) ∧ (∀ (x y : α) (l : List α) (i : Nat), (x :: l).set (i + 1) y = x :: l.set i y) ∧
    (∀ (l : List α) (i : Nat) (h : i < l.toArray.size), l.toArray[i] = l[i]'(by simpa using h)) ∧ (∀ (a : α) (l : List α) (i : Nat) (h : i + 1 < (a :: l).length), (a :: l)[i + 1] = l[i]'(Nat.lt_of_succ_lt_succ h)) ∧ ∀ (a : α) (l : List α) (h : 0 < (a :: l).length), (a :: l)[0] = a :=
  ⟨fun _ _ _ => List.setIfInBounds_toArray .., fun _ _ _ => rfl, fun _ _ _ _ => rfl, fun _ _ _ => List.getElem_toArray .., fun _ _ _ _ => rfl, fun _ _ _ => rfl⟩
theorem tkq {P : Program} {ops : Array Oper} {Q : Exit → Act → World → Prop} {md : Region.Mode} {S : World → Prop} {oi : Oper} {v : Value} {fuel : Nat} {listed : Array Bool} {a : Act} {w : World} (i : Nat) (hi : ops[i]? = some oi)
    (hy : ∀ w, S w → (execOp a.eval oi).run P w = .ok (.value v) w) (h : wpAnyH P md ops Q S fuel (listed.setIfInBounds i true) (a.put oi.dst v) w)
    (hs : Region.noSelect ops = true := by kernel_rfl) (hf : Region.free md ops listed i = true := by kernel_rfl) (hr : (Region.ready md ops listed).contains i = true := by kernel_rfl)
    (hQ : ∀ c a w, Q (.panic c) (a.put oi.dst v) w → Q (.panic c) a w := by exact fun _ _ _ h => h) (hw : Region.wanted oi (yielded ops a.tmps) = true := by rfl) (hS : S w := by assumption) : wpAnyH P md ops Q S (fuel + 1) listed a w :=
  wpAnyH_take hi hs hf hr hQ (Or.inl ⟨hw, hy⟩) hS h
theorem rdq {P : Program} {ops : Array Oper} {Q : Exit → Act → World → Prop} {md : Region.Mode} {S : World → Prop} {fuel : Nat} {listed : Array Bool} {a : Act} {w : World} (i : Nat) {o : Oper} (ho : ops[i]? = some o)
    (h : ∀ K' : Act → World → Prop, Shut (∀ a w, S w → (S w → wpAnyH P md ops Q S fuel (listed.setIfInBounds i true) a w) → K' a w) → if Region.wanted o (yielded ops a.tmps) = true then Oper.wp P o a w K' Q else K' (a.put o.dst undef) w)
    (hr : Region.ready md ops listed = [i] := by kernel_rfl) : wpAnyH P md ops Q S (fuel + 1) listed a w :=
  wpAnyH_ready hr (by simp) (AllReadyH.cons ho h AllReadyH.nil)
open Go.RowKit
theorem hide {p : Prop} (h : p) : Hid p := h
structure Tm where
 name : ByteArray
 args : List Tm
theorem Tm.ind {P : Tm → Prop} (h : ∀ s l, (∀ x ∈ l, P x) → P ⟨s, l⟩) (t : Tm) : P t :=
 Tm.rec (motive_1 := P) (motive_2 := fun l => ∀ x ∈ l, P x) (fun s l ih => h s l ih) (fun x hx => by cases hx)
  (fun a l ha hl x hx => by
   rcases List.mem_cons.1 hx with e | e
   ·subst e; exact ha
   ·exact hl x e) t
theorem Tm.indL {P : List Tm → Prop} (h0 : P []) (h : ∀ s l r, P l → P r → P (⟨s, l⟩ :: r)) (l : List Tm) : P l :=
 Tm.rec_1 (motive_1 := fun t => P t.args) (motive_2 := P) (fun _ _ ih => ih) h0 (fun a l ha hl => by obtain ⟨s, k⟩ := a; exact h s k l ha hl) l
def sizeL : List Tm → Nat
 | [] => 0
 | ⟨_, l⟩ :: r => 1 + sizeL l + sizeL r
theorem sizeL_append (a b : List Tm) : sizeL (a ++ b) = sizeL a + sizeL b := by
 induction a with
 | nil => simp [sizeL]
 | cons t r ih => obtain ⟨s, l⟩ := t; simp only [List.cons_append, sizeL, ih]; omega
def Lies (w : World) (X : Nat → Prop) : Nat → Nat → List Tm → Prop
 | _, _, [] => True
 | b, o, ⟨s, l⟩ :: r => X b ∧ w.cell? ⟨b, o, none⟩ = some (.string s) ∧
   (∃ a c, w.cell? ⟨b, o + 1, none⟩ = some (.slice a l.length c) ∧ l.length ≤ 9223372036854775807 ∧ (l = [] ∨ ∃ b' o', a = some ⟨b', o', none⟩ ∧ Lies w X b' o' l)) ∧ Lies w X b (o + 2) r
def Sl (w : World) (X : Nat → Prop) (a : Option Addr) (l : List Tm) : Prop := l.length ≤ 9223372036854775807 ∧ (l = [] ∨ ∃ b o, a = some ⟨b, o, none⟩ ∧ Lies w X b o l)
def TV (w : World) (X : Nat → Prop) (v : Value) (t : Tm) : Prop := ∃ a c, v = .agg #[.string t.name, .slice a t.args.length c] ∧ Sl w X a t.args
theorem lies_kept {w w' : World} {X : Nat → Prop} (h : ∀ b, X b → w'.heap[b]? = w.heap[b]?) (l : List Tm) : ∀ b o, Lies w X b o l → Lies w' X b o l := by
 induction l using Tm.indL with
 | h0 => intro b o _; simp [Lies]
 | h s l r ihl ihr =>
  intro b o hl
  simp only [Lies] at hl ⊢
  obtain ⟨hx, h1, ⟨a, c, h2, h2', h3⟩, h4⟩ := hl
  refine ⟨hx, by rw [World.cell?_of_block (h b hx)]; exact h1, ⟨a, c, by rw [World.cell?_of_block (h b hx)]; exact h2, h2', ?_⟩, ihr _ _ h4⟩
  rcases h3 with h3 | ⟨b', o', h3, h5⟩
  ·exact Or.inl h3
  ·exact Or.inr ⟨b', o', h3, ihl _ _ h5⟩
theorem lies_mono {w : World} {X Y : Nat → Prop} (h : ∀ b, X b → b < w.heap.size → Y b) (l : List Tm) : ∀ b o, Lies w X b o l → Lies w Y b o l := by
 induction l using Tm.indL with
 | h0 => intro b o _; simp [Lies]
 | h s l r ihl ihr =>
  intro b o hl
  simp only [Lies] at hl ⊢
  obtain ⟨hx, h1, ⟨a, c, h2, h2', h3⟩, h4⟩ := hl
  have hb : b < w.heap.size := by
   apply Classical.byContradiction
   intro hn
   have e : w.heap[b]? = none := Array.getElem?_eq_none (by omega)
   simp [World.cell?, e] at h1
  refine ⟨h b hx hb, h1, ⟨a, c, h2, h2', ?_⟩, ihr _ _ h4⟩
  rcases h3 with h3 | ⟨b', o', h3, h5⟩
  ·exact Or.inl h3
  ·exact Or.inr ⟨b', o', h3, ihl _ _ h5⟩
theorem Sl.kept {w w' : World} {X : Nat → Prop} {a : Option Addr} {l : List Tm} (h : Sl w X a l) (hk : ∀ b, X b → w'.heap[b]? = w.heap[b]?) : Sl w' X a l := by
 obtain ⟨hl, h⟩ := h
 refine ⟨hl, ?_⟩
 rcases h with h | ⟨b, o, e, h⟩
 ·exact Or.inl h
 ·exact Or.inr ⟨b, o, e, lies_kept hk _ _ _ h⟩
theorem Sl.mono {w : World} {X Y : Nat → Prop} {a : Option Addr} {l : List Tm} (h : Sl w X a l) (hk : ∀ b, X b → b < w.heap.size → Y b) : Sl w Y a l := by
 obtain ⟨hl, h⟩ := h
 refine ⟨hl, ?_⟩
 rcases h with h | ⟨b, o, e, h⟩
 ·exact Or.inl h
 ·exact Or.inr ⟨b, o, e, lies_mono hk _ _ _ h⟩
theorem Sl.below {w w' : World} {X : Nat → Prop} {a : Option Addr} {l : List Tm} {B : Nat} (h : Sl w X a l) (hb : Below B w w') (hX : ∀ b, X b → b < w.heap.size → b < B) : Sl w' X a l := by
 have h1 : Sl w (fun b => X b ∧ b < B) a l := h.mono fun b hx hs => ⟨hx, hX b hx hs⟩
 have h2 : Sl w' (fun b => X b ∧ b < B) a l := h1.kept fun b hx => hb.block b hx.2
 exact h2.mono fun b hx _ => hx.1
theorem TV.kept {w w' : World} {X : Nat → Prop} {v : Value} {t : Tm} (h : TV w X v t) (hk : ∀ b, X b → w'.heap[b]? = w.heap[b]?) : TV w' X v t := by
 obtain ⟨a, c, e, h⟩ := h
 exact ⟨a, c, e, h.kept hk⟩
theorem TV.mono {w : World} {X Y : Nat → Prop} {v : Value} {t : Tm} (h : TV w X v t) (hk : ∀ b, X b → b < w.heap.size → Y b) : TV w Y v t := by
 obtain ⟨a, c, e, h⟩ := h
 exact ⟨a, c, e, h.mono hk⟩
theorem TV.below {w w' : World} {X : Nat → Prop} {v : Value} {t : Tm} {B : Nat} (h : TV w X v t) (hb : Below B w w') (hX : ∀ b, X b → b < w.heap.size → b < B) : TV w' X v t := by
 obtain ⟨a, c, e, h⟩ := h
 exact ⟨a, c, e, h.below hb hX⟩
theorem TV.alloc {w : World} {X : Nat → Prop} {v : Value} {t : Tm} (h : TV w X v t) (o : Obj) : TV (w.alloc o) X v t :=
 h.below ((Below.refl _ _).alloc (Nat.le_refl _) o) (fun _ _ h => h)
theorem TV.later {w w' : World} {X : Nat → Prop} {v : Value} {t : Tm} (h : TV w X v t) (hb : Below w.heap.size w w') : TV w' X v t := h.below hb (fun _ _ h => h)
theorem Sl.later {w w' : World} {X : Nat → Prop} {a : Option Addr} {l : List Tm} (h : Sl w X a l) (hb : Below w.heap.size w w') : Sl w' X a l := h.below hb (fun _ _ h => h)
theorem lies_get {w : World} {X : Nat → Prop} : ∀ (l : List Tm) (b o : Nat), Lies w X b o l → ∀ i (h : i < l.length),
  X b ∧ w.cell? ⟨b, o + i * 2, none⟩ = some (.string l[i].name) ∧ ∃ a c, w.cell? ⟨b, o + i * 2 + 1, none⟩ = some (.slice a l[i].args.length c) ∧ Sl w X a l[i].args := by
 intro l
 induction l with
 | nil => intro b o _ i h; simp at h
 | cons t r ih =>
  intro b o hl i h
  obtain ⟨s, k⟩ := t
  simp only [Lies] at hl
  obtain ⟨hx, h1, ⟨a, c, h2, h3⟩, h4⟩ := hl
  cases i with
  | zero => exact ⟨hx, h1, a, c, h2, h3⟩
  | succ i =>
   have := ih b (o + 2) h4 i (by simpa using h)
   simp only [List.getElem_cons_succ]
   rw [show o + (i + 1) * 2 = o + 2 + i * 2 by omega]
   exact this
theorem lies_mk {w : World} {X : Nat → Prop} : ∀ (l : List Tm) (b o : Nat), (∀ i (h : i < l.length),
  X b ∧ w.cell? ⟨b, o + i * 2, none⟩ = some (.string l[i].name) ∧ ∃ a c, w.cell? ⟨b, o + i * 2 + 1, none⟩ = some (.slice a l[i].args.length c) ∧ Sl w X a l[i].args) → Lies w X b o l := by
 intro l
 induction l with
 | nil => intro b o _; simp [Lies]
 | cons t r ih =>
  intro b o hl
  obtain ⟨s, k⟩ := t
  simp only [Lies]
  obtain ⟨hx, h1, a, c, h2, h3⟩ := hl 0 (by simp)
  refine ⟨hx, h1, ⟨a, c, h2, h3⟩, ih b (o + 2) fun i h => ?_⟩
  have := hl (i + 1) (by simpa using h)
  simp only [List.getElem_cons_succ] at this
  rw [show o + (i + 1) * 2 = o + 2 + i * 2 by omega] at this
  exact this
theorem Sl.get {w wr : World} {X : Nat → Prop} {a : Option Addr} {l : List Tm} {B : Nat} (h : Sl w X a l) (hb : Below B w wr) (hX : ∀ b, X b → b < w.heap.size → b < B) (k : Nat) (hk : k < l.length) :
  ∃ b o a' c', a = some ⟨b, o, none⟩ ∧ wr.cell? ⟨b, o + k * 2, none⟩ = some (.string l[k].name) ∧ wr.cell? ⟨b, o + k * 2 + 1, none⟩ = some (.slice a' l[k].args.length c') ∧ TV wr X (.agg #[.string l[k].name, .slice a' l[k].args.length c']) l[k] := by
 have h' := h.below hb hX
 obtain ⟨_, h1⟩ := h'
 rcases h1 with h1 | ⟨b, o, e, h1⟩
 ·subst h1; simp at hk
 ·obtain ⟨_, h2, a', c', h3, h4⟩ := lies_get _ _ _ h1 k hk
  exact ⟨b, o, a', c', e, h2, h3, a', c', rfl, h4⟩
theorem bcell {W w1 : World} {B : Nat} (hb : Below B W w1) : (∀ b o, b < B → w1.cell? ⟨b, o, none⟩ = W.cell? ⟨b, o, none⟩) ∧ (∀ b o, b < B → w1.frozen? ⟨b, o, none⟩ = W.frozen? ⟨b, o, none⟩) :=
 ⟨fun b o h => hb.cell (p := ⟨b, o, none⟩) h, fun b o h => hb.frozen (p := ⟨b, o, none⟩) h⟩
theorem sizeL_take (l : List Tm) (k : Nat) (h : k < l.length) : sizeL (l.take (k + 1)) = sizeL (l.take k) + sizeL [l[k]] := by
 rw [List.take_succ_eq_append_getElem h, sizeL_append]
theorem sizeL_take_le (l : List Tm) (k : Nat) : sizeL (l.take k) ≤ sizeL l := by
 have := sizeL_append (l.take k) (l.drop k)
 rw [List.take_append_drop] at this
 omega
theorem ret_int {k : IntKind} {a b : Int} (h : a = b) : Ending.returned (.int k a) = .returned (.int k b) := by rw [h]
theorem below_box {w wr : World} {o : Obj} (hb : Below (w.heap.size + 1) (w.alloc o) wr) : Below w.heap.size w wr :=
 ((Below.refl _ _).alloc (Nat.le_refl _) _).trans (hb.mono (Nat.le_succ _))
set_option maxHeartbeats 400000 in
theorem size_any (t : Tm) : ∀ (v : Value) (most : Int) (w : World) (X : Nat → Prop), TV w X v t → 0 ≤ most → most ≤ 1000000 →
  Calls Tryz.prog 33 #[v, .int .i64 most] w fun e w' => e = .returned (.int .i64 (min (sizeL [t]) (most + 1))) ∧ Below w.heap.size w w' := by
 induction t using Tm.ind with
 | h s l ih =>
  intro v most w X hv hm0 hm1
  obtain ⟨a, c, rfl, hs⟩ := hv
  have IH := hide ih
  clear ih
  go_enter Tryz.func33, Tryz.ntmps33
  go_wp2_with fail
  go_loopw [5, 6] (fun n i wr => ∃ k : Nat, k ≤ l.length ∧ i = .int .i64 k ∧ n = .int .i64 (min (1 + sizeL (l.take k)) (most + 1)) ∧ Below (w.heap.size + 1) (w.alloc (Obj.cells #[Value.string s, Value.slice a l.length c] 26)) wr) (fun n i wr => l.length - (intOf i).toNat)
  case atStart => exact ⟨0, Nat.zero_le _, rfl, by simp [sizeL]; omega, Below.refl _ _⟩
  case round =>
   obtain ⟨k, hk, rfl, rfl, hb⟩ := hrel
   have hc := bcell hb
   have c0 : wr.cell? ⟨w.heap.size, 0, none⟩ = some (.string s) := by rw [hc.1 _ _ (by omega)]; simp
   have c1 : wr.cell? ⟨w.heap.size, 1, none⟩ = some (.slice a l.length c) := by rw [hc.1 _ _ (by omega)]; simp
   have hl := hs.1
   have hn : 0 ≤ ((1 : Int) + sizeL (l.take k)) := by omega
   by_cases hlt : k < l.length
   ·obtain ⟨b, o, a', c', rfl, d0, d1, hx⟩ := hs.get (((Below.refl _ _).alloc (Nat.le_refl _) _).trans (hb.mono (Nat.le_succ _))) (fun _ _ h => h) k hlt
    by_cases hle : 1 + (sizeL (l.take k) : Int) ≤ most
    ·have hmin : min (1 + (sizeL (l.take k) : Int)) (most + 1) = 1 + (sizeL (l.take k) : Int) := by omega
     rw [hmin]
     go_wp2_with fail
     refine (IH.out _ (List.getElem_mem hlt) _ _ _ X hx (by omega) (by omega)).mono ?_
     rintro e w1 ⟨rfl, hb1⟩
     have hsz : w.heap.size + 1 ≤ wr.heap.size := by have := hb.size; simpa using this
     have Hst := hide (sizeL_take l k hlt)
     have hm2 : 0 ≤ min ((sizeL [l[k]] : Int)) (most - (1 + (sizeL (l.take k) : Int)) + 1) := by omega
     have hm3 : min ((sizeL [l[k]] : Int)) (most - (1 + (sizeL (l.take k) : Int)) + 1) ≤ 1000001 := by omega
     go_wp2_with fail
     go_roundw
     case rel => exact ⟨k + 1, by omega, by go_num, by rw [Hst.out]; congr 1; omega, hb.trans (hb1.mono hsz)⟩
     case measure => simp [intOf]; omega
    ·have hmin : min (1 + (sizeL (l.take k) : Int)) (most + 1) = most + 1 := by omega
     rw [hmin]
     have hz : (sizeL [(⟨s, l⟩ : Tm)] : Int) = 1 + sizeL l := by simp [sizeL]
     have hle2 : sizeL (l.take k) ≤ sizeL l := sizeL_take_le l k
     have HF := hide (show (most + 1 : Int) = min (sizeL [(⟨s, l⟩ : Tm)] : Int) (most + 1) by omega)
     clear hz
     go_wp2_with fail
     go_ret
     exact ⟨ret_int HF.out, below_box hb⟩
   ·have htk : l.take k = l := List.take_of_length_le (by omega)
    rw [htk]
    have hz : (sizeL [(⟨s, l⟩ : Tm)] : Int) = 1 + sizeL l := by simp [sizeL]
    have HZ := hide hz
    clear hz
    go_wp2_with fail
    ·go_ret
     exact ⟨ret_int (by have := HZ.out; omega), below_box hb⟩
    ·go_ret
     exact ⟨ret_int (by have := HZ.out; omega), below_box hb⟩
set_option linter.unusedSimpArgs false
set_option linter.unusedVariables false
def digB (n : Int) : Bool := decide (48 ≤ n) && decide (n ≤ 57)
def capB (n : Int) : Bool := decide (65 ≤ n) && decide (n ≤ 90)
def lowB (n : Int) : Bool := decide (97 ≤ n) && decide (n ≤ 122)
def letB (n : Int) : Bool := lowB n || capB n
def alnB (n : Int) : Bool := letB n || digB n
theorem ret_bool {a b : Bool} (h : a = b) : Ending.returned (.bool a) = .returned (.bool b) := by rw [h]
set_option maxHeartbeats 400000 in
theorem isDigit_any (n : Int) (w : World) : Calls Tryz.prog 81 #[.int .u8 n] w fun e w' => e = .returned (.bool (digB n)) ∧ w' = w := by
 go_enter Tryz.func81, Tryz.ntmps81
 go_wp2_with fail
 all_goals (go_ret; refine ⟨ret_bool ?_, rfl⟩; rw [Bool.eq_iff_iff]; simp [alnB, letB, lowB, capB, digB] <;> omega)
set_option maxHeartbeats 400000 in
theorem isCapital_any (n : Int) (w : World) : Calls Tryz.prog 72 #[.int .u8 n] w fun e w' => e = .returned (.bool (capB n)) ∧ w' = w := by
 go_enter Tryz.func72, Tryz.ntmps72
 go_wp2_with fail
 all_goals (go_ret; refine ⟨ret_bool ?_, rfl⟩; rw [Bool.eq_iff_iff]; simp [alnB, letB, lowB, capB, digB] <;> omega)
set_option maxHeartbeats 400000 in
theorem isLetter_any (n : Int) (w : World) : Calls Tryz.prog 82 #[.int .u8 n] w fun e w' => e = .returned (.bool (letB n)) ∧ w' = w := by
 go_enter Tryz.func82, Tryz.ntmps82
 go_wp2_with (go_at_call 72; refine (isCapital_any _ _).mono ?_; rintro e w' ⟨rfl, rfl⟩)
 all_goals (go_ret; refine ⟨ret_bool ?_, rfl⟩; rw [Bool.eq_iff_iff]; simp [alnB, letB, lowB, capB, digB] <;> omega)
set_option maxHeartbeats 400000 in
theorem isLetterR_any (n : Int) (w : World) : Calls Tryz.prog 59 #[.int .u8 n] w fun e w' => e = .returned (.bool (alnB n)) ∧ w' = w := by
 go_enter Tryz.func59, Tryz.ntmps59
 go_wp2_with fail
 all_goals (go_ret; refine ⟨ret_bool ?_, rfl⟩; rw [Bool.eq_iff_iff]; simp [alnB, letB, lowB, capB, digB] <;> omega)
def byteAt (s : ByteArray) (i : Nat) : Int := if h : i < s.size then (s[i].toNat : Int) else 0
theorem byteAt_of {s : ByteArray} {i : Nat} (h : i < s.size) : (s[i].toNat : Int) = byteAt s i := by simp [byteAt, h]
def varB (s : ByteArray) : Bool := capB (byteAt s 0)
def alnTo (s : ByteArray) (k : Nat) : Bool := (List.range k).all fun i => alnB (byteAt s i)
def nameB (s : ByteArray) : Bool := decide (1 ≤ s.size) && decide (s.size ≤ 8) && !digB (byteAt s 0) && alnTo s s.size
theorem isEmpty_pos {s : ByteArray} (h : 0 < s.size) : s.toList.isEmpty = false := by
 rw [ByteArray.toList_eq, List.isEmpty_eq_false_iff, ← List.length_pos_iff]
 simpa using h
theorem isEmpty_zero {s : ByteArray} (h : ¬ 0 < s.size) : s.toList.isEmpty = true := by
 rw [ByteArray.toList_eq, List.isEmpty_iff, ← List.length_eq_zero_iff]
 have : s.size = 0 := by omega
 simpa using this
theorem alnTo_succ (s : ByteArray) (k : Nat) : alnTo s (k + 1) = (alnTo s k && alnB (byteAt s k)) := by
 simp [alnTo, List.range_succ, List.all_append]
theorem alnTo_false {s : ByteArray} {k n : Nat} (h : k ≤ n) (hf : alnTo s k = false) : alnTo s n = false := by
 cases hn : alnTo s n with
 | false => rfl
 | true =>
  rw [← hf]; symm
  unfold alnTo at hn ⊢
  rw [List.all_eq_true] at hn ⊢
  intro x hx; exact hn x (by rw [List.mem_range] at hx ⊢; omega)
set_option maxHeartbeats 400000 in
theorem isVarR_any (s : ByteArray) (w : World) : Calls Tryz.prog 36 #[.string s] w fun e w' => e = .returned (.bool (varB s)) ∧ w' = w := by
 by_cases h : 0 < s.size
 ·have hb := hide (byteAt_of h)
  have he := isEmpty_pos h
  go_enter Tryz.func36, Tryz.ntmps36
  go_wp2_with fail
  all_goals (go_ret; refine ⟨ret_bool ?_, rfl⟩; have hb' := hb.out; rw [Bool.eq_iff_iff]; simp [varB, capB] <;> omega)
 ·have he := isEmpty_zero h
  have hv : Hid (false = varB s) := by simp [Hid, varB, byteAt, h, capB]
  go_enter Tryz.func36, Tryz.ntmps36
  go_wp2_with fail
  go_ret
  exact ⟨ret_bool hv.out, rfl⟩
set_option maxHeartbeats 400000 in
theorem isVariable_all (s : ByteArray) (w : World) : Calls Tryz.prog 52 #[.string s] w fun e w' => e = .returned (.bool (varB s)) ∧ w' = w := by
 by_cases h : 0 < s.size
 ·have hb := hide (byteAt_of h)
  have he := isEmpty_pos h
  go_enter Tryz.func52, Tryz.ntmps52
  go_wp2_with (go_at_call 72; refine (isCapital_any _ _).mono ?_; rintro e w' ⟨rfl, rfl⟩)
  go_ret
  refine ⟨ret_bool ?_, rfl⟩
  rw [hb.out]; rfl
 ·have he := isEmpty_zero h
  have hv : Hid (false = varB s) := by simp [Hid, varB, byteAt, h, capB]
  go_enter Tryz.func52, Tryz.ntmps52
  go_wp2_with fail
  go_ret
  exact ⟨ret_bool hv.out, rfl⟩
theorem isVariable_any (s : ByteArray) (w : World) (h : 0 < s.size) : Calls Tryz.prog 52 #[.string s] w fun e w' => e = .returned (.bool (varB s)) ∧ w' = w := isVariable_all s w
theorem nameB_no {s : ByteArray} {k : Nat} (hk : k < s.size) (h : alnB (byteAt s k) = false) : nameB s = false := by
 have h1 : alnTo s (k + 1) = false := by rw [alnTo_succ, h]; simp
 have h2 := alnTo_false (n := s.size) (by omega) h1
 simp [nameB, h2]
set_option maxHeartbeats 400000 in
theorem isName_any (s : ByteArray) (w : World) : Calls Tryz.prog 66 #[.string s] w fun e w' => e = .returned (.bool (nameB s)) ∧ w' = w := by
 by_cases h0 : s.size < 1
 ·have hn : Hid (false = nameB s) := by simp [Hid, nameB]; omega
  go_enter Tryz.func66, Tryz.ntmps66
  go_wp2_with fail
  go_ret
  exact ⟨ret_bool hn.out, rfl⟩
 ·by_cases h8 : 8 < s.size
  ·have hn : Hid (false = nameB s) := by simp [Hid, nameB]; omega
   go_enter Tryz.func66, Tryz.ntmps66
   go_wp2_with fail
   all_goals (go_ret; exact ⟨ret_bool hn.out, rfl⟩)
  ·have hb := hide (byteAt_of (s := s) (i := 0) (by omega))
   by_cases hd : digB (byteAt s 0) = true
   ·have hn : Hid (false = nameB s) := by simp [Hid, nameB, hd]
    have hd' := hide hd
    clear hd
    go_enter Tryz.func66, Tryz.ntmps66
    go_wp2_with (go_at_call 81; refine (isDigit_any _ _).mono ?_; rintro e w' ⟨rfl, rfl⟩; rw [hb.out, hd'.out])
    all_goals (go_ret; exact ⟨ret_bool hn.out, rfl⟩)
   ·have hd' : Hid (digB (byteAt s 0) = false) := by simpa [Hid] using hd
    clear hd
    go_enter Tryz.func66, Tryz.ntmps66
    go_wp2_with (go_at_call 81; refine (isDigit_any _ _).mono ?_; rintro e w' ⟨rfl, rfl⟩; rw [hb.out, hd'.out])
    go_loop [19] (fun i => ∃ k : Nat, k ≤ s.size ∧ i = .int .i64 k ∧ alnTo s k = true) (fun i => s.size - (intOf i).toNat)
    case atStart => exact ⟨0, Nat.zero_le _, rfl, rfl⟩
    case round =>
     obtain ⟨k, hk, rfl, ha⟩ := hrel
     have HA := hide ha
     clear ha
     by_cases hlt : k < s.size
     ·have hbk := hide (byteAt_of hlt)
      have hsuc := hide (alnTo_succ s k)
      cases hl : letB (byteAt s k) with
      | true =>
       have HL := hide hl
       clear hl
       go_wp2_with (go_at_call 82; refine (isLetter_any _ _).mono ?_; rintro e w' ⟨rfl, rfl⟩; rw [hbk.out, HL.out])
       go_round
       case rel => exact ⟨k + 1, by omega, by go_num, by rw [hsuc.out, HA.out, alnB, HL.out]; rfl⟩
       case measure => simp [intOf]; omega
      | false =>
       have HL := hide hl
       clear hl
       cases hg : digB (byteAt s k) with
       | true =>
        have HG := hide hg
        clear hg
        go_wp2_with (first | (go_at_call 82; refine (isLetter_any _ _).mono ?_; rintro e w' ⟨rfl, rfl⟩; rw [hbk.out, HL.out]) | (go_at_call 81; refine (isDigit_any _ _).mono ?_; rintro e w' ⟨rfl, rfl⟩; rw [hbk.out, HG.out]))
        go_round
        case rel => exact ⟨k + 1, by omega, by go_num, by rw [hsuc.out, HA.out, alnB, HL.out, HG.out]; rfl⟩
        case measure => simp [intOf]; omega
       | false =>
        have HG := hide hg
        clear hg
        go_wp2_with (first | (go_at_call 82; refine (isLetter_any _ _).mono ?_; rintro e w' ⟨rfl, rfl⟩; rw [hbk.out, HL.out]) | (go_at_call 81; refine (isDigit_any _ _).mono ?_; rintro e w' ⟨rfl, rfl⟩; rw [hbk.out, HG.out]))
        go_ret
        exact ⟨ret_bool (nameB_no hlt (by rw [alnB, HL.out, HG.out]; rfl)).symm, rfl⟩
     ·have hn : Hid (true = nameB s) := by
       have e : k = s.size := by omega
       have := HA.out
       rw [e] at this
       simp [Hid, nameB, this, hd'.out]; omega
      go_wp2_with fail
      go_ret
      exact ⟨ret_bool hn.out, rfl⟩
set_option maxHeartbeats 400000 in
theorem isNameR_any (s : ByteArray) (w : World) : Calls Tryz.prog 35 #[.string s] w fun e w' => e = .returned (.bool (nameB s)) ∧ w' = w := by
 by_cases h0 : 0 < s.size
 ·have he := isEmpty_pos h0
  have hb := hide (byteAt_of h0)
  by_cases h8 : 8 < s.size
  ·have hn : Hid (false = nameB s) := by simp [Hid, nameB]; omega
   go_enter Tryz.func35, Tryz.ntmps35
   go_wp2_with fail
   all_goals (go_ret; exact ⟨ret_bool hn.out, rfl⟩)
  ·cases hd : digB (byteAt s 0) with
   | true =>
    have hn : Hid (false = nameB s) := by simp [Hid, nameB, hd]
    have hd1 : 48 ≤ (s[0].toNat : Int) := by rw [hb.out]; simp [digB] at hd; exact hd.1
    have hd2 : (s[0].toNat : Int) ≤ 57 := by rw [hb.out]; simp [digB] at hd; exact hd.2
    clear hd
    go_enter Tryz.func35, Tryz.ntmps35
    go_wp2_with fail
    all_goals (go_ret; exact ⟨ret_bool hn.out, rfl⟩)
   | false =>
    have HD := hide hd
    clear hd
    have hor : (s[0].toNat : Int) < 48 ∨ (48 ≤ (s[0].toNat : Int) ∧ 57 < (s[0].toNat : Int)) := by
     have := HD.out; rw [hb.out]; simp [digB] at this; omega
    rcases hor with h1 | ⟨h1, h2⟩
    all_goals
     go_enter Tryz.func35, Tryz.ntmps35
     go_wp2_with fail
     go_loop [3] (fun i => ∃ k : Nat, k ≤ s.size ∧ i = .int .i64 k ∧ alnTo s k = true) (fun i => s.size - (intOf i).toNat)
     case atStart => exact ⟨0, Nat.zero_le _, rfl, rfl⟩
     case round =>
      obtain ⟨k, hk, rfl, ha⟩ := hrel
      have HA := hide ha
      clear ha
      by_cases hlt : k < s.size
      ·have hbk := hide (byteAt_of hlt)
       have hsuc := hide (alnTo_succ s k)
       cases hl : alnB (byteAt s k) with
       | true =>
        have HL := hide hl
        clear hl
        go_wp2_with (go_at_call 59; refine (isLetterR_any _ _).mono ?_; rintro e w' ⟨rfl, rfl⟩; rw [hbk.out, HL.out])
        go_round
        case rel => exact ⟨k + 1, by omega, by go_num, by rw [hsuc.out, HA.out, HL.out]; rfl⟩
        case measure => simp [intOf]; omega
       | false =>
        have HL := hide hl
        clear hl
        go_wp2_with (go_at_call 59; refine (isLetterR_any _ _).mono ?_; rintro e w' ⟨rfl, rfl⟩; rw [hbk.out, HL.out])
        go_ret
        exact ⟨ret_bool (nameB_no hlt HL.out).symm, rfl⟩
      ·have hn : Hid (true = nameB s) := by
        have e : k = s.size := by omega
        have := HA.out
        rw [e] at this
        simp [Hid, nameB, this, HD.out]; omega
       go_wp2_with fail
       go_ret
       exact ⟨ret_bool hn.out, rfl⟩
 ·have he := isEmpty_zero h0
  have hn : Hid (false = nameB s) := by simp [Hid, nameB]; omega
  go_enter Tryz.func35, Tryz.ntmps35
  go_wp2_with fail
  all_goals (go_ret; exact ⟨ret_bool hn.out, rfl⟩)
theorem argsOf_any (s : ByteArray) (a : Option Addr) (n c : Nat) (w : World) :
  Calls Tryz.prog 65 #[.agg #[.string s, .slice a n c]] w fun e w' => e = .returned (.slice a n c) ∧ w' = w.alloc (.cells #[.string s, .slice a n c] 26) := by
 go_enter Tryz.func65, Tryz.ntmps65
 go_wp2_with fail
 go_ret
 exact ⟨rfl, rfl⟩
set_option maxHeartbeats 400000 in
theorem countOn_any (M : Int) (hM0 : 0 ≤ M) (hM1 : M ≤ 1000000) (t : Tm) : ∀ (v : Value) (n : Int) (w : World) (X : Nat → Prop), TV w X v t → 0 ≤ n → n ≤ M →
  Calls Tryz.prog 80 #[v, .func (.func 65) #[] #[], .int .i64 M, .int .i64 n] w fun e w' => e = .returned (.int .i64 (min (n + sizeL [t]) (M + 1))) ∧ Below w.heap.size w w' := by
 induction t using Tm.ind with
 | h s l ih =>
  intro v n w X hv hn0 hn1
  obtain ⟨a, c, rfl, hs⟩ := hv
  have IH := hide ih
  clear ih
  have hz : Hid ((sizeL [(⟨s, l⟩ : Tm)] : Int) = 1 + sizeL l) := by simp [Hid, sizeL]
  go_enter Tryz.func80, Tryz.ntmps80
  go_wp2_with (go_at_call 65; refine (argsOf_any _ _ _ _ _).mono ?_; rintro e w' ⟨rfl, rfl⟩)
  have hB0 : Hid (Below w.heap.size w ((w.alloc (Obj.cells #[Value.string s, Value.slice a l.length c] 26)).alloc (Obj.cells #[Value.string s, Value.slice a l.length c] 26))) := ((Below.refl _ _).alloc (Nat.le_refl _) _).alloc (by simp) _
  have hZ0 : Hid (w.heap.size + 2 ≤ ((w.alloc (Obj.cells #[Value.string s, Value.slice a l.length c] 26)).alloc (Obj.cells #[Value.string s, Value.slice a l.length c] 26)).heap.size) := by simp [Hid]
  generalize ((w.alloc (Obj.cells #[Value.string s, Value.slice a l.length c] 26)).alloc (Obj.cells #[Value.string s, Value.slice a l.length c] 26)) = w0 at *
  go_loopw [9, 18] (fun m i wr => ∃ k : Nat, k ≤ l.length ∧ i = .int .i64 k ∧ m = .int .i64 (min (n + 1 + sizeL (l.take k)) (M + 1)) ∧ Below w.heap.size w wr) (fun m i wr => l.length - (intOf i).toNat)
  case atStart => exact ⟨0, Nat.zero_le _, rfl, by rw [show sizeL (l.take 0) = 0 by simp [sizeL]]; congr 1; omega, hB0.out⟩
  case round =>
   obtain ⟨k, hk, rfl, rfl, hb⟩ := hrel
   have hl := hs.1
   have hsz : w.heap.size ≤ wr.heap.size := hb.size
   by_cases hlt : k < l.length
   ·obtain ⟨b, o, a', c', rfl, d0, d1, hx⟩ := hs.get hb (fun _ _ h => h) k hlt
    by_cases hle : n + 1 + (sizeL (l.take k) : Int) ≤ M
    ·have hmin : min (n + 1 + (sizeL (l.take k) : Int)) (M + 1) = n + 1 + (sizeL (l.take k) : Int) := by omega
     rw [hmin]
     go_wp2_with fail
     refine (IH.out _ (List.getElem_mem hlt) _ _ _ X (hx.alloc _) (by omega) (by omega)).mono ?_
     rintro e w1 ⟨rfl, hb1⟩
     have Hst := hide (sizeL_take l k hlt)
     go_wp2_with fail
     go_roundw
     case rel => exact ⟨k + 1, by omega, by go_num, by rw [Hst.out]; congr 1; omega, (hb.alloc hsz _).trans (hb1.mono (by simp; omega))⟩
     case measure => simp [intOf]; omega
    ·have hmin : min (n + 1 + (sizeL (l.take k) : Int)) (M + 1) = M + 1 := by omega
     rw [hmin]
     have hle2 : sizeL (l.take k) ≤ sizeL l := sizeL_take_le l k
     go_wp2_with fail
     go_ret
     refine ⟨ret_int (by have := hz.out; omega), ?_⟩
     exact hb.alloc (by omega) _
   ·have htk : l.take k = l := List.take_of_length_le (by omega)
    rw [htk]
    go_wp2_with fail
    go_ret
    exact ⟨ret_int (by have := hz.out; omega), hb⟩
theorem countT_any (M : Int) (hM0 : 0 ≤ M) (hM1 : M ≤ 1000000) (t : Tm) (v : Value) (w : World) (X : Nat → Prop) (hv : TV w X v t) :
  Calls Tryz.prog 64 #[v, .func (.func 65) #[] #[], .int .i64 M] w fun e w' => e = .returned (.int .i64 (min (sizeL [t] : Int) (M + 1))) ∧ Below w.heap.size w w' := by
 obtain ⟨a, c, rfl, hs⟩ := hv
 have hv : TV w X (.agg #[.string t.name, .slice a t.args.length c]) t := ⟨a, c, rfl, hs⟩
 go_enter Tryz.func64, Tryz.ntmps64
 go_wp2_with fail
 refine (countOn_any M hM0 hM1 t _ _ _ X (hv.alloc _) (by omega) (by omega)).mono ?_
 rintro e w1 ⟨rfl, hb1⟩
 go_wp2_with fail
 go_ret
 exact ⟨ret_int (by omega), ((Below.refl _ _).alloc (Nat.le_refl _) _).trans (hb1.mono (by simp))⟩
theorem count_any (M : Int) (hM0 : 0 ≤ M) (hM1 : M ≤ 1000000) (t : Tm) (v : Value) (w : World) (X : Nat → Prop) (hv : TV w X v t) :
  Calls Tryz.prog 42 #[v, .int .i64 M] w fun e w' => e = .returned (.int .i64 (min (sizeL [t] : Int) (M + 1))) ∧ Below w.heap.size w w' := by
 obtain ⟨a, c, rfl, hs⟩ := hv
 have hv : TV w X (.agg #[.string t.name, .slice a t.args.length c]) t := ⟨a, c, rfl, hs⟩
 go_enter Tryz.func42, Tryz.ntmps42
 go_wp2_with fail
 refine (countT_any M hM0 hM1 t _ _ X (hv.alloc _)).mono ?_
 rintro e w1 ⟨rfl, hb1⟩
 go_wp2_with fail
 go_ret
 exact ⟨ret_int (by omega), ((Below.refl _ _).alloc (Nat.le_refl _) _).trans (hb1.mono (by simp))⟩
def errL : List Tm → Int
 | [] => 0
 | ⟨s, l⟩ :: r => if nameB s = true then (if (varB s && decide (0 < l.length)) = true then 2 else if errL l = 0 then errL r else errL l) else 1
theorem errL_cons (t : Tm) (r : List Tm) : errL (t :: r) = if errL [t] = 0 then errL r else errL [t] := by
 obtain ⟨s, l⟩ := t
 simp only [errL]
 split
 ·split
  ·simp
  ·split <;> simp_all
 ·simp
theorem errL_append (a b : List Tm) : errL (a ++ b) = if errL a = 0 then errL b else errL a := by
 induction a with
 | nil => simp [errL]
 | cons t r ih =>
  rw [List.cons_append, errL_cons, errL_cons t r, ih]
  by_cases h : errL [t] = 0 <;> simp [h]
theorem errL_take (l : List Tm) (k : Nat) (h : k < l.length) : errL (l.take (k + 1)) = if errL (l.take k) = 0 then errL [l[k]] else errL (l.take k) := by
 rw [List.take_succ_eq_append_getElem h, errL_append]
theorem errL_of_take {l : List Tm} {k : Nat} (h : errL (l.take k) ≠ 0) : errL l = errL (l.take k) := by
 have := errL_append (l.take k) (l.drop k)
 rw [List.take_append_drop, if_neg h] at this
 exact this
theorem name_pos {s : ByteArray} (h : nameB s = true) : 0 < s.size := by
 simp [nameB] at h; omega
set_option maxHeartbeats 400000 in
theorem checkKnots_any (t : Tm) : ∀ (v : Value) (w : World) (X : Nat → Prop), TV w X v t →
  Calls Tryz.prog 43 #[v] w fun e w' => e = .returned (.int .i64 (errL [t])) ∧ Below w.heap.size w w' := by
 induction t using Tm.ind with
 | h s l ih =>
  intro v w X hv
  obtain ⟨a, c, rfl, hs⟩ := hv
  have IH := hide ih
  clear ih
  have hl := hs.1
  cases hn : nameB s with
  | false =>
   have hz : Hid (1 = errL [(⟨s, l⟩ : Tm)]) := by simp [Hid, errL, hn]
   have HN := hide hn
   clear hn
   go_enter Tryz.func43, Tryz.ntmps43
   go_wp2_with (go_at_call 66; refine (isName_any _ _).mono ?_; rintro e w' ⟨rfl, rfl⟩; rw [HN.out])
   go_ret
   exact ⟨ret_int hz.out, (Below.refl _ _).alloc (Nat.le_refl _) _⟩
  | true =>
   have HN := hide hn
   have hpos := name_pos hn
   by_cases hvl : varB s = true ∧ 0 < l.length
   ·obtain ⟨hv, hlp⟩ := hvl
    have hz : Hid (2 = errL [(⟨s, l⟩ : Tm)]) := by simp [Hid, errL, hn, hv, hlp]
    have HV := hide hv
    clear hn hv
    go_enter Tryz.func43, Tryz.ntmps43
    go_wp2_with (first | (go_at_call 66; refine (isName_any _ _).mono ?_; rintro e w' ⟨rfl, rfl⟩; rw [HN.out]) | (go_at_call 52; refine (isVariable_any _ _ hpos).mono ?_; rintro e w' ⟨rfl, rfl⟩; rw [HV.out]))
    go_ret
    exact ⟨ret_int hz.out, (Below.refl _ _).alloc (Nat.le_refl _) _⟩
   ·have hz : Hid (errL [(⟨s, l⟩ : Tm)] = errL l) := by
     have : (varB s && decide (0 < l.length)) = false := by
      rw [Bool.eq_false_iff]; intro h; simp at h; exact hvl ⟨h.1, by omega⟩
     simp only [Hid, errL, hn, this]
     by_cases h0 : errL l = 0 <;> simp [h0]
    have hcase : (varB s = true ∧ l.length < 1) ∨ varB s = false := by
     cases hv : varB s with
     | true => exact Or.inl ⟨rfl, by apply Classical.byContradiction; intro h; exact hvl ⟨hv, by omega⟩⟩
     | false => exact Or.inr rfl
    clear hn hvl
    rcases hcase with ⟨hv, hl0⟩ | hv
    ·have e0 : l = [] := List.length_eq_zero_iff.1 (by omega)
     subst e0
     have HV := hide hv
     clear hv
     go_enter Tryz.func43, Tryz.ntmps43
     go_wp2_with (first | (go_at_call 66; refine (isName_any _ _).mono ?_; rintro e w' ⟨rfl, rfl⟩; rw [HN.out]) | (go_at_call 52; refine (isVariable_any _ _ hpos).mono ?_; rintro e w' ⟨rfl, rfl⟩; rw [HV.out]))
     go_loop [22] (fun i => i = .int .i64 0) (fun i => 0)
     case atStart => rfl
     case round =>
      subst hrel
      have HZ : Hid (0 = errL [(⟨s, []⟩ : Tm)]) := by unfold Hid; rw [hz.out]; simp [errL]
      go_wp2_with fail
      go_ret
      exact ⟨ret_int HZ.out, (Below.refl _ _).alloc (Nat.le_refl _) _⟩
    ·have HV := hide hv
     clear hv
     go_enter Tryz.func43, Tryz.ntmps43
     go_wp2_with (first | (go_at_call 66; refine (isName_any _ _).mono ?_; rintro e w' ⟨rfl, rfl⟩; rw [HN.out]) | (go_at_call 52; refine (isVariable_any _ _ hpos).mono ?_; rintro e w' ⟨rfl, rfl⟩; rw [HV.out]))
     go_loopw [22] (fun i wr => ∃ k : Nat, k ≤ l.length ∧ i = .int .i64 k ∧ errL (l.take k) = 0 ∧ Below (w.heap.size + 1) (w.alloc (Obj.cells #[Value.string s, Value.slice a l.length c] 26)) wr) (fun i wr => l.length - (intOf i).toNat)
     case atStart => exact ⟨0, Nat.zero_le _, rfl, by simp [errL], Below.refl _ _⟩
     case round =>
      obtain ⟨k, hk, rfl, he, hb⟩ := hrel
      have HE := hide he
      clear he
      have hsz : w.heap.size + 1 ≤ wr.heap.size := by have := hb.size; simpa using this
      by_cases hlt : k < l.length
      ·obtain ⟨b, o, a', c', rfl, d0, d1, hx⟩ := hs.get (below_box hb) (fun _ _ h => h) k hlt
       have HT := hide (errL_take l k hlt)
       go_wp2_with fail
       refine (IH.out _ (List.getElem_mem hlt) _ _ X (hx.alloc _)).mono ?_
       rintro e w1 ⟨rfl, hb1⟩
       by_cases hez : errL [l[k]] = 0
       ·have HZ := hide hez
        rw [hez]
        clear hez
        go_wp2_with fail
        go_roundw
        case rel => exact ⟨k + 1, by omega, by go_num, by rw [HT.out, HE.out, HZ.out]; rfl, (hb.alloc hsz _).trans (hb1.mono (by simp; omega))⟩
        case measure => simp [intOf]; omega
       ·have hez' : (errL [l[k]] == 0) = false := by simpa using hez
        have HZ : Hid (errL [l[k]] = errL [(⟨s, l⟩ : Tm)]) := by
         have h1 : errL (l.take (k + 1)) = errL [l[k]] := by rw [HT.out, HE.out]; rfl
         unfold Hid
         rw [hz.out, errL_of_take (l := l) (k := k + 1) (by rw [h1]; exact hez), h1]
        go_wp2_with fail
        go_ret
        exact ⟨ret_int HZ.out, ((below_box hb).alloc (by omega) _).trans (hb1.mono (by simp; omega))⟩
      ·have htk : l.take k = l := List.take_of_length_le (by omega)
       have HZ : Hid (0 = errL [(⟨s, l⟩ : Tm)]) := by unfold Hid; rw [hz.out, ← htk, HE.out]
       go_wp2_with fail
       go_ret
       exact ⟨ret_int HZ.out, below_box hb⟩
def mayE (t : Tm) : Int := if 200 < sizeL [t] then 3 else errL [t]
set_option maxHeartbeats 400000 in
theorem check_any (t : Tm) (v : Value) (w : World) (X : Nat → Prop) (hv : TV w X v t) :
  Calls Tryz.prog 23 #[v] w fun e w' => e = .returned (.int .i64 (mayE t)) ∧ Below w.heap.size w w' := by
 obtain ⟨a, c, rfl, hs⟩ := hv
 have hv : TV w X (.agg #[.string t.name, .slice a t.args.length c]) t := ⟨a, c, rfl, hs⟩
 go_enter Tryz.func23, Tryz.ntmps23
 go_wp2_with fail
 refine (count_any 200 (by omega) (by omega) t _ _ X (hv.alloc _)).mono ?_
 rintro e w1 ⟨rfl, hb1⟩
 have c0 : w1.cell? ⟨w.heap.size, 0, none⟩ = some (.string t.name) := by rw [hb1.cell (p := ⟨_, _, none⟩) (by simp)]; simp
 have c1 : w1.cell? ⟨w.heap.size, 1, none⟩ = some (.slice a t.args.length c) := by rw [hb1.cell (p := ⟨_, _, none⟩) (by simp)]; simp
 have hb2 : Below w.heap.size w w1 := ((Below.refl _ _).alloc (Nat.le_refl _) _).trans (hb1.mono (by simp))
 by_cases h : 200 < sizeL [t]
 ·have hm : Hid (3 = mayE t) := by simp [Hid, mayE, h]
  have e : min (sizeL [t] : Int) (200 + 1) = 201 := by omega
  rw [e]
  go_wp2_with fail
  go_ret
  exact ⟨ret_int hm.out, hb2⟩
 ·have hm : Hid (errL [t] = mayE t) := by simp [Hid, mayE, h]
  have e : min (sizeL [t] : Int) (200 + 1) = sizeL [t] := by omega
  rw [e]
  go_wp2_with fail
  refine (checkKnots_any t _ _ X (hv.later hb2)).mono ?_
  rintro e w2 ⟨rfl, hb3⟩
  go_wp2_with fail
  go_ret
  exact ⟨ret_int hm.out, hb2.trans (hb3.mono hb2.size)⟩
def RowT (w : World) (X : Nat → Prop) : List Tm → List Value → Prop
 | [], xs => xs = []
 | t :: l, xs => ∃ a c r, xs = .string t.name :: .slice a t.args.length c :: r ∧ Sl w X a t.args ∧ RowT w X l r
theorem RowT.len {w : World} {X : Nat → Prop} : ∀ {l : List Tm} {xs : List Value}, RowT w X l xs → xs.length = l.length * 2
 | [], xs, h => by simp [RowT] at h; simp [h]
 | t :: l, xs, h => by
  obtain ⟨a, c, r, rfl, _, h⟩ := h
  simp only [List.length_cons]
  rw [RowT.len h]; omega
theorem RowT.append {w : World} {X : Nat → Prop} : ∀ {l k : List Tm} {xs ys : List Value}, RowT w X l xs → RowT w X k ys → RowT w X (l ++ k) (xs ++ ys)
 | [], k, xs, ys, h, h' => by simp [RowT] at h; subst h; simpa using h'
 | t :: l, k, xs, ys, h, h' => by
  obtain ⟨a, c, r, rfl, hs, h⟩ := h
  exact ⟨a, c, r ++ ys, rfl, hs, RowT.append h h'⟩
theorem RowT.one {w : World} {X : Nat → Prop} : ∀ {l : List Tm} {xs : List Value}, RowT w X l xs → ∀ u ∈ xs, u.oneCell' = true
 | [], xs, h, u, hu => by simp [RowT] at h; subst h; cases hu
 | t :: l, xs, h, u, hu => by
  obtain ⟨a, c, r, rfl, _, h⟩ := h
  rcases List.mem_cons.1 hu with e | hu
  ·subst e; rfl
  ·rcases List.mem_cons.1 hu with e | hu
   ·subst e; rfl
   ·exact RowT.one h u hu
theorem RowT.imp {w w' : World} {X Y : Nat → Prop} (hs : ∀ a l, Sl w X a l → Sl w' Y a l) : ∀ {l : List Tm} {xs : List Value}, RowT w X l xs → RowT w' Y l xs
 | [], xs, h => h
 | t :: l, xs, h => by
  obtain ⟨a, c, r, e, h1, h⟩ := h
  exact ⟨a, c, r, e, hs _ _ h1, RowT.imp hs h⟩
theorem RowT.get {w : World} {X : Nat → Prop} : ∀ {l : List Tm} {xs : List Value}, RowT w X l xs → ∀ i (h : i < l.length),
  xs[i * 2]? = some (.string l[i].name) ∧ ∃ a c, xs[i * 2 + 1]? = some (.slice a l[i].args.length c) ∧ Sl w X a l[i].args
 | [], xs, h, i, hi => by simp at hi
 | t :: l, xs, h, i, hi => by
  obtain ⟨a, c, r, rfl, h1, h⟩ := h
  cases i with
  | zero => exact ⟨rfl, a, c, rfl, h1⟩
  | succ i =>
   have := RowT.get h i (by simpa using hi)
   rw [show (i + 1) * 2 = i * 2 + 2 by omega, show i * 2 + 2 + 1 = (i * 2 + 1) + 2 by omega]
   simpa using this
theorem sizeL_len (l : List Tm) : l.length ≤ sizeL l := by
 induction l with
 | nil => simp
 | cons t r ih => obtain ⟨s, k⟩ := t; simp only [List.length_cons, sizeL]; omega
theorem lies_of_rowT {w w' : World} {X Y : Nat → Prop} (b : Nat) (hb : Y b) : ∀ (l : List Tm) (xs : List Value) (o : Nat), RowT w X l xs → (∀ a k, Sl w X a k → Sl w' Y a k) → (∀ j u, xs[j]? = some u → w'.cell? ⟨b, o + j, none⟩ = some u) → Lies w' Y b o l := by
 intro l
 induction l with
 | nil => intro xs o _ _ _; simp [Lies]
 | cons t r ih =>
  intro xs o h hs hc
  obtain ⟨s, k⟩ := t
  obtain ⟨a, c, r', rfl, h1, h2⟩ := h
  simp only [Lies]
  obtain ⟨h3, h4⟩ := hs _ _ h1
  refine ⟨hb, hc 0 _ rfl, ⟨a, c, hc 1 _ rfl, h3, h4⟩, ih r' (o + 2) h2 hs fun j u hj => ?_⟩
  have := hc (j + 2) u (by simpa using hj)
  rwa [show o + (j + 2) = o + 2 + j by omega] at this
def preL : List Tm → List Tm
 | [] => []
 | ⟨s, l⟩ :: r => ⟨s, l⟩ :: (preL l ++ preL r)
theorem preL_append (a b : List Tm) : preL (a ++ b) = preL a ++ preL b := by
 induction a with
 | nil => simp [preL]
 | cons t r ih => obtain ⟨s, l⟩ := t; simp [preL, ih]
theorem preL_take (l : List Tm) (k : Nat) (h : k < l.length) : preL (l.take (k + 1)) = preL (l.take k) ++ preL [l[k]] := by
 rw [List.take_succ_eq_append_getElem h, preL_append]
theorem preL_length (l : List Tm) : (preL l).length = sizeL l := by
 induction l using Tm.indL with
 | h0 => simp [preL, sizeL]
 | h s l r ihl ihr => simp [preL, sizeL, ihl, ihr]; omega
theorem Sl.back {w w' : World} {X : Nat → Prop} {a : Option Addr} {l : List Tm} {B : Nat} (h : Sl w' X a l) (hb : Below B w w') (hX : ∀ b, X b → b < B) : Sl w X a l :=
 h.kept fun b hx => (hb.block b (hX b hx)).symm
theorem owned_val {w : World} {base e size : Nat} {v : Value} {n : Nat} {xs : List Value} (h : w.ownsRow base e size v n xs) (hn : 0 < n) :
  ∃ g cap, v = .slice (some ⟨g, 0, none⟩) n cap ∧ base ≤ g ∧ g < w.heap.size ∧ ∀ j u, xs[j]? = some u → w.cell? ⟨g, j, none⟩ = some u := by
 have h' := h
 obtain ⟨hl, h1⟩ := h
 rcases h1 with ⟨_, h0⟩ | ⟨g, cap, cur, hv, hg, hh, _⟩
 ·omega
 ·subst hv
  have hlt := (h'.lt g rfl).2
  refine ⟨g, cap, rfl, hg, hlt, fun j u hj => ?_⟩
  have := h'.cells (g := g) rfl j u hj
  by_cases h0 : j = 0
  ·subst h0; simpa [Addr.add] using this
  ·simpa [Addr.add, h0] using this
theorem wpList_append_eq {P : Program} {ops : Array Oper} {rest : List Oper} {o : Oper} {a : Act} {Q : Exit → Act → World → Prop} {w w' : World} {v u v' : Value} (hgd : o.guard = none) (s x : Operand) (t t' : TypeId)
  (ho : o.op = .call { callee := .builtin .append, args := #[s, x], argTypes := #[t, t'] }) (hs : a.eval s = v) (hx : a.eval x = u)
  (hr : (Builtin.append_ #[t, t'] o.type #[v, u]).run P w = .ok v' w') (h : wpList P ops Q rest (a.put o.dst v') w') : wpList P ops Q (o :: rest) a w :=
 wpList_plain hgd fun K hK => by
  unfold Oper.wp execOp
  simp only [ho, resolve, invoke, builtin, Sem.run_bind, Sem.run_pure, Result.andThen_ok, List.map_toArray, List.map_cons, List.map_nil, hs, hx, hr]
  exact hK _ _ h
theorem Tryz.infoTerm : (Tryz.prog.info? 26).map (fun i => (i.zero, i.size, i.bytes)) = some (some (.agg #[.string ByteArray.empty, .slice none 0 0]), 2, 40) := by kernel_rfl
theorem ownsRow_base {w : World} {base base' e size : Nat} {v : Value} {n : Nat} {xs : List Value} (h : w.ownsRow base e size v n xs) (hb : base' ≤ base) : w.ownsRow base' e size v n xs := by
 obtain ⟨h0, h1⟩ := h
 refine ⟨h0, ?_⟩
 rcases h1 with h1 | ⟨g, cap, cur, hv, hg, r⟩
 ·exact Or.inl h1
 ·exact Or.inr ⟨g, cap, cur, hv, Nat.le_trans hb hg, r⟩
set_option maxHeartbeats 400000 in
theorem knots_any (t : Tm) : ∀ (v : Value) (w : World) (X : Nat → Prop), TV w X v t → sizeL [t] ≤ 1000000 →
  Calls Tryz.prog 34 #[v] w fun e w' => ∃ v' xs, e = .returned v' ∧ w'.ownsRow w.heap.size 26 2 v' (sizeL [t]) xs ∧ RowT w X (preL [t]) xs ∧ Below w.heap.size w w' := by
 induction t using Tm.ind with
 | h s l ih =>
  intro v w X0 hv0 hsm
  obtain ⟨X, hX, hXX, hv⟩ : ∃ X : Nat → Prop, (∀ b, X b → b < w.heap.size) ∧ (∀ b, X b → X0 b) ∧ TV w X v ⟨s, l⟩ := ⟨fun b => X0 b ∧ b < w.heap.size, fun _ h => h.2, fun _ h => h.1, hv0.mono fun b h1 h2 => ⟨h1, h2⟩⟩
  clear hv0
  obtain ⟨a, c, rfl, hs⟩ := hv
  have IH := hide ih
  clear ih
  have hl := hs.1
  have hz : sizeL [(⟨s, l⟩ : Tm)] = 1 + sizeL l := by simp [sizeL]
  rw [hz] at hsm ⊢
  clear hz
  obtain ⟨i0, hi, hz0, hz1, hz2⟩ := info_parts Tryz.infoTerm
  go_enter Tryz.func34, Tryz.ntmps34
  go_wp2_with fail
  go_loopw [3, 4] (fun v i wr => ∃ (k : Nat) (xs : List Value), k ≤ l.length ∧ i = .int .i64 k ∧ wr.ownsRow (w.heap.size + 1) 26 2 v (1 + sizeL (l.take k)) xs ∧ RowT w X (⟨s, l⟩ :: preL (l.take k)) xs ∧ Below (w.heap.size + 1) (w.alloc (Obj.cells #[Value.string s, Value.slice a l.length c] 26)) wr) (fun v i wr => l.length - (intOf i).toNat)
  case atStart =>
   refine ⟨0, [.string s, .slice a l.length c], Nat.zero_le _, rfl, ⟨by simp [sizeL], Or.inr ⟨w.heap.size + 1, 1, #[.string s, .slice a l.length c], by simp [sizeL], Nat.le_refl _, ?_, by simp [sizeL], by decide, by simp, by simp [sizeL]⟩⟩, ⟨a, c, [], rfl, hs, by simp [preL, RowT]⟩, (Below.refl _ _).alloc (by simp) _⟩
   have := heap_alloc_new (w.alloc (Obj.cells #[Value.string s, Value.slice a l.length c] 26)) (Obj.cells #[Value.string s, Value.slice a l.length c] 26)
   simpa using this
  case round =>
   obtain ⟨k, xs, hk, rfl, hown, hrow, hb⟩ := hrel
   have HROW := hide hrow
   clear hrow
   have hc := bcell hb
   have c0 : wr.cell? ⟨w.heap.size, 0, none⟩ = some (.string s) := by rw [hc.1 _ _ (by omega)]; simp
   have c1 : wr.cell? ⟨w.heap.size, 1, none⟩ = some (.slice a l.length c) := by rw [hc.1 _ _ (by omega)]; simp
   clear hc
   have hsz : w.heap.size + 1 ≤ wr.heap.size := by have := hb.size; simpa using this
   by_cases hlt : k < l.length
   ·obtain ⟨b, o, a', c', rfl, d0, d1, hx⟩ := hs.get (below_box hb) (fun _ _ h => h) k hlt
    have Hst := hide (sizeL_take l k hlt)
    have hle := sizeL_take_le l (k + 1)
    have hle1 : sizeL (l.take k) + sizeL [l[k]] ≤ sizeL l := by rw [← Hst.out]; exact hle
    have hpos : 0 < sizeL [l[k]] := by generalize l[k] = t; obtain ⟨s', l'⟩ := t; simp [sizeL]; omega
    clear hle
    go_wp2_with fail
    refine (IH.out _ (List.getElem_mem hlt) _ _ X hx (by omega)).mono ?_
    rintro e w1 ⟨v1, ys, rfl, hown1, hrow1, hb1⟩
    have HROW1 : Hid (RowT w X (preL [l[k]]) ys) := hrow1.imp fun a l h => h.back (below_box hb) hX
    have hlen1 := hide hown1.1
    have hcells := hide (owned_val hown1 hpos)
    obtain ⟨g1, cap1, rfl, hg1, hg1', hcel⟩ := hcells.out
    have hownw1 : w1.ownsRow (w.heap.size + 1) 26 2 _ (1 + sizeL (l.take k)) xs := hown.kept (w' := w1) (row := none) ⟨hb1.os, hb1.tape, hb1.output, hb1.size, fun j hj _ => hb1.block j hj⟩ (by rcases Option.eq_none_or_eq_some (Value.ownBlock _) with h | ⟨x, h⟩; exact Or.inl h; exact Or.inr (by rw [h]; simp))
    have hyl : ys.length = sizeL [l[k]] * 2 := hlen1.out
    obtain ⟨v2, w2, hr2, hown2, hgr2, hnil2⟩ := run_append_own (P := Tryz.prog) w1 (w.heap.size + 1) 23 23 26 i0 _ 2 40 Tryz.underlying23 hi hz0 hz1 hz2 rfl (by decide) _ _ xs hownw1
     ⟨g1, 0, none⟩ (sizeL [l[k]]) cap1 ys hyl (fun j u hj => by
      have := hcel j u hj
      by_cases h0 : j = 0
      ·subst h0; simpa [Addr.add] using this
      ·simpa [Addr.add, h0] using this) HROW1.out.one (by unfold maxLen; omega) (by omega) (by have := hb1.size; omega)
    clear hnil2
    have hb2 : Hid (Below (w.heap.size + 1) (w.alloc (Obj.cells #[Value.string s, Value.slice (some ⟨b, o, none⟩) l.length c] 26)) w2) :=
     (hb.trans (hb1.mono hsz)).grown hgr2 (by have := hb1.size; omega) (fun j hj => (hownw1.lt j hj).1)
    have HR2 : Hid (RowT w X (⟨s, l⟩ :: preL (l.take (k + 1))) (xs ++ ys)) := by
     have := HROW.out.append HROW1.out
     unfold Hid
     rw [preL_take l k hlt]
     simpa using this
    have hown3 := hide hown2
    clear hown1 hownw1 hown2 hgr2 hcel hyl
    have HA := hide hr2
    clear hr2
    go_wp2_with (at_builtin; refine wpList_append_eq rfl _ _ _ _ rfl rfl rfl HA.out ?_)
    go_roundw
    case rel => exact ⟨k + 1, xs ++ ys, by omega, by go_num, by have := hown3.out; rw [Hst.out, ← Nat.add_assoc]; exact this, HR2.out, hb2.out⟩
    case measure => simp [intOf]; omega
   ·have htk : l.take k = l := List.take_of_length_le (by omega)
    rw [htk] at hown
    have hown3 := hide hown
    have hr3 : Hid (RowT w X0 (preL [(⟨s, l⟩ : Tm)]) xs) := by
     have := HROW.out
     rw [htk] at this
     have h2 : RowT w X0 (⟨s, l⟩ :: preL l) xs := this.imp fun a l h => h.mono fun b hb _ => hXX b hb
     unfold Hid
     simpa [preL] using h2
    clear hown
    go_wp2_with fail
    go_ret
    exact ⟨_, xs, rfl, ownsRow_base hown3.out (by omega), hr3.out, below_box hb⟩
def kErr (t : Tm) : Int := if nameB t.name = true then (if (varB t.name && decide (0 < t.args.length)) = true then 2 else 0) else 1
def errP : List Tm → Int
 | [] => 0
 | t :: r => if kErr t = 0 then errP r else kErr t
theorem errP_append (a b : List Tm) : errP (a ++ b) = if errP a = 0 then errP b else errP a := by
 induction a with
 | nil => simp [errP]
 | cons t r ih => simp only [List.cons_append, errP, ih]; by_cases h : kErr t = 0 <;> simp [h]
theorem errL_preL (l : List Tm) : errL l = errP (preL l) := by
 induction l using Tm.indL with
 | h0 => simp [errL, preL, errP]
 | h s l r ihl ihr =>
  simp only [errL, preL, errP, errP_append, ← ihl, ← ihr, kErr]
  by_cases h1 : nameB s = true
  ·by_cases h2 : (varB s && decide (0 < l.length)) = true
   ·simp only [h1, h2, if_true]; simp
   ·simp only [h1, if_true]; rw [if_neg h2, if_neg h2]; simp
  ·rw [if_neg h1, if_neg h1]; simp
theorem errP_take (l : List Tm) (k : Nat) (h : k < l.length) : errP (l.take (k + 1)) = if errP (l.take k) = 0 then kErr l[k] else errP (l.take k) := by
 rw [List.take_succ_eq_append_getElem h, errP_append]
 congr 1
 simp only [errP]
 by_cases h : kErr l[k] = 0 <;> simp [h]
theorem errP_of_take {l : List Tm} {k : Nat} (h : errP (l.take k) ≠ 0) : errP l = errP (l.take k) := by
 have := errP_append (l.take k) (l.drop k)
 rw [List.take_append_drop, if_neg h] at this
 exact this
theorem errP_at {l : List Tm} {k : Nat} (h : k < l.length) (h0 : errP (l.take k) = 0) (h1 : kErr l[k] ≠ 0) : errP l = kErr l[k] := by
 have e := errP_take l k h
 rw [if_pos h0] at e
 rw [← e]
 exact errP_of_take (by rw [e]; exact h1)
set_option maxHeartbeats 400000 in
theorem termMay_any (t : Tm) (v : Value) (w : World) (X : Nat → Prop) (hv : TV w X v t) :
  Calls Tryz.prog 19 #[v] w fun e w' => e = .returned (.int .i64 (mayE t)) ∧ Below w.heap.size w w' := by
 obtain ⟨a, c, rfl, hs⟩ := hv
 have hv : TV w X (.agg #[.string t.name, .slice a t.args.length c]) t := ⟨a, c, rfl, hs⟩
 go_enter Tryz.func19, Tryz.ntmps19
 go_wp2_with fail
 refine (size_any t _ _ _ X (hv.alloc _) (by omega) (by omega)).mono ?_
 rintro e w1 ⟨rfl, hb1⟩
 have c0 : w1.cell? ⟨w.heap.size, 0, none⟩ = some (.string t.name) := by rw [hb1.cell (p := ⟨_, _, none⟩) (by simp)]; simp
 have c1 : w1.cell? ⟨w.heap.size, 1, none⟩ = some (.slice a t.args.length c) := by rw [hb1.cell (p := ⟨_, _, none⟩) (by simp)]; simp
 have hb2 : Below w.heap.size w w1 := ((Below.refl _ _).alloc (Nat.le_refl _) _).trans (hb1.mono (by simp))
 by_cases h : 200 < sizeL [t]
 ·have hm : Hid (3 = mayE t) := by simp [Hid, mayE, h]
  have e : min ((sizeL [t] : Int)) (200 + 1) = 201 := by omega
  rw [e]
  go_wp2_with fail
  go_ret
  exact ⟨ret_int hm.out, hb2⟩
 ·have hm : Hid (errP (preL [t]) = mayE t) := by simp [Hid, mayE, h, errL_preL]
  have e : min ((sizeL [t] : Int)) (200 + 1) = sizeL [t] := by omega
  rw [e]
  go_wp2_with fail
  refine (knots_any t _ _ X (hv.later hb2) (by omega)).mono ?_
  rintro e w2 ⟨v2, xs, rfl, hown, hrow, hb3⟩
  have hpos : 0 < sizeL [t] := by obtain ⟨s', l'⟩ := t; simp [sizeL]; omega
  obtain ⟨g, cap, rfl, hg, hg', hcel⟩ := owned_val hown hpos
  have hb4 := hide (hb2.trans (hb3.mono hb2.size))
  have HROW := hide hrow
  have HCEL := hide hcel
  have hpl := preL_length [t]
  generalize preL [t] = ks at *
  have hks : ks.length ≤ 1000 := by omega
  rw [← hpl]
  clear hown hrow hcel hb3 hb1 c0 c1 hpl hpos e
  go_wp2_with fail
  go_loop [4] (fun i => ∃ k : Nat, k ≤ ks.length ∧ i = .int .i64 k ∧ errP (ks.take k) = 0) (fun i => ks.length - (intOf i).toNat)
  case atStart => exact ⟨0, Nat.zero_le _, rfl, by simp [errP]⟩
  case round =>
   obtain ⟨k, hk, rfl, he⟩ := hrel
   have HE := hide he
   clear he
   by_cases hlt : k < ks.length
   ·obtain ⟨x0, a', c', x1, hsl⟩ := HROW.out.get k hlt
    have d0 := HCEL.out _ _ x0
    have d1 := HCEL.out _ _ x1
    have hl1 := hsl.1
    clear x0 x1
    cases hn : nameB ks[k].name with
    | false =>
     have HN := hide hn
     have hz : Hid (1 = mayE t) := by
      have : kErr ks[k] = 1 := by simp [kErr, hn]
      unfold Hid; rw [← hm.out, errP_at hlt HE.out (by rw [this]; decide), this]
     clear hn
     go_wp2_with (go_at_call 35; refine (isNameR_any _ _).mono ?_; rintro e w' ⟨rfl, rfl⟩; rw [HN.out])
     go_ret
     exact ⟨ret_int hz.out, hb4.out⟩
    | true =>
     have HN := hide hn
     cases hv : varB ks[k].name with
     | true =>
      have HV := hide hv
      by_cases hp : 0 < ks[k].args.length
      ·have hz : Hid (2 = mayE t) := by
        have : kErr ks[k] = 2 := by simp [kErr, hn, hv, hp]
        unfold Hid; rw [← hm.out, errP_at hlt HE.out (by rw [this]; decide), this]
       clear hn hv
       go_wp2_with (first | (go_at_call 35; refine (isNameR_any _ _).mono ?_; rintro e w' ⟨rfl, rfl⟩; rw [HN.out]) | (go_at_call 36; refine (isVarR_any _ _).mono ?_; rintro e w' ⟨rfl, rfl⟩; rw [HV.out]))
       go_ret
       exact ⟨ret_int hz.out, hb4.out⟩
      ·have hz : Hid (errP (ks.take (k + 1)) = 0) := by
        have : kErr ks[k] = 0 := by simp [kErr, hn, hv, hp]
        unfold Hid; rw [errP_take _ _ hlt, HE.out, this]; rfl
       clear hn hv
       go_wp2_with (first | (go_at_call 35; refine (isNameR_any _ _).mono ?_; rintro e w' ⟨rfl, rfl⟩; rw [HN.out]) | (go_at_call 36; refine (isVarR_any _ _).mono ?_; rintro e w' ⟨rfl, rfl⟩; rw [HV.out]))
       go_round
       case rel => exact ⟨k + 1, by omega, by go_num, hz.out⟩
       case measure => simp [intOf]; omega
     | false =>
      have HV := hide hv
      have hz : Hid (errP (ks.take (k + 1)) = 0) := by
       have : kErr ks[k] = 0 := by simp [kErr, hn, hv]
       unfold Hid; rw [errP_take _ _ hlt, HE.out, this]; rfl
      clear hn hv
      go_wp2_with (first | (go_at_call 35; refine (isNameR_any _ _).mono ?_; rintro e w' ⟨rfl, rfl⟩; rw [HN.out]) | (go_at_call 36; refine (isVarR_any _ _).mono ?_; rintro e w' ⟨rfl, rfl⟩; rw [HV.out]))
      go_round
      case rel => exact ⟨k + 1, by omega, by go_num, hz.out⟩
      case measure => simp [intOf]; omega
   ·have htk : ks.take k = ks := List.take_of_length_le (by omega)
    have hz : Hid (0 = mayE t) := by unfold Hid; rw [← hm.out, ← htk, HE.out]
    go_wp2_with fail
    go_ret
    exact ⟨ret_int hz.out, hb4.out⟩
def twoE (t x : Tm) : Int := if mayE t = 0 then mayE x else mayE t
set_option maxHeartbeats 400000 in
theorem huge_any (t : Tm) (v : Value) (w : World) (X : Nat → Prop) (hv : TV w X v t) :
  Calls Tryz.prog 18 #[v] w fun e w' => e = .returned (.bool (decide (3000 < sizeL [t]))) ∧ Below w.heap.size w w' := by
 obtain ⟨a, c, rfl, hs⟩ := hv
 have hv : TV w X (.agg #[.string t.name, .slice a t.args.length c]) t := ⟨a, c, rfl, hs⟩
 go_enter Tryz.func18, Tryz.ntmps18
 go_wp2_with fail
 refine (size_any t _ _ _ X (hv.alloc _) (by omega) (by omega)).mono ?_
 rintro e w1 ⟨rfl, hb1⟩
 have hb2 : Below w.heap.size w w1 := ((Below.refl _ _).alloc (Nat.le_refl _) _).trans (hb1.mono (by simp))
 go_wp2_with fail
 go_ret
 exact ⟨ret_bool (by rw [Bool.eq_iff_iff]; simp; omega), hb2⟩
def PV (w : World) (X : Nat → Prop) (v : Value) (zs : List Int) : Prop :=
 ∃ a c, v = .slice a zs.length c ∧ (zs.length ≤ 9223372036854775807 ∧ zs.length ≤ c) ∧ (zs = [] ∨ ∃ b o, a = some ⟨b, o, none⟩ ∧ X b ∧ ∀ i (h : i < zs.length), w.cell? ⟨b, o + i, none⟩ = some (.int .i64 zs[i]))
theorem PV.kept {w w' : World} {X : Nat → Prop} {v : Value} {zs : List Int} (h : PV w X v zs) (hk : ∀ b, X b → w'.heap[b]? = w.heap[b]?) : PV w' X v zs := by
 obtain ⟨a, c, e, hl, h⟩ := h
 refine ⟨a, c, e, hl, ?_⟩
 rcases h with h | ⟨b, o, e, hx, h⟩
 ·exact Or.inl h
 ·exact Or.inr ⟨b, o, e, hx, fun i hi => by rw [World.cell?_of_block (hk b hx)]; exact h i hi⟩
theorem PV.mono {w : World} {X Y : Nat → Prop} {v : Value} {zs : List Int} (h : PV w X v zs) (hk : ∀ b, X b → b < w.heap.size → Y b) : PV w Y v zs := by
 obtain ⟨a, c, e, hl, h⟩ := h
 refine ⟨a, c, e, hl, ?_⟩
 rcases h with h | ⟨b, o, e, hx, h⟩
 ·exact Or.inl h
 ·by_cases h0 : zs = []
  ·exact Or.inl h0
  ·have hp : 0 < zs.length := List.length_pos_iff.2 h0
   exact Or.inr ⟨b, o, e, hk b hx (World.block_lt_of_cell? w _ (h 0 hp)), h⟩
theorem PV.below {w w' : World} {X : Nat → Prop} {v : Value} {zs : List Int} {B : Nat} (h : PV w X v zs) (hb : Below B w w') (hX : ∀ b, X b → b < w.heap.size → b < B) : PV w' X v zs := by
 have h1 : PV w (fun b => X b ∧ b < B) v zs := h.mono fun b hx hs => ⟨hx, hX b hx hs⟩
 have h2 : PV w' (fun b => X b ∧ b < B) v zs := h1.kept fun b hx => hb.block b hx.2
 exact h2.mono fun b hx _ => hx.1
theorem PV.later {w w' : World} {X : Nat → Prop} {v : Value} {zs : List Int} (h : PV w X v zs) (hb : Below w.heap.size w w') : PV w' X v zs := h.below hb (fun _ _ h => h)
theorem PV.alloc {w : World} {X : Nat → Prop} {v : Value} {zs : List Int} (h : PV w X v zs) (o : Obj) : PV (w.alloc o) X v zs := h.later ((Below.refl _ _).alloc (Nat.le_refl _) o)
theorem below2 {w : World} (o1 o2 : Obj) : Below w.heap.size w ((w.alloc o1).alloc o2) := ((Below.refl _ _).alloc (Nat.le_refl _) _).alloc (by simp) _
theorem PV.tail {w : World} {X : Nat → Prop} {b o c : Nat} {z : Int} {zs : List Int} (hl : zs.length + 1 ≤ 9223372036854775807 ∧ zs.length + 1 ≤ c) (hx : X b) (h : ∀ i (h : i < (z :: zs).length), w.cell? ⟨b, o + i, none⟩ = some (.int .i64 (z :: zs)[i])) :
  PV w X (.slice (some ⟨b, o + 1, none⟩) zs.length (c - 1)) zs := by
 refine ⟨_, _, rfl, by omega, Or.inr ⟨b, o + 1, rfl, hx, fun i hi => ?_⟩⟩
 have := h (i + 1) (by simpa using hi)
 rw [show o + 1 + i = o + (i + 1) by omega]
 simpa using this
theorem TV.back {w w' : World} {X : Nat → Prop} {v : Value} {t : Tm} {B : Nat} (h : TV w' X v t) (hb : Below B w w') (hX : ∀ b, X b → b < B) : TV w X v t := by
 obtain ⟨a, c, e, h⟩ := h
 exact ⟨a, c, e, h.back hb hX⟩
theorem same_cells {w w1 : World} {n : Nat} {p1 p2 p3 p4 p5 p6 : Addr} {v1 v2 v3 v4 v5 v6 : Value} (hb : Below (w.drewN n).heap.size (w.drewN n) w1)
  (h : w.cell? p1 = some v1 ∧ w.cell? p2 = some v2 ∧ w.cell? p3 = some v3 ∧ w.cell? p4 = some v4 ∧ w.cell? p5 = some v5 ∧ w.cell? p6 = some v6) :
  w1.cell? p1 = some v1 ∧ w1.cell? p2 = some v2 ∧ w1.cell? p3 = some v3 ∧ w1.cell? p4 = some v4 ∧ w1.cell? p5 = some v5 ∧ w1.cell? p6 = some v6 := by
 have hb' : Below w.heap.size w w1 := (below_drewN (Below.refl _ _) n).trans (hb.mono (by simp))
 exact ⟨cell_later hb' h.1, cell_later hb' h.2.1, cell_later hb' h.2.2.1, cell_later hb' h.2.2.2.1, cell_later hb' h.2.2.2.2.1, cell_later hb' h.2.2.2.2.2⟩
structure Bd where
 nm : ByteArray
 t : Tm
def BV (w : World) (X : Nat → Prop) (v : Value) (l : List Bd) : Prop :=
 ∃ a c, v = .slice a l.length c ∧ (l.length ≤ 9223372036854775807 ∧ l.length ≤ c) ∧ (l = [] ∨ ∃ b o, a = some ⟨b, o, none⟩ ∧ X b ∧ ∀ i (h : i < l.length), w.cell? ⟨b, o + i * 3, none⟩ = some (.string l[i].nm) ∧ w.cell? ⟨b, o + i * 3 + 1, none⟩ = some (.string l[i].t.name) ∧ ∃ a' c', w.cell? ⟨b, o + i * 3 + 2, none⟩ = some (.slice a' l[i].t.args.length c') ∧ Sl w X a' l[i].t.args)
theorem BV.kept {w w' : World} {X : Nat → Prop} {v : Value} {l : List Bd} (h : BV w X v l) (hk : ∀ b, X b → w'.heap[b]? = w.heap[b]?) : BV w' X v l := by
 obtain ⟨a, c, e, hl, h⟩ := h
 refine ⟨a, c, e, hl, ?_⟩
 rcases h with h | ⟨b, o, ea, hX, h⟩
 ·exact Or.inl h
 ·refine Or.inr ⟨b, o, ea, hX, fun i hi => ?_⟩
  obtain ⟨h1, h2, a', c', h3, h4⟩ := h i hi
  have hb := hk b hX
  exact ⟨by simpa [World.cell?, hb] using h1, by simpa [World.cell?, hb] using h2, a', c', by simpa [World.cell?, hb] using h3, h4.kept hk⟩
theorem cell_lt {w : World} {b o : Nat} {v : Value} (h : w.cell? ⟨b, o, none⟩ = some v) : b < w.heap.size := by
 rcases Nat.lt_or_ge b w.heap.size with h' | h'
 ·exact h'
 ·simp [World.cell?, Array.getElem?_eq_none h'] at h
theorem BV.mono {w : World} {X Y : Nat → Prop} {v : Value} {l : List Bd} (h : BV w X v l) (hk : ∀ b, X b → b < w.heap.size → Y b) : BV w Y v l := by
 obtain ⟨a, c, e, hl, h⟩ := h
 refine ⟨a, c, e, hl, ?_⟩
 rcases h with h | ⟨b, o, ea, hX, h⟩
 ·exact Or.inl h
 ·by_cases h0 : l = []
  ·exact Or.inl h0
  ·have hp : 0 < l.length := List.length_pos_iff.2 h0
   refine Or.inr ⟨b, o, ea, hk b hX (cell_lt (h 0 hp).1), fun i hi => ?_⟩
   obtain ⟨h1, h2, a', c', h3, h4⟩ := h i hi
   exact ⟨h1, h2, a', c', h3, h4.mono hk⟩
theorem BV.later {w w' : World} {X : Nat → Prop} {v : Value} {l : List Bd} (h : BV w X v l) (hb : Below w.heap.size w w') : BV w' X v l :=
 ((h.mono (Y := fun b => X b ∧ b < w.heap.size) fun b h1 h2 => ⟨h1, h2⟩).kept fun b hx => hb.block b hx.2).mono fun b hx _ => hx.1
theorem BV.alloc {w : World} {X : Nat → Prop} {v : Value} {l : List Bd} (h : BV w X v l) (o : Obj) : BV (w.alloc o) X v l := h.later ((Below.refl _ _).alloc (Nat.le_refl _) o)
theorem BV.get {w : World} {X : Nat → Prop} {a : Option Addr} {n c : Nat} {l : List Bd} (h : BV w X (.slice a n c) l) (i : Nat) (hi : i < l.length) :
  ∃ b o a' c', a = some ⟨b, o, none⟩ ∧ w.cell? ⟨b, o + i * 3, none⟩ = some (.string l[i].nm) ∧ w.cell? ⟨b, o + i * 3 + 1, none⟩ = some (.string l[i].t.name) ∧ w.cell? ⟨b, o + i * 3 + 2, none⟩ = some (.slice a' l[i].t.args.length c') ∧ Sl w X a' l[i].t.args := by
 obtain ⟨a2, c2, e, hl, h⟩ := h
 simp at e
 obtain ⟨rfl, rfl, rfl⟩ := e
 rcases h with h | ⟨b, o, ea, hX, h⟩
 ·subst h; simp at hi
 ·obtain ⟨h1, h2, a', c', h3, h4⟩ := h i hi
  exact ⟨b, o, a', c', ea, h1, h2, h3, h4⟩
theorem bytes_inj {a b : ByteArray} (h : a.toList = b.toList) : a = b := by
 rw [ByteArray.toList_eq, ByteArray.toList_eq] at h
 cases a with
 | mk x =>
  cases b with
  | mk y => congr 1; exact Array.toList_inj.1 h
theorem bytes_yes {a b : ByteArray} (h : a = b) : (a.toList == b.toList) = true := by rw [h]; simp
theorem bytes_no {a b : ByteArray} (h : a ≠ b) : (a.toList == b.toList) = false := beq_eq_false_iff_ne.2 fun e => h (bytes_inj e)
def forT : List Bd → ByteArray → Option Tm
 | [], _ => none
 | d :: r, n => if d.nm = n then some d.t else forT r n
theorem forT_take {l : List Bd} {n : ByteArray} {k : Nat} (hk : k < l.length) (h : forT (l.take k) n = none) : (l[k].nm = n → forT l n = some l[k].t) ∧ (l[k].nm ≠ n → forT (l.take (k + 1)) n = none) := by
 induction l generalizing k with
 | nil => simp at hk
 | cons d r ih =>
  cases k with
  | zero =>
   refine ⟨fun e => ?_, fun e => ?_⟩
   ·simp only [List.getElem_cons_zero] at e; simp [forT, e]
   ·simp only [List.getElem_cons_zero] at e; simp [forT, e]
  | succ k =>
   simp only [List.take_succ_cons, forT] at h
   by_cases hd : d.nm = n
   ·rw [if_pos hd] at h; cases h
   ·rw [if_neg hd] at h
    obtain ⟨h1, h2⟩ := ih (by simpa using hk) h
    refine ⟨fun e => ?_, fun e => ?_⟩
    ·rw [forT, if_neg hd]; exact h1 (by simpa using e)
    ·rw [List.take_succ_cons, forT, if_neg hd]; exact h2 (by simpa using e)
set_option maxRecDepth 8000
def eqL : List Tm → List Tm → Bool
 | [], [] => true
 | ⟨s, a⟩ :: r, t :: ts => ((s.toList == t.name.toList) && ((a.length == t.args.length) && eqL a t.args)) && eqL r ts
 | _, _ => false
def sameB (a b : Tm) : Bool := (a.name.toList == b.name.toList) && ((a.args.length == b.args.length) && eqL a.args b.args)
theorem eqL_cons (x t : Tm) (r ts : List Tm) : eqL (x :: r) (t :: ts) = (sameB x t && eqL r ts) := by obtain ⟨s, a⟩ := x; simp only [eqL, sameB]
theorem eqL_append : ∀ (a b c d : List Tm), a.length = b.length → eqL (a ++ c) (b ++ d) = (eqL a b && eqL c d)
 | [], [], c, d, _ => by simp [eqL]
 | [], _ :: _, _, _, h => by simp at h
 | _ :: _, [], _, _, h => by simp at h
 | x :: r, t :: ts, c, d, h => by rw [List.cons_append, List.cons_append, eqL_cons, eqL_cons, eqL_append r ts c d (by simpa using h), Bool.and_assoc]
theorem eqL_take {l m : List Tm} {k : Nat} (h : k < l.length) (h2 : k < m.length) : eqL (l.take (k + 1)) (m.take (k + 1)) = (eqL (l.take k) (m.take k) && sameB l[k] m[k]) := by
 rw [List.take_succ_eq_append_getElem h, List.take_succ_eq_append_getElem h2, eqL_append _ _ _ _ (by simp; omega), eqL_cons]
 simp [eqL]
theorem eqL_no {l m : List Tm} {k : Nat} (h : k < l.length) (hlm : l.length = m.length) (h0 : sameB l[k] (m[k]'(by omega)) = false) : eqL l m = false := by
 have e1 : l = l.take (k + 1) ++ l.drop (k + 1) := (List.take_append_drop _ _).symm
 have e2 : m = m.take (k + 1) ++ m.drop (k + 1) := (List.take_append_drop _ _).symm
 rw [e1, e2, eqL_append _ _ _ _ (by simp; omega), eqL_take h (by omega), h0]
 simp
def SaInv (w : World) (l m : List Tm) (a a2 : Option Addr) (c c2 : Nat) (i : Value) (wr : World) : Prop :=
 ∃ (k : Nat), k ≤ l.length ∧ i = .int .i64 k ∧ eqL (l.take k) (m.take k) = true ∧ Below w.heap.size w wr ∧ wr.cell? ⟨w.heap.size, 1, none⟩ = some (.slice a l.length c) ∧ wr.cell? ⟨w.heap.size + 1, 1, none⟩ = some (.slice a2 l.length c2) ∧ w.heap.size + 2 ≤ wr.heap.size
set_option maxHeartbeats 2000000 in
theorem sameR_all (t : Tm) : ∀ (x : Tm) (v u : Value) (w : World) (X Y : Nat → Prop), TV w X v t → TV w Y u x →
  Calls Tryz.prog 61 #[v, u] w fun e w' => e = .returned (.bool (sameB t x)) ∧ Below w.heap.size w w' := by
 induction t using Tm.ind with
 | h s l ih =>
  intro x v u w X Y hv hu
  obtain ⟨s2, m⟩ := x
  have IH := hide ih
  clear ih
  obtain ⟨a, c, rfl, hs⟩ := hv
  obtain ⟨a2, c2, rfl, hs2⟩ := hu
  have hl := hs.1
  have hl2 := hs2.1
  dsimp only
  cases hn : (s.toList == s2.toList) with
  | false =>
   have HR : Hid (false = sameB ⟨s, l⟩ ⟨s2, m⟩) := by unfold Hid sameB; rw [hn]; rfl
   go_enter Tryz.func61, Tryz.ntmps61
   go_wp2_with fail
   go_ret
   exact ⟨ret_bool HR.out, below2 _ _⟩
  | true =>
   by_cases hm : l.length = m.length
   ·have HR : Hid (eqL l m = sameB ⟨s, l⟩ ⟨s2, m⟩) := by unfold Hid sameB; simp [hn, hm]
    have HM := hide hm
    rw [← hm]
    clear hm
    go_enter Tryz.func61, Tryz.ntmps61
    go_wp2_with fail
    go_loopw [5] (fun i wr => SaInv w l m a a2 c c2 i wr) (fun i wr => l.length - (intOf i).toNat)
    case atStart => exact ⟨0, Nat.zero_le _, rfl, by simp [eqL], below2 _ _, by simp, by simp, by simp⟩
    case round =>
     obtain ⟨k, hk, rfl, hq, hb, hc1, hc2, hsz⟩ := hrel
     have HQ := hide hq
     clear hq
     by_cases hlt : k < l.length
     ·obtain ⟨b, o, a', c', rfl, d0, d1, hx⟩ := hs.get hb (fun _ _ h => h) k hlt
      obtain ⟨b2, o2, a2', c2', rfl, e0, e1, hx2⟩ := hs2.get hb (fun _ _ h => h) k (by have := HM.out; omega)
      have hltm : k < m.length := by have := HM.out; omega
      have HX := hide hx
      have HX2 := hide hx2
      have HB := hide hb
      have HS0 := hide (And.intro hc1 (And.intro hc2 (And.intro d0 (And.intro d1 (And.intro e0 e1)))))
      have IHK := hide (fun (w' : World) => IH.out l[k] (List.getElem_mem hlt) m[k] (.agg #[.string l[k].name, .slice a' l[k].args.length c']) (.agg #[.string m[k].name, .slice a2' m[k].args.length c2']) w' X Y)
      have HT := hide (eqL_take hlt hltm)
      have HNO := hide (eqL_no hlt HM.out)
      clear hx hx2 hb
      generalize l[k] = y at *
      generalize m[k] = z at *
      go_wp2_with fail
      cases hsm : sameB y z with
      | true =>
       rw [hsm] at IHK HT
       go_region_held3 (fun w' => w'.cell? ⟨w.heap.size, 1, none⟩ = some (.slice (some ⟨b, o, none⟩) l.length c) ∧ w'.cell? ⟨w.heap.size + 1, 1, none⟩ = some (.slice (some ⟨b2, o2, none⟩) l.length c2) ∧ w'.cell? ⟨b, o + k * 2, none⟩ = some (.string y.name) ∧ w'.cell? ⟨b, o + k * 2 + 1, none⟩ = some (.slice a' y.args.length c') ∧ w'.cell? ⟨b2, o2 + k * 2, none⟩ = some (.string z.name) ∧ w'.cell? ⟨b2, o2 + k * 2 + 1, none⟩ = some (.slice a2' z.args.length c2')) (first | exact HS0.out | exact hS1 | go_keep)
        ((go_at_call 61; refine (IHK.out _ (by exact HX.out.later (below_drewN (Below.refl _ _) 1)) (by exact HX2.out.later (below_drewN (Below.refl _ _) 1))).mono ?_; rintro e w1 ⟨rfl, hb1⟩; have hS1 := same_cells (n := 1) hb1 HS0.out))
       go_wp2_with fail
       go_roundw
       case rel => exact ⟨k + 1, by omega, by go_num, by rw [HT.out, HQ.out]; rfl, (HB.out.trans (below_drewN (Below.refl _ _) 1)).trans (hb1.mono (by simp; omega)), hS1.1, hS1.2.1, by have := hb1.size; simp at this; omega⟩
       case measure => simp [intOf]; omega
      | false =>
       have HF : Hid (false = sameB ⟨s, l⟩ ⟨s2, m⟩) := by unfold Hid; rw [← HR.out, HNO.out hsm]
       rw [hsm] at IHK
       go_region_held3 (fun w' => w'.cell? ⟨w.heap.size, 1, none⟩ = some (.slice (some ⟨b, o, none⟩) l.length c) ∧ w'.cell? ⟨w.heap.size + 1, 1, none⟩ = some (.slice (some ⟨b2, o2, none⟩) l.length c2) ∧ w'.cell? ⟨b, o + k * 2, none⟩ = some (.string y.name) ∧ w'.cell? ⟨b, o + k * 2 + 1, none⟩ = some (.slice a' y.args.length c') ∧ w'.cell? ⟨b2, o2 + k * 2, none⟩ = some (.string z.name) ∧ w'.cell? ⟨b2, o2 + k * 2 + 1, none⟩ = some (.slice a2' z.args.length c2')) (first | exact HS0.out | exact hS1 | go_keep)
        ((go_at_call 61; refine (IHK.out _ (by exact HX.out.later (below_drewN (Below.refl _ _) 1)) (by exact HX2.out.later (below_drewN (Below.refl _ _) 1))).mono ?_; rintro e w1 ⟨rfl, hb1⟩; have hS1 := same_cells (n := 1) hb1 HS0.out))
       go_wp2_with fail
       go_ret
       exact ⟨ret_bool HF.out, (HB.out.trans (below_drewN (Below.refl _ _) 1)).trans (hb1.mono (by simp; omega))⟩
     ·have HF : Hid (true = sameB ⟨s, l⟩ ⟨s2, m⟩) := by
       unfold Hid
       rw [← HR.out, ← HQ.out, List.take_of_length_le (by omega), List.take_of_length_le (by have := HM.out; omega)]
      go_wp2_with fail
      go_ret
      exact ⟨ret_bool HF.out, hb⟩
   ·have HR : Hid (false = sameB ⟨s, l⟩ ⟨s2, m⟩) := by unfold Hid sameB; simp [hn, hm]
    have hm2 : ((l.length : Int) == (m.length : Int)) = false := beq_eq_false_iff_ne.2 (by omega)
    clear hm
    go_enter Tryz.func61, Tryz.ntmps61
    go_wp2_with fail
    go_ret
    exact ⟨ret_bool HR.out, below2 _ _⟩
def Blk (w : World) (b : Nat) (cs : Array Value) (T : Nat) : Prop := w.heap[b]? = some (.cells cs T (0, 0))
theorem Blk.lt {w : World} {b : Nat} {cs : Array Value} {T : Nat} (h : Blk w b cs T) : b < w.heap.size := by
 apply Classical.byContradiction
 intro hn
 have e : w.heap[b]? = none := Array.getElem?_eq_none (by omega)
 rw [Blk, e] at h; cases h
theorem Blk.cell {w : World} {b : Nat} {cs : Array Value} {T : Nat} (h : Blk w b cs T) (i : Nat) : w.cell? ⟨b, i, none⟩ = cs[i]? := by
 unfold Blk at h; simp [World.cell?, h]
theorem Blk.c0 {w : World} {b : Nat} {v : Value} {l : List Value} {T : Nat} (h : Blk w b (List.toArray (v :: l)) T) : w.cell? ⟨b, 0, none⟩ = some v := h.cell 0
theorem Blk.c1 {w : World} {b : Nat} {v0 v : Value} {l : List Value} {T : Nat} (h : Blk w b (List.toArray (v0 :: v :: l)) T) : w.cell? ⟨b, 1, none⟩ = some v := h.cell 1
theorem Blk.c2 {w : World} {b : Nat} {v0 v1 v : Value} {l : List Value} {T : Nat} (h : Blk w b (List.toArray (v0 :: v1 :: v :: l)) T) : w.cell? ⟨b, 2, none⟩ = some v := h.cell 2
theorem Blk.c3 {w : World} {b : Nat} {v0 v1 v2 v : Value} {l : List Value} {T : Nat} (h : Blk w b (List.toArray (v0 :: v1 :: v2 :: v :: l)) T) : w.cell? ⟨b, 3, none⟩ = some v := h.cell 3
theorem Blk.frozen {w : World} {b : Nat} {cs : Array Value} {T : Nat} (h : Blk w b cs T) (i : Nat) : w.frozen? ⟨b, i, none⟩ = false := by
 unfold Blk at h; simp [World.frozen?, h]
theorem Blk.new (w : World) (cs : Array Value) (T : Nat) : Blk (w.alloc (.cells cs T)) w.heap.size cs T := heap_alloc_new w _
theorem Blk.alloc {w : World} {b : Nat} {cs : Array Value} {T : Nat} (h : Blk w b cs T) (o : Obj) : Blk (w.alloc o) b cs T := by
 unfold Blk at *; rw [Below.heap_alloc w o b (Blk.lt h)]; exact h
theorem Blk.below {w w' : World} {b B : Nat} {cs : Array Value} {T : Nat} (h : Blk w b cs T) (hb : Below B w w') (hB : b < B) : Blk w' b cs T := by
 unfold Blk at *; rw [hb.block b hB]; exact h
theorem Blk.drewN {w : World} {b : Nat} {cs : Array Value} {T : Nat} (h : Blk w b cs T) (n : Nat) : Blk (w.drewN n) b cs T := h
theorem Blk.grown {w w' : World} {b : Nat} {cs : Array Value} {T : Nat} {row : Option Nat} (h : Blk w b cs T) (hg : w.grownBy w' row) (hr : some b ≠ row) : Blk w' b cs T := by
 unfold Blk at *; rw [hg.block b (Blk.lt h) hr]; exact h
theorem Blk.set {w : World} {b : Nat} {cs : Array Value} {T : Nat} (h : Blk w b cs T) (i : Nat) (v : Value) : Blk (w.setCell ⟨b, i, none⟩ v) b (cs.setIfInBounds i v) T := by
 unfold Blk at *
 simp [World.setCell, Array.getElem?_modify, h]
theorem Blk.setOther {w : World} {b b' : Nat} {cs : Array Value} {T : Nat} (h : Blk w b cs T) (i : Nat) (v : Value) (hne : b ≠ b') : Blk (w.setCell ⟨b', i, none⟩ v) b cs T := by
 unfold Blk at *; rw [Below.heap_setCell _ _ _ _ (by simpa using hne)]; exact h
structure Row (w : World) (N : Nat) (T : Nat) (Y : Nat → Prop) (v : Value) (l : List Tm) (xs : List Value) : Prop where
 own : w.ownsRow N T 2 v l.length xs
 row : RowT w (fun b => Y b ∨ (N ≤ b ∧ some b ≠ v.ownBlock)) l xs
theorem Row.start (w : World) (N T : Nat) (Y : Nat → Prop) : Row w N T Y (.slice none 0 0) [] [] := ⟨World.ownsRow_nil w N T 2, rfl⟩
theorem Row.below {w w' : World} {N T : Nat} {Y : Nat → Prop} {v : Value} {l : List Tm} {xs : List Value} (h : Row w N T Y v l xs) (hb : Below w.heap.size w w') : Row w' N T Y v l xs :=
 ⟨h.own.kept (w' := w') (row := none) ⟨hb.os, hb.tape, hb.output, hb.size, fun j hj _ => hb.block j hj⟩ (by rcases Option.eq_none_or_eq_some (Value.ownBlock v) with h | ⟨x, h⟩; exact Or.inl h; exact Or.inr (by rw [h]; simp)),
  h.row.imp fun a l h => h.later hb⟩
theorem Row.ne {w : World} {N T : Nat} {Y : Nat → Prop} {v : Value} {l : List Tm} {xs : List Value} (h : Row w N T Y v l xs) {b : Nat} (hb : b < N) : some b ≠ v.ownBlock := fun e => by
 have := (h.own.lt b e.symm).1; omega
theorem Row.push {w w1 w2 w3 : World} {N T : Nat} {Y : Nat → Prop} {v : Value} {l : List Tm} {xs : List Value} (h : Row w N T Y v l xs) (hN : N ≤ w.heap.size) (hY : ∀ b, Y b → b < N) (hb : Below w.heap.size w w1) {s : ByteArray} {a : Option Addr} {n c : Nat} {t : Tm}
  (ht : TV w1 (fun b => Y b ∨ w.heap.size ≤ b) (.agg #[.string s, .slice a n c]) t) (o : Obj) (hw2 : w2 = w1.alloc o) {g cap : Nat}
  (hown : w3.ownsRow N T 2 (.slice (some ⟨g, 0, none⟩) (l.length + 1) cap) (l.length + 1) (xs ++ [.string s, .slice a n c])) (hg : w2.grownBy w3 v.ownBlock) (hg1 : v.ownBlock = some g ∨ g = w2.heap.size) :
  Row w3 N T Y (.slice (some ⟨g, 0, none⟩) (l.length + 1) cap) (l ++ [t]) (xs ++ [.string s, .slice a n c]) := by
 subst hw2
 have hlt := h.own.lt
 refine ⟨by simpa using hown, ?_⟩
 have hsz : w1.heap.size ≤ (w1.alloc o).heap.size := by simp
 have hbs := hb.size
 have hgN : N ≤ g := by
  rcases hg1 with e | e
  ·exact (hlt g e).1
  ·simp at e; omega
 refine RowT.append (h.row.imp fun a' k' hs => ?_) ?_
 ·have h1 : Sl w (fun b => (Y b ∨ (N ≤ b ∧ some b ≠ v.ownBlock)) ∧ b < w.heap.size) a' k' := hs.mono fun b h1 h2 => ⟨h1, h2⟩
  have h2 : Sl w3 (fun b => (Y b ∨ (N ≤ b ∧ some b ≠ v.ownBlock)) ∧ b < w.heap.size) a' k' := h1.kept fun b hx => by
   have hne : some b ≠ v.ownBlock := by
    rcases hx.1 with hy | hy
    ·exact h.ne (hY b hy)
    ·exact hy.2
   rw [hg.block b (by simp; omega) hne, Below.heap_alloc _ _ _ (by omega), hb.block b hx.2]
  refine h2.mono fun b hx _ => ?_
  rcases hx.1 with hy | hy
  ·exact Or.inl hy
  ·refine Or.inr ⟨hy.1, fun e => ?_⟩
   simp [Value.ownBlock] at e
   rcases hg1 with e' | e'
   ·exact hy.2 (by rw [e', e])
   ·simp at e'; omega
 ·obtain ⟨a2, c2, e, hs⟩ := ht
  simp at e
  obtain ⟨rfl, rfl, rfl, rfl⟩ := e
  refine ⟨a, c, [], rfl, ?_, rfl⟩
  have h1 : Sl w1 (fun b => (Y b ∨ w.heap.size ≤ b) ∧ b < w1.heap.size) a t.args := hs.mono fun b h1 h2 => ⟨h1, h2⟩
  have h2 : Sl w3 (fun b => (Y b ∨ w.heap.size ≤ b) ∧ b < w1.heap.size) a t.args := h1.kept fun b hx => by
   have hne : some b ≠ v.ownBlock := by
    rcases hx.1 with hy | hy
    ·exact h.ne (hY b hy)
    ·intro e; have := (hlt b e.symm).2; omega
   rw [hg.block b (by simp; omega) hne, Below.heap_alloc _ _ _ hx.2]
  refine h2.mono fun b hx _ => ?_
  rcases hx.1 with hy | hy
  ·exact Or.inl hy
  ·refine Or.inr ⟨by omega, fun e => ?_⟩
   simp [Value.ownBlock] at e
   rcases hg1 with e' | e'
   ·have := (hlt g e').2; omega
   ·simp at e'; omega
theorem Row.setCell {w : World} {N T : Nat} {Y : Nat → Prop} {v : Value} {l : List Tm} {xs : List Value} (h : Row w N T Y v l xs) {b i : Nat} (hb : b < N) (hY : ¬ Y b) (u : Value) : Row (w.setCell ⟨b, i, none⟩ u) N T Y v l xs :=
 ⟨ownsRow_setCell_below h.own (by simpa using hb) u, h.row.imp fun a k hs => hs.kept fun c hc => Below.heap_setCell _ _ _ _ (by
  simp
  rcases hc with hc | hc
  ·intro e; subst e; exact hY hc
  ·omega)⟩
theorem Row.sl {w : World} {N T : Nat} {Y : Nat → Prop} {v : Value} {l : List Tm} {xs : List Value} (h : Row w N T Y v l xs) : ∃ a c, v = .slice a l.length c ∧ Sl w (fun b => Y b ∨ N ≤ b) a l := by
 have hml : l.length ≤ 9223372036854775807 := by
  rcases h.own.2 with ⟨_, h0⟩ | ⟨g, cap, cur, _, _, _, h1, h2, _⟩
  ·omega
  ·unfold maxLen at h2; omega
 by_cases h0 : 0 < l.length
 ·obtain ⟨g, cap, rfl, hg, hlt, hc⟩ := owned_val h.own h0
  exact ⟨_, _, rfl, hml, Or.inr ⟨g, 0, rfl, lies_of_rowT g (Or.inr hg) l xs 0 h.row (fun a k hs => hs.mono fun b hb _ => hb.imp id (fun h => h.1)) (fun j u hj => by simpa using hc j u hj)⟩⟩
 ·have e : l = [] := List.length_eq_zero_iff.1 (by omega)
  subst e
  rcases h.own.2 with ⟨hv, _⟩ | ⟨g, cap, cur, hv, _⟩
  ·exact ⟨none, 0, hv, hml, Or.inl rfl⟩
  ·exact ⟨_, _, hv, hml, Or.inl rfl⟩
theorem copy_blk {wr w1 w3 : World} {o1 o2 : Obj} {b T : Nat} {cs : Array Value} {row : Option Nat} (h : Blk wr b cs T) (hb1 : Below (wr.alloc o1).drew.heap.size (wr.alloc o1).drew w1) (hg : (w1.alloc o2).grownBy w3 row) (hr : some b ≠ row) : Blk w3 b cs T :=
 (((((h.alloc o1).drewN 1).below hb1 (by have := h.lt; simp; omega)).alloc o2).grown hg hr)
abbrev Bc := Bd × Option Addr × Nat
instance : Inhabited Bc := ⟨(⟨⟨#[]⟩, ⟨⟨#[]⟩, []⟩⟩, none, 0)⟩
def enc3 (x : Bc) : List Value := [.string x.1.nm, .string x.1.t.name, .slice x.2.1 x.1.t.args.length x.2.2]
def flat3 : List Bc → List Value
 | [] => []
 | x :: r => enc3 x ++ flat3 r
theorem flat3_append (b : List Bc) : ∀ a, flat3 (a ++ b) = flat3 a ++ flat3 b
 | [] => rfl
 | x :: r => by rw [List.cons_append, flat3, flat3, flat3_append b r, List.append_assoc]
theorem flat3_length : ∀ a : List Bc, (flat3 a).length = a.length * 3
 | [] => rfl
 | x :: r => by rw [flat3, List.length_append, flat3_length r]; simp [enc3]; omega
theorem flat3_get : ∀ (a : List Bc) (i : Nat) (h : i < a.length) (j : Nat), j < 3 → (flat3 a)[i * 3 + j]? = (enc3 a[i])[j]?
 | [], i, h, j, hj => by simp at h
 | x :: r, 0, h, j, hj => by
  rw [flat3, List.getElem?_append_left (by simp [enc3]; omega)]; simp
 | x :: r, i + 1, h, j, hj => by
  rw [flat3, List.getElem?_append_right (by simp [enc3]; omega)]
  have e : (i + 1) * 3 + j - (enc3 x).length = i * 3 + j := by simp [enc3]; omega
  rw [e, flat3_get r i (by simpa using h) j hj]
  simp
structure BRow (w : World) (N : Nat) (Y : Nat → Prop) (v : Value) (cs : List Bc) : Prop where
 own : w.ownsRow N 82 3 v cs.length (flat3 cs)
 row : ∀ x ∈ cs, Sl w (fun b => Y b ∨ (N ≤ b ∧ some b ≠ v.ownBlock)) x.2.1 x.1.t.args
theorem BRow.start (w : World) (N : Nat) (Y : Nat → Prop) : BRow w N Y (.slice none 0 0) [] := ⟨World.ownsRow_nil w N _ 3, by simp⟩
theorem BRow.below {w w' : World} {N : Nat} {Y : Nat → Prop} {v : Value} {cs : List Bc} (h : BRow w N Y v cs) (hb : Below w.heap.size w w') : BRow w' N Y v cs :=
 ⟨h.own.kept (w' := w') (row := none) ⟨hb.os, hb.tape, hb.output, hb.size, fun j hj _ => hb.block j hj⟩ (by rcases Option.eq_none_or_eq_some (Value.ownBlock v) with h | ⟨x, h⟩; exact Or.inl h; exact Or.inr (by rw [h]; simp)),
  fun x hx => (h.row x hx).later hb⟩
theorem BRow.ne {w : World} {N : Nat} {Y : Nat → Prop} {v : Value} {cs : List Bc} (h : BRow w N Y v cs) {b : Nat} (hb : b < N) : some b ≠ v.ownBlock := fun e => by
 have := (h.own.lt b e.symm).1; omega
theorem BRow.kept {w w' : World} {N : Nat} {Y : Nat → Prop} {v : Value} {cs : List Bc} {r : Nat} (h : BRow w N Y v cs) (hr : r < N) (hY : ¬ Y r) (ho : w'.os = w.os) (ht : w'.tape = w.tape) (hu : w'.output = w.output) (hz : w.heap.size ≤ w'.heap.size) (hk : ∀ j, j ≠ r → j < w.heap.size → w'.heap[j]? = w.heap[j]?) : BRow w' N Y v cs :=
 ⟨h.own.kept (w' := w') (row := some r) ⟨ho, ht, hu, hz, fun j hj hne => hk j (fun e => hne (by rw [e])) hj⟩ (Or.inr (fun e => h.ne hr e.symm)),
  fun x hx => by
  have h1 := (h.row x hx).mono (Y := fun b => (Y b ∨ (N ≤ b ∧ some b ≠ v.ownBlock)) ∧ b < w.heap.size) fun b h1 h2 => ⟨h1, h2⟩
  refine (h1.kept fun b hb => hk b (fun e => ?_) hb.2).mono fun b hb _ => hb.1
  rcases hb.1 with h2 | h2
  ·exact hY (e ▸ h2)
  ·omega⟩
theorem BRow.push {w w1 w2 w3 : World} {N : Nat} {Y : Nat → Prop} {v : Value} {cs : List Bc} (h : BRow w N Y v cs) (hN : N ≤ w.heap.size) (hY : ∀ b, Y b → b < N) (hb : Below w.heap.size w w1) {x : Bc}
  (ht : Sl w1 (fun b => Y b ∨ w.heap.size ≤ b) x.2.1 x.1.t.args) (o : Obj) (hw2 : w2 = w1.alloc o) {g cap : Nat}
  (hown : w3.ownsRow N 82 3 (.slice (some ⟨g, 0, none⟩) (cs.length + 1) cap) (cs.length + 1) (flat3 cs ++ enc3 x)) (hg : w2.grownBy w3 v.ownBlock) (hg1 : v.ownBlock = some g ∨ g = w2.heap.size) :
  BRow w3 N Y (.slice (some ⟨g, 0, none⟩) (cs.length + 1) cap) (cs ++ [x]) := by
 subst hw2
 have hlt := h.own.lt
 refine ⟨by rw [flat3_append]; simpa [flat3] using hown, fun y hy => ?_⟩
 have hsz : w1.heap.size ≤ (w1.alloc o).heap.size := by simp
 have hbs := hb.size
 have hgN : N ≤ g := by
  rcases hg1 with e | e
  ·exact (hlt g e).1
  ·simp at e; omega
 rcases List.mem_append.1 hy with hy | hy
 ·have h1 : Sl w (fun b => (Y b ∨ (N ≤ b ∧ some b ≠ v.ownBlock)) ∧ b < w.heap.size) y.2.1 y.1.t.args := (h.row y hy).mono fun b h1 h2 => ⟨h1, h2⟩
  have h2 : Sl w3 (fun b => (Y b ∨ (N ≤ b ∧ some b ≠ v.ownBlock)) ∧ b < w.heap.size) y.2.1 y.1.t.args := h1.kept fun b hx => by
   have hne : some b ≠ v.ownBlock := by
    rcases hx.1 with hy | hy
    ·exact h.ne (hY b hy)
    ·exact hy.2
   rw [hg.block b (by simp; omega) hne, Below.heap_alloc _ _ _ (by omega), hb.block b hx.2]
  refine h2.mono fun b hx _ => ?_
  rcases hx.1 with hy | hy
  ·exact Or.inl hy
  ·refine Or.inr ⟨hy.1, fun e => ?_⟩
   simp [Value.ownBlock] at e
   rcases hg1 with e' | e'
   ·exact hy.2 (by rw [e', e])
   ·simp at e'; omega
 ·have e : y = x := by simpa using hy
  subst e
  have h1 : Sl w1 (fun b => (Y b ∨ w.heap.size ≤ b) ∧ b < w1.heap.size) y.2.1 y.1.t.args := ht.mono fun b h1 h2 => ⟨h1, h2⟩
  have h2 : Sl w3 (fun b => (Y b ∨ w.heap.size ≤ b) ∧ b < w1.heap.size) y.2.1 y.1.t.args := h1.kept fun b hx => by
   have hne : some b ≠ v.ownBlock := by
    rcases hx.1 with hy | hy
    ·exact h.ne (hY b hy)
    ·intro e; have := (hlt b e.symm).2; omega
   rw [hg.block b (by simp; omega) hne, Below.heap_alloc _ _ _ hx.2]
  refine h2.mono fun b hx _ => ?_
  rcases hx.1 with hy | hy
  ·exact Or.inl hy
  ·refine Or.inr ⟨by omega, fun e => ?_⟩
   simp [Value.ownBlock] at e
   rcases hg1 with e' | e'
   ·have := (hlt g e').2; omega
   ·simp at e'; omega
theorem BRow.bv {w : World} {N : Nat} {Y : Nat → Prop} {v : Value} {cs : List Bc} (h : BRow w N Y v cs) : BV w (fun b => Y b ∨ N ≤ b) v (cs.map (·.1)) := by
 have hml : cs.length ≤ 9223372036854775807 := by
  rcases h.own.2 with ⟨_, h0⟩ | ⟨g, cap, cur, _, _, _, h1, h2, _⟩
  ·omega
  ·unfold maxLen at h2; omega
 by_cases h0 : 0 < cs.length
 ·obtain ⟨g, cap, rfl, hg, hlt, hc⟩ := owned_val h.own h0
  have hcap : cs.length ≤ cap := by
   rcases h.own.2 with ⟨e, _⟩ | ⟨g', cap', cur, e, _, _, h1, _⟩
   ·cases e
   ·simp at e; omega
  refine ⟨_, cap, by simp, ⟨by simpa using hml, by simpa using hcap⟩, Or.inr ⟨g, 0, rfl, Or.inr hg, fun i hi => ?_⟩⟩
  have hi' : i < cs.length := by simpa using hi
  have g0 := hc (i * 3 + 0) (.string cs[i].1.nm) (by rw [flat3_get cs i hi' 0 (by decide)]; rfl)
  have g1 := hc (i * 3 + 1) (.string cs[i].1.t.name) (by rw [flat3_get cs i hi' 1 (by decide)]; rfl)
  have g2 := hc (i * 3 + 2) (.slice cs[i].2.1 cs[i].1.t.args.length cs[i].2.2) (by rw [flat3_get cs i hi' 2 (by decide)]; rfl)
  simp only [List.getElem_map, Nat.zero_add]
  exact ⟨g0, g1, _, _, g2, (h.row cs[i] (List.getElem_mem hi')).mono fun b hb _ => hb.imp id (fun h => h.1)⟩
 ·have e : cs = [] := List.length_eq_zero_iff.1 (by omega)
  subst e
  rcases h.own.2 with ⟨hv, _⟩ | ⟨g, cap, cur, hv, _⟩
  ·exact ⟨none, 0, hv, by simp, Or.inl rfl⟩
  ·exact ⟨_, _, hv, by simp, Or.inl rfl⟩
def ltB (a b : ByteArray) : Bool := Op.bytesLess a.toList b.toList
theorem bl_irrefl : ∀ a : List UInt8, Op.bytesLess a a = false
 | [] => rfl
 | x :: r => by simp [Op.bytesLess, bl_irrefl r]
theorem bl_trans : ∀ a b c : List UInt8, Op.bytesLess a b = true → Op.bytesLess b c = true → Op.bytesLess a c = true
 | _, [], _, h, _ => by simp [Op.bytesLess] at h
 | _, _ :: _, [], _, h => by simp [Op.bytesLess] at h
 | [], _ :: _, _ :: _, _, _ => by simp [Op.bytesLess]
 | x :: a, y :: b, z :: c, h1, h2 => by
  simp only [Op.bytesLess, Bool.or_eq_true, Bool.and_eq_true, decide_eq_true_eq, beq_iff_eq] at h1 h2 ⊢
  rw [UInt8.lt_iff_toNat_lt] at h1 h2 ⊢
  rcases h1 with h1 | ⟨rfl, h1⟩ <;> rcases h2 with h2 | ⟨rfl, h2⟩
  ·left; omega
  ·left; exact h1
  ·left; exact h2
  ·right; exact ⟨rfl, bl_trans a b c h1 h2⟩
theorem bl_conn : ∀ a b : List UInt8, Op.bytesLess a b = false → Op.bytesLess b a = false → a = b
 | [], [], _, _ => rfl
 | [], _ :: _, h, _ => by simp [Op.bytesLess] at h
 | _ :: _, [], _, h => by simp [Op.bytesLess] at h
 | x :: a, y :: b, h1, h2 => by
  simp only [Op.bytesLess, Bool.or_eq_false_iff, decide_eq_false_iff_not] at h1 h2
  obtain ⟨h1, h3⟩ := h1
  obtain ⟨h2, h4⟩ := h2
  rw [UInt8.lt_iff_toNat_lt] at h1 h2
  have e : x = y := UInt8.toNat_inj.mp (by omega)
  subst e
  simp only [BEq.rfl, Bool.true_and] at h3 h4
  rw [bl_conn a b h3 h4]
theorem ltB_irrefl (a : ByteArray) : ltB a a = false := bl_irrefl _
theorem ltB_trans {a b c : ByteArray} (h1 : ltB a b = true) (h2 : ltB b c = true) : ltB a c = true := bl_trans _ _ _ h1 h2
theorem ltB_conn {a b : ByteArray} (h1 : ltB a b = false) (h2 : ltB b a = false) : a = b := bytes_inj (bl_conn _ _ h1 h2)
theorem ltB_asymm {a b : ByteArray} (h : ltB a b = true) : ltB b a = false := by
 cases hb : ltB b a with
 | false => rfl
 | true => have := ltB_trans h hb; rw [ltB_irrefl] at this; cases this
theorem ltB_ntrans {a b c : ByteArray} (h1 : ltB a b = false) (h2 : ltB b c = false) : ltB a c = false := by
 cases h : ltB a c with
 | false => rfl
 | true =>
  cases h3 : ltB b a with
  | true => rw [ltB_trans h3 h] at h2; cases h2
  | false =>
   have e := ltB_conn h1 h3
   subst e
   rw [h] at h2; cases h2
def SortedB (l : List Bd) : Prop := l.Pairwise fun a b => ltB a.nm b.nm = true
def ApartB (l : List Bd) : Prop := l.Pairwise fun a b => a.nm ≠ b.nm
theorem SortedB.apart {l : List Bd} (h : SortedB l) : ApartB l := h.imp fun {a b} h e => by rw [e, ltB_irrefl] at h; cases h
theorem ApartB.perm {l k : List Bd} (h : ApartB l) (hp : k.Perm l) : ApartB k := (hp.pairwise_iff (fun {_ _} hne => Ne.symm hne)).2 h
theorem sortedB_unique {l k : List Bd} (hp : l.Perm k) (h1 : SortedB l) (h2 : SortedB k) : l = k :=
 List.Perm.eq_of_pairwise (le := fun a b : Bd => ltB a.nm b.nm = true) (fun a b _ _ h3 h4 => by rw [ltB_asymm h3] at h4; cases h4) h1 h2 hp
theorem sortedB_of {l : List Bd} (ha : ApartB l) (h : l.Pairwise fun a b => ltB b.nm a.nm = false) : SortedB l := by
 unfold SortedB ApartB at *
 refine (List.pairwise_and_iff.2 ⟨ha, h⟩).imp fun {a b} ⟨h1, h2⟩ => ?_
 cases h3 : ltB a.nm b.nm with
 | true => rfl
 | false => exact absurd (ltB_conn h3 h2) h1
def toP (x : Bc) : ByteArray × Value := (x.1.nm, .agg #[.string x.1.t.name, .slice x.2.1 x.1.t.args.length x.2.2])
def mtL : List Tm → List Tm → List Bd → Option (List Bd)
 | [], _, h => some h
 | ⟨s, a⟩ :: r, ts, h => match ts with
  | [] => none
  | t :: ts' =>
   match (if varB s = true then (match forT h s with
     | some x => if sameB x t = true then some h else none
     | none => some (h ++ [⟨s, t⟩]))
    else if ((s.toList == t.name.toList) && (a.length == t.args.length)) = true then mtL a t.args h else none) with
   | some h' => mtL r ts' h'
   | none => none
def mtT (p t : Tm) (h : List Bd) : Option (List Bd) :=
 if varB p.name = true then (match forT h p.name with
   | some x => if sameB x t = true then some h else none
   | none => some (h ++ [⟨p.name, t⟩]))
  else if ((p.name.toList == t.name.toList) && (p.args.length == t.args.length)) = true then mtL p.args t.args h else none
theorem mtL_cons (p t : Tm) (r ts : List Tm) (h : List Bd) : mtL (p :: r) (t :: ts) h = (match mtT p t h with
   | some h' => mtL r ts h'
   | none => none) := by obtain ⟨s, a⟩ := p; simp only [mtL, mtT]
theorem mtL_append : ∀ (a b c d : List Tm) (h : List Bd), a.length = b.length → mtL (a ++ c) (b ++ d) h = (match mtL a b h with
   | some h' => mtL c d h'
   | none => none)
 | [], [], c, d, h, _ => by simp [mtL]
 | [], _ :: _, _, _, _, e => by simp at e
 | _ :: _, [], _, _, _, e => by simp at e
 | x :: r, t :: ts, c, d, h, e => by
  rw [List.cons_append, List.cons_append, mtL_cons, mtL_cons]
  cases mtT x t h with
  | none => rfl
  | some h' => exact mtL_append r ts c d h' (by simpa using e)
theorem mtL_take {l m : List Tm} {k : Nat} (h : k < l.length) (h2 : k < m.length) (hv : List Bd) : mtL (l.take (k + 1)) (m.take (k + 1)) hv = (match mtL (l.take k) (m.take k) hv with
   | some h' => mtT l[k] m[k] h'
   | none => none) := by
 rw [List.take_succ_eq_append_getElem h, List.take_succ_eq_append_getElem h2, mtL_append _ _ _ _ _ (by simp; omega)]
 cases mtL (l.take k) (m.take k) hv with
 | none => rfl
 | some h' =>
  show mtL [l[k]] [m[k]] h' = mtT l[k] m[k] h'
  rw [mtL_cons]
  cases mtT l[k] m[k] h' with
  | none => rfl
  | some h'' => simp [mtL]
theorem mtL_no {l m : List Tm} {k : Nat} {hv h' : List Bd} (h : k < l.length) (hlm : l.length = m.length) (h1 : mtL (l.take k) (m.take k) hv = some h') (h0 : mtT l[k] (m[k]'(by omega)) h' = none) : mtL l m hv = none := by
 have e1 : l = l.take (k + 1) ++ l.drop (k + 1) := (List.take_append_drop _ _).symm
 have e2 : m = m.take (k + 1) ++ m.drop (k + 1) := (List.take_append_drop _ _).symm
 rw [e1, e2, mtL_append _ _ _ _ _ (by simp; omega), mtL_take h (by omega), h1]
 simp only [h0]
theorem mtL_next {l m : List Tm} {k : Nat} {hv h' h'' : List Bd} (h : k < l.length) (h2 : k < m.length) (h1 : mtL (l.take k) (m.take k) hv = some h') (h0 : mtT l[k] m[k] h' = some h'') : mtL (l.take (k + 1)) (m.take (k + 1)) hv = some h'' := by
 rw [mtL_take h h2, h1]
 exact h0
theorem mtT_deep {s s2 : ByteArray} {l m : List Tm} {h : List Bd} (hv : varB s = false) (hn : (s.toList == s2.toList) = true) (hl : l.length = m.length) : mtT ⟨s, l⟩ ⟨s2, m⟩ h = mtL l m h := by
 simp [mtT, hv, hn, hl]
theorem mtT_off {s s2 : ByteArray} {l m : List Tm} {h : List Bd} (hv : varB s = false) (hn : ((s.toList == s2.toList) && (l.length == m.length)) = false) : mtT ⟨s, l⟩ ⟨s2, m⟩ h = none := by
 unfold mtT
 rw [if_neg (by rw [hv]; simp), if_neg (by simp only [hn]; simp)]
theorem mtT_new {s : ByteArray} {l : List Tm} {t : Tm} {h : List Bd} (hv : varB s = true) (hf : forT h s = none) : mtT ⟨s, l⟩ t h = some (h ++ [⟨s, t⟩]) := by simp [mtT, hv, hf]
theorem mtT_old {s : ByteArray} {l : List Tm} {t x : Tm} {h : List Bd} (hv : varB s = true) (hf : forT h s = some x) : mtT ⟨s, l⟩ t h = if sameB x t = true then some h else none := by simp [mtT, hv, hf]
theorem forT_none {h : List Bd} {s : ByteArray} (hf : forT h s = none) : ∀ d ∈ h, d.nm ≠ s := by
 induction h with
 | nil => intro d hd; cases hd
 | cons a r ih =>
  intro d hd
  rw [forT] at hf
  split at hf
  ·cases hf
  ·rename_i hne
   rcases List.mem_cons.1 hd with rfl | hd
   ·exact hne
   ·exact ih hf d hd
theorem mtT_apart_one {p t : Tm} {h h' : List Bd} (ih : ∀ ts g g', mtL p.args ts g = some g' → ApartB g → ApartB g' ∧ g'.length ≤ g.length + sizeL p.args) (he : mtT p t h = some h') (ha : ApartB h) : ApartB h' ∧ h'.length ≤ h.length + (1 + sizeL p.args) := by
 unfold mtT at he
 split at he
 ·split at he
  ·split at he
   ·cases he; exact ⟨ha, by omega⟩
   ·cases he
  ·rename_i hf
   cases he
   refine ⟨List.pairwise_append.2 ⟨ha, by simp, fun a h1 b h2 => ?_⟩, by simp⟩
   have e : b = ⟨p.name, t⟩ := by simpa using h2
   rw [e]
   exact forT_none hf a h1
 ·split at he
  ·obtain ⟨h1, h2⟩ := ih _ _ _ he ha
   exact ⟨h1, by omega⟩
  ·cases he
theorem mtL_apart : ∀ (l ts : List Tm) (h h' : List Bd), mtL l ts h = some h' → ApartB h → ApartB h' ∧ h'.length ≤ h.length + sizeL l := by
 intro l
 induction l using Tm.indL with
 | h0 => intro ts h h' he ha; simp [mtL] at he; subst he; exact ⟨ha, by simp⟩
 | h s l r ihl ihr =>
  intro ts h h' he ha
  cases ts with
  | nil => simp [mtL] at he
  | cons t ts =>
   rw [mtL_cons] at he
   cases hm : mtT ⟨s, l⟩ t h with
   | none => rw [hm] at he; cases he
   | some g =>
    rw [hm] at he
    obtain ⟨h1, h2⟩ := mtT_apart_one (p := ⟨s, l⟩) (fun ts g g' h3 h4 => ihl ts g g' h3 h4) hm ha
    obtain ⟨h3, h4⟩ := ihr ts g h' he h1
    refine ⟨h3, ?_⟩
    simp only [sizeL]
    simp only at h2
    omega
theorem mtT_apart {p t : Tm} {h h' : List Bd} (he : mtT p t h = some h') (ha : ApartB h) : ApartB h' ∧ h'.length ≤ h.length + sizeL [p] := by
 obtain ⟨h1, h2⟩ := mtT_apart_one (fun ts g g' h3 h4 => mtL_apart p.args ts g g' h3 h4) he ha
 refine ⟨h1, ?_⟩
 obtain ⟨s, a⟩ := p
 simp [sizeL] at h2 ⊢
 omega
structure Pr where
 l : Tm
 r : Tm
def QV (w : World) (X : Nat → Prop) (v : Value) (l : List Pr) : Prop :=
 ∃ a c, v = .slice a l.length c ∧ (l.length ≤ 9223372036854775807 ∧ l.length ≤ c) ∧ (l = [] ∨ ∃ b o, a = some ⟨b, o, none⟩ ∧ X b ∧ ∀ i (h : i < l.length), ∃ a1 c1 a2 c2, w.cell? ⟨b, o + i * 4, none⟩ = some (.string l[i].l.name) ∧ w.cell? ⟨b, o + i * 4 + 1, none⟩ = some (.slice a1 l[i].l.args.length c1) ∧ w.cell? ⟨b, o + i * 4 + 2, none⟩ = some (.string l[i].r.name) ∧ w.cell? ⟨b, o + i * 4 + 3, none⟩ = some (.slice a2 l[i].r.args.length c2) ∧ Sl w X a1 l[i].l.args ∧ Sl w X a2 l[i].r.args)
theorem QV.kept {w w' : World} {X : Nat → Prop} {v : Value} {l : List Pr} (h : QV w X v l) (hk : ∀ b, X b → w'.heap[b]? = w.heap[b]?) : QV w' X v l := by
 obtain ⟨a, c, e, hl, h⟩ := h
 refine ⟨a, c, e, hl, ?_⟩
 rcases h with h | ⟨b, o, ea, hX, h⟩
 ·exact Or.inl h
 ·refine Or.inr ⟨b, o, ea, hX, fun i hi => ?_⟩
  obtain ⟨a1, c1, a2, c2, h1, h2, h3, h4, h5, h6⟩ := h i hi
  have hb := hk b hX
  exact ⟨a1, c1, a2, c2, by simpa [World.cell?, hb] using h1, by simpa [World.cell?, hb] using h2, by simpa [World.cell?, hb] using h3, by simpa [World.cell?, hb] using h4, h5.kept hk, h6.kept hk⟩
theorem QV.mono {w : World} {X Y : Nat → Prop} {v : Value} {l : List Pr} (h : QV w X v l) (hk : ∀ b, X b → b < w.heap.size → Y b) : QV w Y v l := by
 obtain ⟨a, c, e, hl, h⟩ := h
 refine ⟨a, c, e, hl, ?_⟩
 rcases h with h | ⟨b, o, ea, hX, h⟩
 ·exact Or.inl h
 ·by_cases h0 : l = []
  ·exact Or.inl h0
  ·have hp : 0 < l.length := List.length_pos_iff.2 h0
   obtain ⟨_, _, _, _, g, _⟩ := h 0 hp
   refine Or.inr ⟨b, o, ea, hk b hX (cell_lt g), fun i hi => ?_⟩
   obtain ⟨a1, c1, a2, c2, h1, h2, h3, h4, h5, h6⟩ := h i hi
   exact ⟨a1, c1, a2, c2, h1, h2, h3, h4, h5.mono hk, h6.mono hk⟩
theorem QV.later {w w' : World} {X : Nat → Prop} {v : Value} {l : List Pr} (h : QV w X v l) (hb : Below w.heap.size w w') : QV w' X v l :=
 ((h.mono (Y := fun b => X b ∧ b < w.heap.size) fun b h1 h2 => ⟨h1, h2⟩).kept fun b hx => hb.block b hx.2).mono fun b hx _ => hx.1
theorem QV.alloc {w : World} {X : Nat → Prop} {v : Value} {l : List Pr} (h : QV w X v l) (o : Obj) : QV (w.alloc o) X v l := h.later ((Below.refl _ _).alloc (Nat.le_refl _) o)
theorem QV.get {w : World} {X : Nat → Prop} {a : Option Addr} {n c : Nat} {l : List Pr} (h : QV w X (.slice a n c) l) (i : Nat) (hi : i < l.length) :
  ∃ b o a1 c1 a2 c2, a = some ⟨b, o, none⟩ ∧ w.cell? ⟨b, o + i * 4, none⟩ = some (.string l[i].l.name) ∧ w.cell? ⟨b, o + i * 4 + 1, none⟩ = some (.slice a1 l[i].l.args.length c1) ∧ w.cell? ⟨b, o + i * 4 + 2, none⟩ = some (.string l[i].r.name) ∧ w.cell? ⟨b, o + i * 4 + 3, none⟩ = some (.slice a2 l[i].r.args.length c2) ∧ Sl w X a1 l[i].l.args ∧ Sl w X a2 l[i].r.args := by
 obtain ⟨a2, c2, e, hl, h⟩ := h
 simp at e
 obtain ⟨rfl, rfl, rfl⟩ := e
 rcases h with h | ⟨b, o, ea, hX, h⟩
 ·subst h; simp at hi
 ·obtain ⟨a1, c1, a2, c2, h1, h2, h3, h4, h5, h6⟩ := h i hi
  exact ⟨b, o, a1, c1, a2, c2, ea, h1, h2, h3, h4, h5, h6⟩
def pmT (ls : List Pr) : Nat → Int
 | 0 => 0
 | k + 1 => if pmT ls k = 0 then (match ls[k]? with | some p => twoE p.l p.r | none => 0) else pmT ls k
def pairsE (ls : List Pr) : Int := if 40 < ls.length then 3 else pmT ls ls.length
theorem pmT_stays {ls : List Pr} {k : Nat} (h : pmT ls k ≠ 0) : ∀ n, k ≤ n → pmT ls n = pmT ls k
 | 0, hn => by
  have : k = 0 := by omega
  subst this; rfl
 | n + 1, hn => by
  by_cases e : k = n + 1
  ·subst e; rfl
  ·have ih := pmT_stays h n (by omega)
   rw [pmT, if_neg (by rw [ih]; exact h)]
   exact ih
theorem pmT_next {ls : List Pr} {k : Nat} (hk : k < ls.length) (h0 : pmT ls k = 0) : pmT ls (k + 1) = twoE ls[k].l ls[k].r := by rw [pmT, if_pos h0, List.getElem?_eq_getElem hk]
theorem pmT_err {ls : List Pr} {k : Nat} (hk : k < ls.length) (h40 : ¬ 40 < ls.length) (h0 : pmT ls k = 0) (hne : twoE ls[k].l ls[k].r ≠ 0) : pairsE ls = twoE ls[k].l ls[k].r := by
 unfold pairsE
 rw [if_neg h40]
 have h1 := pmT_next hk h0
 rw [← h1]
 exact pmT_stays (by rw [h1]; exact hne) _ (by omega)
theorem pairsE_len {ls : List Pr} (h : pairsE ls = 0) : ls.length ≤ 40 := by
 unfold pairsE at h
 split at h
 ·cases h
 ·omega
theorem pairsE_all {ls : List Pr} (h : pairsE ls = 0) : ∀ p ∈ ls, mayE p.l = 0 ∧ mayE p.r = 0 := by
 intro p hp
 obtain ⟨k, hk, rfl⟩ := List.getElem_of_mem hp
 have h40 := pairsE_len h
 unfold pairsE at h
 rw [if_neg (by omega)] at h
 have h0 : ∀ n, n ≤ ls.length → pmT ls n = 0 := fun n hn => by
  by_cases e : pmT ls n = 0
  ·exact e
  ·have := pmT_stays e _ hn
   rw [this] at h
   exact absurd h e
 have h1 := pmT_next hk (h0 k (by omega))
 rw [h0 (k + 1) (by omega)] at h1
 have h2 := h1.symm
 unfold twoE at h2
 by_cases e : mayE ls[k].l = 0
 ·rw [if_pos e] at h2; exact ⟨e, h2⟩
 ·rw [if_neg e] at h2; exact absurd h2 e
def onN (l : List Bd) (s : ByteArray) (es0 bs : List Tm) : Tm :=
 match forT l s with
 | some x => if es0.isEmpty = true then x else ⟨s, bs⟩
 | none => ⟨s, bs⟩
def onL (l : List Bd) : List Tm → List Tm
 | [] => []
 | ⟨s, es0⟩ :: r => onN l s es0 (onL l es0) :: onL l r
def onT (l : List Bd) (t : Tm) : Tm := onN l t.name t.args (onL l t.args)
theorem onL_cons (l : List Bd) (t : Tm) (r : List Tm) : onL l (t :: r) = onT l t :: onL l r := by
 obtain ⟨s, es0⟩ := t
 simp only [onL, onT]
theorem onL_length (l : List Bd) : ∀ es0, (onL l es0).length = es0.length
 | [] => by simp [onL]
 | t :: r => by rw [onL_cons]; simp [onL_length l r]
theorem onL_append (l : List Bd) (b : List Tm) : ∀ a, onL l (a ++ b) = onL l a ++ onL l b
 | [] => by simp [onL]
 | t :: r => by rw [List.cons_append, onL_cons, onL_cons, onL_append l b r]; rfl
theorem onL_take (l : List Bd) (es0 : List Tm) (k : Nat) (h : k < es0.length) : onL l (es0.take (k + 1)) = onL l (es0.take k) ++ [onT l es0[k]] := by
 rw [List.take_succ_eq_append_getElem h, onL_append, onL_cons]
 simp [onL]
theorem onT_some {l : List Bd} {s : ByteArray} {x : Tm} (h : forT l s = some x) : onT l ⟨s, []⟩ = x := by simp [onT, onN, h]
theorem onT_deep {l : List Bd} {s : ByteArray} {es0 : List Tm} (h : es0 ≠ [] ∨ forT l s = none) : onT l ⟨s, es0⟩ = ⟨s, onL l es0⟩ := by
 unfold onT onN
 rcases h with h | h
 ·cases forT l s with
  | none => rfl
  | some x => simp [h]
 ·rw [h]
theorem onL_size_take (l : List Bd) (es0 : List Tm) (k : Nat) (h : k < es0.length) : sizeL (onL l (es0.take (k + 1))) = sizeL (onL l (es0.take k)) + sizeL [onT l es0[k]] := by rw [onL_take l es0 k h, sizeL_append]
theorem onL_size_le (l : List Bd) (es0 : List Tm) (k : Nat) : sizeL (onL l (es0.take k)) ≤ sizeL (onL l es0) := by
 have := sizeL_append (onL l (es0.take k)) (onL l (es0.drop k))
 rw [← onL_append, List.take_append_drop] at this
 omega
def LV {α : Type} (f : α → Value) (w : World) (X : Nat → Prop) (v : Value) (l : List α) : Prop :=
 ∃ a c, v = .slice a l.length c ∧ (l.length ≤ 9223372036854775807 ∧ l.length ≤ c) ∧ (l = [] ∨ ∃ b o, a = some ⟨b, o, none⟩ ∧ X b ∧ ∀ i (h : i < l.length), w.cell? ⟨b, o + i, none⟩ = some (f l[i]))
theorem LV.kept {α : Type} {f : α → Value} {w w' : World} {X : Nat → Prop} {v : Value} {l : List α} (h : LV f w X v l) (hk : ∀ b, X b → w'.heap[b]? = w.heap[b]?) : LV f w' X v l := by
 obtain ⟨a, c, e, hl, h⟩ := h
 refine ⟨a, c, e, hl, ?_⟩
 rcases h with h | ⟨b, o, e, hx, h⟩
 ·exact Or.inl h
 ·exact Or.inr ⟨b, o, e, hx, fun i hi => by rw [World.cell?_of_block (hk b hx)]; exact h i hi⟩
theorem LV.mono {α : Type} {f : α → Value} {w : World} {X Y : Nat → Prop} {v : Value} {l : List α} (h : LV f w X v l) (hk : ∀ b, X b → b < w.heap.size → Y b) : LV f w Y v l := by
 obtain ⟨a, c, e, hl, h⟩ := h
 refine ⟨a, c, e, hl, ?_⟩
 rcases h with h | ⟨b, o, e, hx, h⟩
 ·exact Or.inl h
 ·by_cases h0 : l = []
  ·exact Or.inl h0
  ·have hp : 0 < l.length := List.length_pos_iff.2 h0
   exact Or.inr ⟨b, o, e, hk b hx (World.block_lt_of_cell? w _ (h 0 hp)), h⟩
theorem LV.below {α : Type} {f : α → Value} {w w' : World} {X : Nat → Prop} {v : Value} {l : List α} {B : Nat} (h : LV f w X v l) (hb : Below B w w') (hX : ∀ b, X b → b < w.heap.size → b < B) : LV f w' X v l := by
 have h1 : LV f w (fun b => X b ∧ b < B) v l := h.mono fun b hx hs => ⟨hx, hX b hx hs⟩
 have h2 : LV f w' (fun b => X b ∧ b < B) v l := h1.kept fun b hx => hb.block b hx.2
 exact h2.mono fun b hx _ => hx.1
theorem LV.later {α : Type} {f : α → Value} {w w' : World} {X : Nat → Prop} {v : Value} {l : List α} (h : LV f w X v l) (hb : Below w.heap.size w w') : LV f w' X v l := h.below hb (fun _ _ h => h)
theorem LV.alloc {α : Type} {f : α → Value} {w : World} {X : Nat → Prop} {v : Value} {l : List α} (h : LV f w X v l) (o : Obj) : LV f (w.alloc o) X v l := h.later ((Below.refl _ _).alloc (Nat.le_refl _) o)
theorem LV.of_own {α : Type} {f : α → Value} {w : World} {N T : Nat} {v : Value} {l : List α} (h : w.ownsRow N T 1 v l.length (l.map f)) : LV f w (fun b => N ≤ b) v l := by
 have h' := h
 obtain ⟨_, h1⟩ := h
 rcases h1 with ⟨rfl, h0⟩ | ⟨g, cap, cur, hv, hg, hh, hnc, hcm, _⟩
 ·have e : l = [] := List.length_eq_zero_iff.1 h0
  subst e
  exact ⟨none, 0, rfl, by simp, Or.inl rfl⟩
 ·unfold maxLen at hcm
  refine ⟨some ⟨g, 0, none⟩, cap, hv, ⟨by omega, hnc⟩, ?_⟩
  by_cases h0 : l = []
  ·exact Or.inl h0
  ·have hp : 0 < l.length := List.length_pos_iff.2 h0
   obtain ⟨g2, cap2, hv2, _, _, hc⟩ := owned_val h' hp
   rw [hv] at hv2
   simp at hv2
   obtain ⟨rfl, rfl⟩ := hv2
   exact Or.inr ⟨g, 0, rfl, hg, fun i hi => by rw [Nat.zero_add]; exact hc i _ (by simp [hi])⟩
set_option maxHeartbeats 400000 in
theorem sameInts_any (l : List Int) (v u : Value) (w : World) (X Y : Nat → Prop) (hv : LV (fun z => .int .i64 z) w X v l) (hu : LV (fun z => .int .i64 z) w Y u l) :
  Calls Tryz.prog 22 #[v, u] w fun e w' => e = .returned (.bool true) ∧ Below w.heap.size w w' := by
 obtain ⟨a, c, rfl, ⟨hl, _⟩, h1⟩ := hv
 obtain ⟨a2, c2, rfl, _, h2⟩ := hu
 go_enter Tryz.func22, Tryz.ntmps22
 go_wp2_with fail
 go_loopw [5] (fun i wr => ∃ k n : Nat, k ≤ l.length ∧ i = .int .i64 k ∧ wr = w.drewN n) (fun i wr => l.length - (intOf i).toNat)
 case atStart => exact ⟨0, 0, Nat.zero_le _, rfl, rfl⟩
 case round =>
  obtain ⟨k, n, hk, rfl, rfl⟩ := hrel
  by_cases hlt : k < l.length
  ·obtain ⟨b, o, rfl, _, hc⟩ := h1.resolve_left (fun h => by rw [h] at hlt; simp at hlt)
   obtain ⟨b2, o2, rfl, _, hc2⟩ := h2.resolve_left (fun h => by rw [h] at hlt; simp at hlt)
   have d1 := hc k hlt
   have d2 := hc2 k hlt
   clear hc hc2 h1 h2
   go_wp2_with fail
   go_quiet (fail)
   go_wp2_with fail
   go_roundw
   case rel => exact ⟨k + 1, _, by omega, by go_num, rfl⟩
   case measure => simp [intOf]; omega
  ·go_wp2_with fail
   go_ret
   exact ⟨rfl, below_drewN (Below.refl _ _) _⟩
def inB (x : ByteArray) (l : List ByteArray) : Bool := l.any fun y => y.toList == x.toList
theorem inB_take {x : ByteArray} {l : List ByteArray} {k : Nat} (h : k < l.length) (h0 : inB x (l.take k) = false) (h1 : (l[k].toList == x.toList) = false) : inB x (l.take (k + 1)) = false := by
 unfold inB at *
 rw [List.take_succ_eq_append_getElem h, List.any_append, h0]
 simpa using h1
theorem inB_yes {x : ByteArray} {l : List ByteArray} {k : Nat} (h : k < l.length) (h1 : (l[k].toList == x.toList) = true) : inB x l = true := by
 unfold inB
 rw [List.any_eq_true]
 exact ⟨l[k], List.getElem_mem h, h1⟩
set_option maxHeartbeats 400000 in
theorem in_any (x : ByteArray) (l : List ByteArray) (v : Value) (w : World) (X : Nat → Prop) (hv : LV Value.string w X v l) :
  Calls Tryz.prog 40 #[.string x, v] w fun e w' => e = .returned (.bool (inB x l)) ∧ w' = w := by
 obtain ⟨a, c, rfl, ⟨hl, _⟩, h1⟩ := hv
 go_enter Tryz.func40, Tryz.ntmps40
 go_wp2_with fail
 go_loop [5] (fun i => ∃ k : Nat, k ≤ l.length ∧ i = .int .i64 k ∧ inB x (l.take k) = false) (fun i => l.length - (intOf i).toNat)
 case atStart => exact ⟨0, Nat.zero_le _, rfl, by simp [inB]⟩
 case round =>
  obtain ⟨k, hk, rfl, ha⟩ := hrel
  have HA := hide ha
  clear ha
  by_cases hlt : k < l.length
  ·obtain ⟨b, o, rfl, _, hc⟩ := h1.resolve_left (fun h => by rw [h] at hlt; simp at hlt)
   have d1 := hc k hlt
   clear hc h1
   cases hq : (l[k].toList == x.toList) with
   | true =>
    have HQ := hide (inB_yes hlt hq)
    go_wp2_with fail
    go_ret
    exact ⟨ret_bool HQ.out.symm, rfl⟩
   | false =>
    have HQ := hide (inB_take hlt HA.out hq)
    go_wp2_with fail
    go_round
    case rel => exact ⟨k + 1, by omega, by go_num, HQ.out⟩
    case measure => simp [intOf]; omega
  ·have htk : l.take k = l := List.take_of_length_le (by omega)
   have HF : Hid (false = inB x l) := by unfold Hid; rw [← HA.out, htk]
   go_wp2_with fail
   go_ret
   exact ⟨ret_bool HF.out, rfl⟩
theorem Tryz.infoStr : (Tryz.prog.info? 9).map (fun i => (i.zero, i.size, i.bytes)) = some (some (.string ByteArray.empty), 1, 16) := by kernel_rfl
def addV (acc : List ByteArray) (s : ByteArray) : List ByteArray := if (varB s && !inB s acc) = true then acc ++ [s] else acc
def varsP (acc : List ByteArray) (ks : List Tm) : List ByteArray := ks.foldl (fun acc k => addV acc k.name) acc
theorem addV_yes {acc : List ByteArray} {s : ByteArray} (h : varB s = true) (h2 : inB s acc = false) : addV acc s = acc ++ [s] := by simp [addV, h, h2]
theorem addV_in {acc : List ByteArray} {s : ByteArray} (h : varB s = true) (h2 : inB s acc = true) : addV acc s = acc := by simp [addV, h, h2]
theorem addV_no {acc : List ByteArray} {s : ByteArray} (h : varB s = false) : addV acc s = acc := by simp [addV, h]
theorem addV_len (acc : List ByteArray) (s : ByteArray) : (addV acc s).length ≤ acc.length + 1 := by
 unfold addV; split <;> simp
theorem varsP_append (acc : List ByteArray) (a b : List Tm) : varsP acc (a ++ b) = varsP (varsP acc a) b := by simp [varsP, List.foldl_append]
theorem varsP_len (ks : List Tm) : ∀ acc, (varsP acc ks).length ≤ acc.length + ks.length := by
 induction ks with
 | nil => intro acc; simp [varsP]
 | cons k r ih => intro acc; have := ih (addV acc k.name); have h2 := addV_len acc k.name; simp only [varsP, List.foldl_cons, List.length_cons] at *; omega
theorem varsP_take (acc : List ByteArray) (ks : List Tm) (k : Nat) (h : k < ks.length) : varsP acc (ks.take (k + 1)) = addV (varsP acc (ks.take k)) ks[k].name := by
 rw [List.take_succ_eq_append_getElem h, varsP_append]; rfl
set_option maxHeartbeats 1000000 in
theorem varsOf_any (t : Tm) (v : Value) (w : World) (X : Nat → Prop) (hv : TV w X v t) (hsm : sizeL [t] ≤ 1000000) :
  Calls Tryz.prog 41 #[v] w fun e w' => ∃ v', e = .returned v' ∧ LV Value.string w' (fun b => w.heap.size ≤ b) v' (varsP [] (preL [t])) ∧ Below w.heap.size w w' := by
 obtain ⟨a, c, rfl, hs⟩ := hv
 have HV := hide (show TV w X (.agg #[.string t.name, .slice a t.args.length c]) t from ⟨a, c, rfl, hs⟩)
 clear hs
 obtain ⟨i0, hi, hz0, hz1, hz2⟩ := info_parts Tryz.infoStr
 go_enter Tryz.func41, Tryz.ntmps41
 go_wp2_with fail
 refine (knots_any t _ _ X (by exact HV.out.alloc _) hsm).mono ?_
 rintro e w2 ⟨v2, xs, rfl, hown, hrow, hb3⟩
 have hpos : 0 < sizeL [t] := by obtain ⟨s', l'⟩ := t; simp [sizeL]; omega
 obtain ⟨g, cap, rfl, hg, hg', hcel⟩ := owned_val hown hpos
 have hb4 := hide (((Below.refl w.heap.size w).alloc (Nat.le_refl _) (.cells #[.string t.name, .slice a t.args.length c] 26)).trans (hb3.mono (by simp)))
 have HROW := hide hrow
 have HCEL := hide hcel
 have hpl := preL_length [t]
 generalize hkse : preL [t] = ks at *
 have HKSE := hide hkse
 clear hkse
 have hks : ks.length ≤ 1000000 := by omega
 rw [← hpl]
 clear hown hrow hcel hb3 hpl hpos hsm
 go_wp2_with fail
 go_loopw [4, 5] (fun q i wr => ∃ k : Nat, k ≤ ks.length ∧ i = .int .i64 k ∧ wr.ownsRow w2.heap.size 9 1 q (varsP [] (ks.take k)).length ((varsP [] (ks.take k)).map Value.string) ∧ Below w2.heap.size w2 wr) (fun q i wr => ks.length - (intOf i).toNat)
 case atStart => exact ⟨0, Nat.zero_le _, rfl, by simpa [varsP] using World.ownsRow_nil w2 w2.heap.size 9 1, Below.refl _ _⟩
 case round =>
  obtain ⟨k, hk, rfl, hown, hb⟩ := hrel
  have HOWN := hide hown
  have HB := hide hb
  by_cases hlt : k < ks.length
  ·obtain ⟨x0, a', c', x1, hsl⟩ := HROW.out.get k hlt
   have d0 := cell_later hb (HCEL.out _ _ x0)
   have HT := hide (varsP_take [] ks k hlt)
   have hlen0 := varsP_len (ks.take k) []
   have hlen : (varsP [] (ks.take k)).length ≤ 1000000 := by
    have : (ks.take k).length ≤ k := List.length_take_le _ _
    simp at hlen0; omega
   clear x0 x1 hsl hown hb hlen0
   generalize hacc : varsP [] (ks.take k) = acc at *
   have HACC := hide hacc
   clear hacc
   cases hvb : varB ks[k].name with
   | false =>
    have HN := hide (addV_no (acc := acc) hvb)
    have HVB := hide hvb
    clear hvb
    go_wp2_with (go_at_call 36; refine (isVarR_any _ _).mono ?_; rintro e w' ⟨rfl, rfl⟩; rw [HVB.out])
    go_roundw
    case rel => exact ⟨k + 1, by omega, by go_num, by rw [HT.out, HN.out]; exact HOWN.out, HB.out⟩
    case measure => simp [intOf]; omega
   | true =>
    have HVB := hide hvb
    cases hin : inB ks[k].name acc with
    | true =>
     have HN := hide (addV_in hvb hin)
     have HIN := hide hin
     clear hvb hin
     go_wp2_with (first | (go_at_call 36; refine (isVarR_any _ _).mono ?_; rintro e w' ⟨rfl, rfl⟩; rw [HVB.out]) | (go_at_call 40; refine (in_any _ _ _ _ _ (LV.of_own HOWN.out)).mono ?_; rintro e w' ⟨rfl, rfl⟩; rw [HIN.out]))
     go_roundw
     case rel => exact ⟨k + 1, by omega, by go_num, by rw [HT.out, HN.out]; exact HOWN.out, HB.out⟩
     case measure => simp [intOf]; omega
    | false =>
     have HN := hide (addV_yes hvb hin)
     have HIN := hide hin
     clear hvb hin
     obtain ⟨q2, w3, hr2, hown2, hgr2, _⟩ := run_append_own (P := Tryz.prog) (wr.alloc (.cells #[.string ks[k].name] 9)) w2.heap.size 49 49 9 i0 _ 1 16 Tryz.underlying49 hi hz0 hz1 hz2 rfl (by decide) _ acc.length (acc.map Value.string) (HOWN.out.alloc _)
      ⟨wr.heap.size, 0, none⟩ 1 1 [.string ks[k].name] rfl (cell_one_new _ _ _) (fun x hx => by simp at hx; subst hx; rfl) (by unfold maxLen; omega) (by omega) (by have := HB.out.size; simp; omega)
     have HR := hide hr2
     have HO2 := hide hown2
     have HB2 := hide ((HB.out.alloc HB.out.size _).grown hgr2 (by have := HB.out.size; simp; omega) (fun j hj => (HOWN.out.lt j hj).1))
     clear hr2 hown2 hgr2
     go_wp2_with (first | (go_at_call 36; refine (isVarR_any _ _).mono ?_; rintro e w' ⟨rfl, rfl⟩; rw [HVB.out]) | (go_at_call 40; refine (in_any _ _ _ _ _ (LV.of_own HOWN.out)).mono ?_; rintro e w' ⟨rfl, rfl⟩; rw [HIN.out]) | (at_builtin; refine wpList_append_eq rfl _ _ _ _ rfl rfl rfl HR.out ?_))
     go_roundw
     case rel => exact ⟨k + 1, by omega, by go_num, by rw [HT.out, HN.out]; simpa using HO2.out, HB2.out⟩
     case measure => simp [intOf]; omega
  ·have htk : ks.take k = ks := List.take_of_length_le (by omega)
   rw [htk] at hown
   have HO := hide hown
   clear hown hb
   go_wp2_with fail
   go_ret
   exact ⟨_, rfl, by rw [HKSE.out]; exact (LV.of_own HO.out).mono fun b hb _ => Nat.le_trans hb4.out.size hb, hb4.out.trans (HB.out.mono hb4.out.size)⟩
theorem grown_trans {w w1 w2 : World} {r r1 : Option Nat} (h : w.grownBy w1 r) (h1 : w1.grownBy w2 r1) (hr : ∀ k, r1 = some k → r = some k ∨ w.heap.size ≤ k) : w.grownBy w2 r :=
 ⟨h1.os.trans h.os, h1.tape.trans h.tape, h1.output.trans h.output, Nat.le_trans h.size h1.size, fun k hk hne => (h1.block k (Nat.lt_of_lt_of_le hk h.size) (fun e => by
  rcases hr k e.symm with h2 | h2
  ·exact hne h2.symm
  ·omega)).trans (h.block k hk hne)⟩
theorem grown_of_below {w w' : World} (hb : Below w.heap.size w w') (r : Option Nat) : w.grownBy w' r := ⟨hb.os, hb.tape, hb.output, hb.size, fun k hk _ => hb.block k hk⟩
theorem TV.grown {w w' : World} {X : Nat → Prop} {v : Value} {t : Tm} {r : Option Nat} (h : TV w X v t) (hg : w.grownBy w' r) (hX : ∀ b, X b → some b ≠ r) : TV w' X v t := by
 have h1 : TV w (fun b => X b ∧ b < w.heap.size) v t := h.mono fun b h1 h2 => ⟨h1, h2⟩
 have h2 : TV w' (fun b => X b ∧ b < w.heap.size) v t := h1.kept fun b hx => hg.block b hx.2 (hX b hx.1)
 exact h2.mono fun b hx _ => hx.1
def NamesAt (w0 : World) (B : Nat) (q0 : Value) (acc : List ByteArray) (q : Value) (wr : World) : Prop :=
 wr.ownsRow B 9 1 q acc.length (acc.map Value.string) ∧ w0.grownBy wr q0.ownBlock ∧ (∀ k, q.ownBlock = some k → q0.ownBlock = some k ∨ w0.heap.size ≤ k)
theorem NamesAt.step {w0 w1 w2 : World} {B : Nat} {q0 q1 q2 : Value} {acc1 acc2 : List ByteArray} (h1 : NamesAt w0 B q0 acc1 q1 w1) (h2 : NamesAt w1 B q1 acc2 q2 w2) : NamesAt w0 B q0 acc2 q2 w2 := by
 refine ⟨h2.1, grown_trans h1.2.1 h2.2.1 h1.2.2, fun k hk => ?_⟩
 rcases h2.2.2 k hk with h | h
 ·exact h1.2.2 k h
 ·exact Or.inr (Nat.le_trans h1.2.1.size h)
theorem NamesAt.below {w0 w1 w2 : World} {B : Nat} {q0 q1 : Value} {acc1 : List ByteArray} (h1 : NamesAt w0 B q0 acc1 q1 w1) (hb : Below w1.heap.size w1 w2) : NamesAt w0 B q0 acc1 q1 w2 :=
 ⟨h1.1.kept (w' := w2) (row := none) ⟨hb.os, hb.tape, hb.output, hb.size, fun j hj _ => hb.block j hj⟩ (by rcases Option.eq_none_or_eq_some (Value.ownBlock q1) with h | ⟨x, h⟩; exact Or.inl h; exact Or.inr (by rw [h]; simp)),
  grown_trans h1.2.1 (grown_of_below hb q1.ownBlock) h1.2.2, h1.2.2⟩
def insB (d : Bd) : List Bd → List Bd
 | [] => [d]
 | e :: r => if ltB d.nm e.nm = true then d :: e :: r else e :: insB d r
def srtB : List Bd → List Bd
 | [] => []
 | d :: r => insB d (srtB r)
theorem insB_perm (d : Bd) : ∀ l, (insB d l).Perm (d :: l)
 | [] => List.Perm.refl _
 | e :: r => by
  rw [insB]
  split
  ·exact List.Perm.refl _
  ·exact ((insB_perm d r).cons e).trans (List.Perm.swap d e r)
theorem srtB_perm : ∀ l, (srtB l).Perm l
 | [] => List.Perm.refl _
 | d :: r => (insB_perm d _).trans ((srtB_perm r).cons d)
theorem insB_sorted (d : Bd) : ∀ l, SortedB l → (∀ e ∈ l, d.nm ≠ e.nm) → SortedB (insB d l)
 | [], _, _ => by simp [insB, SortedB]
 | e :: r, h, hn => by
  obtain ⟨h1, h2⟩ := List.pairwise_cons.1 h
  rw [insB]
  split
  ·rename_i hlt
   refine List.pairwise_cons.2 ⟨fun x hx => ?_, h⟩
   rcases List.mem_cons.1 hx with rfl | hx
   ·exact hlt
   ·exact ltB_trans hlt (h1 x hx)
  ·rename_i hlt
   refine List.pairwise_cons.2 ⟨fun x hx => ?_, insB_sorted d r h2 fun e he => hn e (by simp [he])⟩
   rcases List.mem_cons.1 ((insB_perm d r).subset hx) with rfl | hx
   ·cases h3 : ltB e.nm x.nm with
    | true => rfl
    | false => exact absurd (ltB_conn (by simpa using hlt) h3) (hn e (by simp))
   ·exact h1 x hx
theorem srtB_sorted : ∀ l, ApartB l → SortedB (srtB l)
 | [], _ => by simp [srtB, SortedB]
 | d :: r, h => by
  obtain ⟨h1, h2⟩ := List.pairwise_cons.1 h
  exact insB_sorted d _ (srtB_sorted r h2) fun e he => h1 e ((srtB_perm r).subset he)
inductive UO where
 | go (s : List Bd) (l : List Pr)
 | stop (e : Int) (s : List Bd)
def zipP : List Tm → List Tm → List Pr
 | a :: r, b :: q => ⟨a, b⟩ :: zipP r q
 | _, _ => []
def putB (x : ByteArray) (t : Tm) (d : Bd) : Bd := ⟨d.nm, onT [⟨x, t⟩] d.t⟩
def grtB (s : List Bd) : Bool := s.any fun d => decide (2000 < sizeL [d.t])
def uBind (lim : Bool) (s : List Bd) (l : List Pr) (x : ByteArray) (t : Tm) : UO :=
 if inB x (varsP [] (preL [t])) = true then .stop 6 s
 else if (lim && grtB (s.map (putB x t))) = true then .stop 8 s
 else .go (srtB (s.map (putB x t) ++ [⟨x, t⟩])) l
def uPair (lim : Bool) (s : List Bd) (l : List Pr) (a b : Tm) : UO :=
 if 2000 < sizeL [a] ∨ 2000 < sizeL [b] then .stop 8 s
 else if varB a.name = true then (if a.name = b.name then .go s l else uBind lim s l a.name b)
 else if varB b.name = true then uBind lim s l b.name a
 else if a.name = b.name ∧ a.args.length = b.args.length then .go s (zipP a.args b.args ++ l)
 else .stop 5 s
def uNext (lim : Bool) (s : List Bd) : List Pr → UO
 | [] => .stop 0 s
 | p :: l => uPair lim s l (onT s p.l) (onT s p.r)
theorem uNext_cons (lim : Bool) (s : List Bd) (p : Pr) (l : List Pr) : uNext lim s (p :: l) = uPair lim s l (onT s p.l) (onT s p.r) := rfl
def uRun (lim : Bool) : Nat → List Bd → List Pr → Option (Int × List Bd)
 | 0, _, _ => none
 | n + 1, s, l => match uNext lim s l with
  | .stop e s' => some (e, s')
  | .go s' l' => uRun lim n s' l'
theorem sizeL_pos (t : Tm) : 1 ≤ sizeL [t] := by
 obtain ⟨s, l⟩ := t
 simp [sizeL]
theorem onL_grow (ls : List Bd) : ∀ l : List Tm, sizeL l ≤ sizeL (onL ls l) := by
 intro l
 induction l using Tm.indL with
 | h0 => simp [onL, sizeL]
 | h s l r ihl ihr =>
  have e1 : sizeL (onL ls (⟨s, l⟩ :: r)) = sizeL [onT ls ⟨s, l⟩] + sizeL (onL ls r) := by
   rw [onL_cons]
   generalize onT ls ⟨s, l⟩ = x
   obtain ⟨s2, m⟩ := x
   simp [sizeL]
  have e2 : sizeL (⟨s, l⟩ :: r) = (1 + sizeL l) + sizeL r := by simp [sizeL]
  have h1 : 1 + sizeL l ≤ sizeL [onT ls ⟨s, l⟩] := by
   by_cases hl : l = []
   ·subst hl
    have := sizeL_pos (onT ls ⟨s, []⟩)
    simpa [sizeL] using this
   ·rw [onT_deep (Or.inl hl)]
    simp only [sizeL]
    omega
  rw [e1, e2]
  omega
theorem onT_grow (ls : List Bd) (t : Tm) : sizeL [t] ≤ sizeL [onT ls t] := by
 have h := onL_grow ls [t]
 rw [onL_cons] at h
 simpa [onL] using h
theorem grtB_perm {l k : List Bd} (h : l.Perm k) : grtB l = grtB k := by
 unfold grtB
 rw [Bool.eq_iff_iff, List.any_eq_true, List.any_eq_true]
 exact ⟨fun ⟨d, hd, e⟩ => ⟨d, h.subset hd, e⟩, fun ⟨d, hd, e⟩ => ⟨d, h.symm.subset hd, e⟩⟩
theorem grtB_put {s : List Bd} (x : ByteArray) (t : Tm) (h : grtB s = true) : grtB (s.map (putB x t)) = true := by
 unfold grtB at *
 rw [List.any_eq_true] at *
 obtain ⟨d, hd, e⟩ := h
 refine ⟨putB x t d, List.mem_map.2 ⟨d, hd, rfl⟩, ?_⟩
 have h1 := onT_grow [⟨x, t⟩] d.t
 simp only [decide_eq_true_eq] at e ⊢
 exact Nat.lt_of_lt_of_le e h1
theorem grtB_new {s : List Bd} (x : ByteArray) (t : Tm) : grtB (srtB (s.map (putB x t) ++ [⟨x, t⟩])) = (grtB (s.map (putB x t)) || decide (2000 < sizeL [t])) := by
 rw [grtB_perm (srtB_perm _)]
 unfold grtB
 rw [List.any_append]
 simp
theorem uNext_great {lim : Bool} {s s' : List Bd} {l l' : List Pr} (h : uNext lim s l = .go s' l') (hg : grtB s = true) : grtB s' = true := by
 cases l with
 | nil => cases h
 | cons p l =>
  have bind : ∀ x t, uBind lim s l x t = .go s' l' → grtB s' = true := fun x t h => by
   unfold uBind at h
   split at h
   ·cases h
   ·split at h
    ·cases h
    ·cases h
     rw [grtB_new, grtB_put x t hg]
     rfl
  rw [uNext_cons] at h
  unfold uPair at h
  generalize onT s p.l = a at h
  generalize onT s p.r = b at h
  split at h
  ·cases h
  ·split at h
   ·split at h
    ·cases h; exact hg
    ·exact bind _ _ h
   ·split at h
    ·exact bind _ _ h
    ·split at h
     ·cases h; exact hg
     ·cases h
theorem uNext_stop {lim : Bool} {s s' : List Bd} {l : List Pr} {e : Int} (h : uNext lim s l = .stop e s') : s' = s := by
 cases l with
 | nil => cases h; rfl
 | cons p l =>
  have bind : ∀ x t, uBind lim s l x t = .stop e s' → s' = s := fun x t h => by
   unfold uBind at h
   split at h
   ·cases h; rfl
   ·split at h
    ·cases h; rfl
    ·cases h
  rw [uNext_cons] at h
  unfold uPair at h
  generalize onT s p.l = a at h
  generalize onT s p.r = b at h
  split at h
  ·cases h; rfl
  ·split at h
   ·split at h
    ·cases h
    ·exact bind _ _ h
   ·split at h
    ·exact bind _ _ h
    ·split at h
     ·cases h
     ·cases h; rfl
theorem uRun_great {lim : Bool} : ∀ (n : Nat) (s : List Bd) (l : List Pr) (e : Int) (sf : List Bd), uRun lim n s l = some (e, sf) → grtB s = true → grtB sf = true
 | 0, _, _, _, _, h, _ => by cases h
 | n + 1, s, l, e, sf, h, hg => by
  rw [uRun] at h
  cases hn : uNext lim s l with
  | stop e' s' =>
   rw [hn] at h
   cases h
   rw [uNext_stop hn]; exact hg
  | go s' l' =>
   rw [hn] at h
   exact uRun_great n s' l' e sf h (uNext_great hn hg)
theorem uNext_lim {s : List Bd} {l : List Pr} : uNext true s l = uNext false s l ∨ (uNext true s l = .stop 8 s ∧ ∃ s' l', uNext false s l = .go s' l' ∧ grtB s' = true) := by
 cases l with
 | nil => exact Or.inl rfl
 | cons p l =>
  have bind : ∀ x t, uBind true s l x t = uBind false s l x t ∨ (uBind true s l x t = .stop 8 s ∧ ∃ s' l', uBind false s l x t = .go s' l' ∧ grtB s' = true) := fun x t => by
   unfold uBind
   by_cases h1 : inB x (varsP [] (preL [t])) = true
   ·rw [if_pos h1, if_pos h1]; exact Or.inl rfl
   ·rw [if_neg h1, if_neg h1]
    cases h2 : grtB (s.map (putB x t)) with
    | true => exact Or.inr ⟨rfl, _, _, rfl, by rw [grtB_new, h2]; rfl⟩
    | false => exact Or.inl rfl
  rw [uNext_cons, uNext_cons]
  unfold uPair
  generalize onT s p.l = a
  generalize onT s p.r = b
  by_cases h1 : 2000 < sizeL [a] ∨ 2000 < sizeL [b]
  ·rw [if_pos h1, if_pos h1]; exact Or.inl rfl
  ·rw [if_neg h1, if_neg h1]
   by_cases h2 : varB a.name = true
   ·rw [if_pos h2, if_pos h2]
    by_cases h3 : a.name = b.name
    ·rw [if_pos h3, if_pos h3]; exact Or.inl rfl
    ·rw [if_neg h3, if_neg h3]; exact bind _ _
   ·rw [if_neg h2, if_neg h2]
    by_cases h3 : varB b.name = true
    ·rw [if_pos h3, if_pos h3]; exact bind _ _
    ·rw [if_neg h3, if_neg h3]; exact Or.inl rfl
theorem uRun_lim : ∀ (n : Nat) (s : List Bd) (l : List Pr) (e : Int) (sf : List Bd), uRun false n s l = some (e, sf) → grtB s = false → ∃ e' sf', uRun true n s l = some (e', sf') ∧ (grtB sf = true → e' = 8) ∧ (grtB sf = false → e' = e ∧ sf' = sf)
 | 0, _, _, _, _, h, _ => by cases h
 | n + 1, s, l, e, sf, h, hg => by
  rw [uRun] at h
  rcases uNext_lim (s := s) (l := l) with h1 | ⟨h1, s', l', h2, h3⟩
  ·rw [uRun, h1]
   cases hn : uNext false s l with
   | stop e' s' =>
    rw [hn] at h
    cases h
    refine ⟨e, sf, rfl, fun h4 => ?_, fun _ => ⟨rfl, rfl⟩⟩
    rw [uNext_stop hn, hg] at h4
    cases h4
   | go s' l' =>
    rw [hn] at h
    cases h4 : grtB s' with
    | false => exact uRun_lim n s' l' e sf h h4
    | true =>
     exfalso
     rw [hn] at h1
     have h5 : grtB s' = false := by
      cases l with
      | nil => cases hn
      | cons p l =>
       have bind : ∀ x t, sizeL [t] ≤ 2000 → uBind true s l x t = .go s' l' → grtB s' = false := fun x t ht h => by
        unfold uBind at h
        split at h
        ·cases h
        ·split at h
         ·cases h
         ·rename_i h6
          cases h
          rw [grtB_new]
          simp only [Bool.true_and, Bool.not_eq_true] at h6
          rw [h6]
          simp; omega
       rw [uNext_cons] at h1
       unfold uPair at h1
       generalize onT s p.l = a at h1
       generalize onT s p.r = b at h1
       split at h1
       ·cases h1
       ·rename_i h7
        split at h1
        ·split at h1
         ·cases h1; exact hg
         ·exact bind _ _ (by omega) h1
        ·split at h1
         ·exact bind _ _ (by omega) h1
         ·split at h1
          ·cases h1; exact hg
          ·cases h1
     rw [h5] at h4
     cases h4
  ·rw [h2] at h
   have h4 := uRun_great n s' l' e sf h h3
   refine ⟨8, s, by rw [uRun, h1], fun _ => rfl, fun h5 => ?_⟩
   rw [h4] at h5
   cases h5
structure Ex (B : Nat) (w w' : World) : Prop where
 os : w'.os = w.os
 tape : w'.tape = w.tape
 output : w'.output = w.output
 size : w.heap.size ≤ w'.heap.size
 block : ∀ k, k < w.heap.size → k ≠ B → w'.heap[k]? = w.heap[k]?
theorem Ex.refl (B : Nat) (w : World) : Ex B w w := ⟨rfl, rfl, rfl, Nat.le_refl _, fun _ _ _ => rfl⟩
theorem Ex.trans {B : Nat} {a b c : World} (h : Ex B a b) (k : Ex B b c) : Ex B a c :=
 ⟨k.os.trans h.os, k.tape.trans h.tape, k.output.trans h.output, Nat.le_trans h.size k.size, fun i hi hn => (k.block i (Nat.lt_of_lt_of_le hi h.size) hn).trans (h.block i hi hn)⟩
theorem Ex.drewN {B : Nat} {a w : World} (h : Ex B a w) (n : Nat) : Ex B a (w.drewN n) := ⟨h.os, h.tape, h.output, h.size, h.block⟩
theorem Ex.drew {B : Nat} {a w : World} (h : Ex B a w) : Ex B a w.drew := ⟨h.os, h.tape, h.output, h.size, h.block⟩
theorem Ex.set {B : Nat} {a w : World} (h : Ex B a w) (i : Nat) (v : Value) : Ex B a (w.setCell ⟨B, i, none⟩ v) :=
 ⟨h.os, h.tape, h.output, by simpa [World.setCell] using h.size, fun k hk hn => (Below.heap_setCell _ _ _ _ (by simpa using hn)).trans (h.block k hk hn)⟩
theorem Ex.alloc {B : Nat} {a w : World} (h : Ex B a w) (o : Obj) : Ex B a (w.alloc o) :=
 ⟨h.os, h.tape, h.output, by have := h.size; simp; omega, fun k hk hn => (Below.heap_alloc _ _ _ (Nat.lt_of_lt_of_le hk h.size)).trans (h.block k hk hn)⟩
theorem Blk.ex {w w' : World} {B b T : Nat} {cs : Array Value} (h : Blk w b cs T) (he : Ex B w w') (hne : b ≠ B) : Blk w' b cs T := by
 unfold Blk at *
 rw [he.block b (Blk.lt h) hne]; exact h
theorem Ex.mid {B : Nat} {w w1 : World} (h : Ex B w w1) : ∃ wm, Below wm.heap.size wm w1 ∧ wm.heap.size = w.heap.size ∧ Ex B w wm := by
 by_cases hB : B < w.heap.size
 ·have hB1 : B < w1.heap.size := Nat.lt_of_lt_of_le hB h.size
  refine ⟨{ w with heap := w.heap.setIfInBounds B w1.heap[B] }, ⟨h.os, h.tape, h.output, by simpa using h.size, fun k hk => ?_⟩, by simp, ⟨rfl, rfl, rfl, by simp, fun k hk hn => ?_⟩⟩
  ·simp at hk
   by_cases e : k = B
   ·subst e
    simp [Array.getElem?_setIfInBounds, hB, hB1]
   ·rw [h.block k hk e]
    simp [Array.getElem?_setIfInBounds, Ne.symm e]
  ·simp [Array.getElem?_setIfInBounds, Ne.symm hn]
 ·exact ⟨w, ⟨h.os, h.tape, h.output, h.size, fun k hk => h.block k hk (by omega)⟩, rfl, Ex.refl _ _⟩
theorem Row.ex {w w' : World} {B N T : Nat} {Y : Nat → Prop} {v : Value} {l : List Tm} {xs : List Value} (h : Row w N T Y v l xs) (he : Ex B w w') (hB : B < N) (hY : ¬ Y B) : Row w' N T Y v l xs :=
 ⟨h.own.kept (w' := w') (row := some B) ⟨he.os, he.tape, he.output, he.size, fun j hj hn => he.block j hj (fun e => hn (by rw [e]))⟩ (Or.inr (fun e => by have := (h.own.lt B e).1; omega)),
  h.row.imp fun a l hs => ((hs.mono (Y := fun b => (Y b ∨ (N ≤ b ∧ some b ≠ v.ownBlock)) ∧ b < w.heap.size) fun b h1 h2 => ⟨h1, h2⟩).kept fun b hb => he.block b hb.2 (fun e => by
   rcases hb.1 with h1 | h1
   ·rw [e] at h1; exact hY h1
   ·omega)).mono fun b hb _ => hb.1⟩
theorem Ex.grown {B : Nat} {a w w' : World} {row : Option Nat} (h : Ex B a w) (hg : w.grownBy w' row) (hr : ∀ k, row = some k → a.heap.size ≤ k) : Ex B a w' :=
 ⟨hg.os.trans h.os, hg.tape.trans h.tape, hg.output.trans h.output, Nat.le_trans h.size hg.size, fun k hk hn => (hg.block k (Nat.lt_of_lt_of_le hk h.size) (fun e => by have := hr k e.symm; omega)).trans (h.block k hk hn)⟩
theorem Ex.setNew {B : Nat} {a w : World} (h : Ex B a w) {b : Nat} (hb : a.heap.size ≤ b) (i : Nat) (v : Value) : Ex B a (w.setCell ⟨b, i, none⟩ v) :=
 ⟨h.os, h.tape, h.output, by simpa [World.setCell] using h.size, fun k hk hn => (Below.heap_setCell _ _ _ _ (by simp; omega)).trans (h.block k hk hn)⟩
theorem below3 {w : World} (o1 o2 o3 : Obj) : Below w.heap.size w (((w.alloc o1).alloc o2).alloc o3) := (below2 o1 o2).alloc (by simp; omega) o3
theorem copy_step {w wr w1 w3 : World} {T k : Nat} {u : Value} {l : List Tm} {xs : List Value} {o1 o2 : Obj} {s s' : ByteArray} {a1 : Option Addr} {n1 c1 g cap : Nat} {c0 : Array Value} (hrow : Row wr (w.heap.size + 3) T (fun _ => False) u (l.take k) xs) (hb : Below w.heap.size w wr)
  (h1 : Blk wr (w.heap.size + 1) c0 T) (h2 : Blk wr (w.heap.size + 1 + 1) #[.string s, u] T) (hsz : w.heap.size + 3 ≤ wr.heap.size) (hlt : k < l.length)
  (hb1 : Below (wr.alloc o1).drew.heap.size (wr.alloc o1).drew w1) (ht : TV w1 (fun b => (wr.alloc o1).drew.heap.size ≤ b) (.agg #[.string s', .slice a1 n1 c1]) l[k])
  (hown : w3.ownsRow (w.heap.size + 3) T 2 (.slice (some ⟨g, 0, none⟩) ((l.take k).length + 1) cap) ((l.take k).length + 1) (xs ++ [.string s', .slice a1 n1 c1])) (hg : (w1.alloc o2).grownBy w3 u.ownBlock) (hat : u.ownBlock = some g ∨ g = (w1.alloc o2).heap.size) :
  let w4 := w3.setCell ⟨w.heap.size + 1 + 1, 1, none⟩ (.slice (some ⟨g, 0, none⟩) ((l.take k).length + 1) cap)
  Row w4 (w.heap.size + 3) T (fun _ => False) (.slice (some ⟨g, 0, none⟩) ((l.take k).length + 1) cap) (l.take (k + 1)) (xs ++ [.string s', .slice a1 n1 c1]) ∧ Below w.heap.size w w4 ∧ Blk w4 (w.heap.size + 1) c0 T ∧ Blk w4 (w.heap.size + 1 + 1) #[.string s, .slice (some ⟨g, 0, none⟩) ((l.take k).length + 1) cap] T ∧ w.heap.size + 3 ≤ w4.heap.size := by
 intro w4
 have hbb : Below wr.heap.size wr (wr.alloc o1).drew := ((Below.refl _ _).alloc (Nat.le_refl _) o1).drew
 have hr1 := hrow.below hbb
 have hlt' := hrow.own.lt
 have hs1 := hb1.size
 have hsg := hg.size
 simp at hs1 hsg
 have hp := hr1.push (w1 := w1) (w2 := w1.alloc o2) (w3 := w3) (by simp; omega) (fun _ h => h.elim) hb1 (ht.mono fun b h _ => Or.inr h) o2 rfl hown hg hat
 have hw3 : Below w.heap.size w w3 := (((hb.trans (hbb.mono (by omega))).trans (hb1.mono (by simp; omega))).alloc (by omega) o2).grown hg (by simp; omega) (fun j hj => by have := (hlt' j hj).1; omega)
 have hA : Below w.heap.size w w4 := hw3.setCell (p := ⟨w.heap.size + 1 + 1, 1, none⟩) (by simp; omega) _
 refine ⟨?_, hA, (copy_blk h1 hb1 hg (fun e => by have := (hlt' _ e.symm).1; omega)).setOther _ _ (by omega), ?_, by simp [w4, World.setCell]; omega⟩
 ·rw [List.take_succ_eq_append_getElem hlt]
  exact hp.setCell (by omega) (fun h => h) _
 ·exact (copy_blk h2 hb1 hg (fun e => by have := (hlt' _ e.symm).1; omega)).set 1 _
set_option maxHeartbeats 1000000 in
theorem copyOf_any (t : Tm) : ∀ (v : Value) (w : World) (X : Nat → Prop), TV w X v t → sizeL [t] ≤ 1000000 →
  Calls Tryz.prog 24 #[v] w fun e w' => ∃ v', e = .returned v' ∧ TV w' (fun b => w.heap.size ≤ b) v' t ∧ Below w.heap.size w w' := by
 induction t using Tm.ind with
 | h s l ih =>
  intro v w X hv hsm
  have IH := hide ih
  clear ih
  obtain ⟨a, c, rfl, hs⟩ := hv
  have hl := hs.1
  have hz : sizeL [(⟨s, l⟩ : Tm)] = 1 + sizeL l := by simp [sizeL]
  rw [hz] at hsm
  clear hz
  have hlen := sizeL_len l
  obtain ⟨i0, hi, hz0, hz1, hz2⟩ := info_parts Tryz.infoTerm
  go_enter Tryz.func24, Tryz.ntmps24
  go_wp2_with fail
  go_loopw [12] (fun i wr => ∃ (k : Nat) (u : Value) (xs : List Value), k ≤ l.length ∧ i = .int .i64 k ∧ Row wr (w.heap.size + 3) 26 (fun _ => False) u (l.take k) xs ∧ Below w.heap.size w wr ∧ Blk wr (w.heap.size + 1) #[.string ⟨#[]⟩, .slice none 0 0] 26 ∧ Blk wr (w.heap.size + 1 + 1) #[.string s, u] 26 ∧ w.heap.size + 3 ≤ wr.heap.size) (fun i wr => l.length - (intOf i).toNat)
  case atStart =>
   refine ⟨0, .slice none 0 0, [], Nat.zero_le _, rfl, Row.start _ _ _ _, below3 _ _ _, ?_, ?_, by simp⟩
   ·have := ((Blk.new (w.alloc (.cells #[.string s, .slice a l.length c] 26)) #[.string ⟨#[]⟩, .slice none 0 0] 26)).alloc (.cells #[.string s, .slice none 0 0] 26)
    simpa using this
   ·have := Blk.new ((w.alloc (.cells #[.string s, .slice a l.length c] 26)).alloc (.cells #[.string ⟨#[]⟩, .slice none 0 0] 26)) #[.string s, .slice none 0 0] 26
    simpa using this
  case round =>
   obtain ⟨k, u, xs, hk, rfl, hrow, hb, hbl1, hbl2, hsz⟩ := hrel
   have HROW := hide hrow
   have HBL1 := hide hbl1
   have HBL2 := hide hbl2
   have HB := hide hb
   clear hrow hbl1
   by_cases hlt : k < l.length
   ·obtain ⟨b, o, a', c', rfl, d0, d1, hx⟩ := hs.get hb (fun _ _ h => h) k hlt
    have hc2 : ∀ o, (wr.alloc o).cell? ⟨w.heap.size + 1 + 1, 1, none⟩ = some u := fun o => (hbl2.alloc o).cell 1
    have HX := hide hx
    have hszk : sizeL [l[k]] ≤ 1000000 := by
     have := sizeL_take l k hlt; have := sizeL_take_le l (k + 1); omega
    clear hbl2 hb hx
    go_wp2_with fail
    go_region_law (first
     | (go_simp; go_at_call 24; refine (IH.out _ (List.getElem_mem hlt) _ _ X (by exact (HX.out.alloc _).later (below_drewN (Below.refl _ _) 1)) hszk).mono ?_; rintro e w1 ⟨v1, rfl, ht1, hb1⟩; obtain ⟨a1, c1, rfl, hs1⟩ := ht1; have hc3 : ∀ o, (w1.alloc o).cell? ⟨w.heap.size + 1 + 1, 1, none⟩ = some u := fun o => ((((HBL2.out.alloc _).drewN 1).below hb1 (by simp; omega)).alloc o).cell 1; have hc4 : w1.cell? ⟨w.heap.size + 1 + 1, 1, none⟩ = some u := (((HBL2.out.alloc _).drewN 1).below hb1 (by simp; omega)).cell 1)
     | (refine step_append_lies _ rfl _ _ 23 rfl (w.heap.size + 3) 26 i0 _ 2 40 Tryz.underlying23 hi hz0 hz1 hz2 rfl (by decide) u (l.take k).length xs rfl (by exact (((HROW.out.below ((Below.refl _ _).alloc (Nat.le_refl _) _)).below (below_drewN (Below.refl _ _) 1)).below hb1).own.alloc _) ⟨w1.heap.size, 0, none⟩ 1 1 [.string l[k].name, .slice a1 l[k].args.length c1] rfl rfl (cell_two_new _ _ _ _) (fun x hx => by simp at hx; rcases hx with rfl | rfl <;> rfl) (by decide) (by unfold maxLen; simp; omega) (by simp; omega) (by have := hb1.size; simp at this ⊢; omega) _ rfl ?_; intro g cap w3 hown3 hgrow3 hat3 hlt3; have hB3 := hide (copy_blk HBL2.out hb1 hgrow3 (HROW.out.ne (Nat.lt_succ_self _))); have hc5 : w3.cell? ⟨w.heap.size + 1 + 1, 1, none⟩ = some u := hB3.out.cell 1; have hf5 := hB3.out.frozen 1))
    all_goals
     have HFIN := hide (copy_step HROW.out HB.out HBL1.out HBL2.out hsz hlt hb1 ⟨a1, c1, rfl, hs1⟩ hown3 hgrow3 hat3)
     clear hown3 hgrow3 hat3 hc2 hc3 hc4
     go_wp2_with fail
     go_roundw
     case rel =>
      have hkl : (l.take k).length = k := by simp; omega
      obtain ⟨r1, r2, r3, r4, r5⟩ := HFIN.out
      simp only [hkl] at r1 r2 r3 r4 r5
      exact ⟨k + 1, _, _, by omega, by go_num, r1, r2, r3, r4, r5⟩
     case measure => simp [intOf]; omega
   ·have htk : l.take k = l := List.take_of_length_le (by omega)
    have hc0 := hbl2.cell 0
    have hc1 := hbl2.cell 1
    have hr0 := HBL1.out.cell 0
    have hr1 := HBL1.out.cell 1
    have hrf := HBL1.out.frozen
    obtain ⟨a9, c9, hu9, hsl9⟩ := HROW.out.sl
    rw [htk] at hu9 hsl9
    have HSL := hide hsl9
    subst hu9
    clear hsl9 htk hbl2
    go_wp2_with fail
    refine bodyPost_ret (v := .agg #[.string s, .slice a9 l.length c9]) (by simp [results, Tryz.results24, go_sem, hr0, hr1, World.cell?_setCell_same, World.cell?_setCell_other]) rfl ⟨_, rfl, ?_, ?_⟩
    ·refine ⟨a9, c9, rfl, ?_⟩
     have hk9 : Sl wr (fun b => w.heap.size + 3 ≤ b) a9 l := HSL.out.mono fun b h _ => h.elim False.elim id
     exact ((hk9.kept fun b hb => by rw [Below.heap_setCell _ _ _ _ (by simp; omega), Below.heap_setCell _ _ _ _ (by simp; omega)]).mono fun b hb _ => by omega)
    ·exact (HB.out.setCell (by simp) _).setCell (by simp) _
def CpPost (w : World) (F : Nat) (sv : Value) (t : Tm) (n : Nat) (e : Ending) (w' : World) : Prop :=
 ∃ (s' : ByteArray) (a' : Option Addr) (l' c' : Nat) (m : Int), e = .returned (.agg #[.string s', .slice a' l' c']) ∧ Blk w' F #[.int .i64 m, sv] 191 ∧ Ex F w w' ∧ (sizeL [t] ≤ n → m = (n : Int) - sizeL [t] ∧ s' = t.name ∧ l' = t.args.length ∧ Sl w' (fun b => w.heap.size ≤ b) a' t.args) ∧ (n < sizeL [t] → m = -1)
theorem fcopy_of (F : Nat) (sv : Value) (t : Tm) (n : Nat) (a : Option Addr) (c : Nat) (w : World) (hFl : F < w.heap.size) (h : Calls Tryz.prog 147 #[.pointer (some ⟨F, 0, none⟩), .agg #[.string t.name, .slice a t.args.length c], .func (.func 148) #[.pointer (some ⟨F, 0, none⟩)] #[]] ((w.alloc (.cells #[.string t.name, .slice a t.args.length c] 26)).alloc (.cells #[.string ⟨#[]⟩, .slice none 0 0] 26)) fun e w' => CpPost ((w.alloc (.cells #[.string t.name, .slice a t.args.length c] 26)).alloc (.cells #[.string ⟨#[]⟩, .slice none 0 0] 26)) F sv t n e w') :
  Calls Tryz.prog 148 #[.pointer (some ⟨F, 0, none⟩), .agg #[.string t.name, .slice a t.args.length c]] w fun e w' => CpPost w F sv t n e w' := by
 have hmf : ∀ (fn : Fn) (first cap : Array Value) (w : World), (Instr.makeFunc fn first cap).run Tryz.prog w = .ok (.func fn first cap) w := fun _ _ _ _ => rfl
 have H := hide h
 clear h
 go_enter Tryz.func148, Tryz.ntmps148
 go_wp2_with fail
 refine H.out.mono ?_
 rintro e w1 ⟨s', a', l', c', m, rfl, hF1, hx1, hy1, hn1⟩
 have R1 : Hid (Blk w1 (w.heap.size + 1) #[.string ⟨#[]⟩, .slice none 0 0] 26) := by
  have h := (Blk.new (w.alloc (.cells #[.string t.name, .slice a t.args.length c] 26)) #[.string ⟨#[]⟩, .slice none 0 0] 26).ex hx1 (by simp; omega)
  unfold Hid
  simpa using h
 have HX := hide ((((Ex.refl F w).alloc (.cells #[.string t.name, .slice a t.args.length c] 26)).alloc (.cells #[.string ⟨#[]⟩, .slice none 0 0] 26)).trans hx1)
 have HF := hide hF1
 have HY := hide hy1
 have HN := hide hn1
 clear hF1 hx1 hy1 hn1
 have r0 := R1.out.c0
 have r1 := R1.out.c1
 have rf := R1.out.frozen
 go_wp2_with fail
 refine bodyPost_ret (v := .agg #[.string s', .slice a' l' c']) (by simp [results, Tryz.results148, go_sem, World.cell?_setCell_same, World.cell?_setCell_other, r0, r1]) rfl ?_
 refine ⟨s', a', l', c', m, rfl, (HF.out.setOther _ _ (by omega)).setOther _ _ (by omega), (HX.out.setNew (by omega) _ _).setNew (by omega) _ _, fun h => ?_, HN.out⟩
 obtain ⟨h1, h2, h3, h4⟩ := HY.out h
 refine ⟨h1, h2, h3, (h4.kept fun b hb => ?_).mono fun b hb _ => by simp at hb; omega⟩
 simp at hb
 rw [Below.heap_setCell _ _ _ _ (by simp; omega), Below.heap_setCell _ _ _ _ (by simp; omega)]
theorem Sl.ex {w w' : World} {F : Nat} {X : Nat → Prop} {a : Option Addr} {l : List Tm} (h : Sl w X a l) (he : Ex F w w') (hX : ∀ b, X b → b ≠ F) : Sl w' X a l :=
 ((h.mono (Y := fun b => X b ∧ b < w.heap.size) fun b h1 h2 => ⟨h1, h2⟩).kept fun b hb => he.block b hb.2 (hX b hb.1)).mono fun b hb _ => hb.1
def KnSet (w : World) (F O : Nat) (s : ByteArray) (u : Value) (cF : Array Value) (wr : World) : Prop :=
 Ex F w wr ∧ Blk wr (w.heap.size + 1) #[.string ⟨#[]⟩, .slice none 0 0] 26 ∧ Blk wr O #[.string s, u] 26 ∧ Blk wr F cF 191 ∧ O < wr.heap.size
theorem kn_set {w wr w1 w3 : World} {F O : Nat} {s : ByteArray} {u v : Value} {cF cF' : Array Value} {o2 : Obj} (hFw : F < w.heap.size) (hO : w.heap.size + 2 ≤ O) (h : KnSet w F O s u cF wr) (hu : ∀ k, u.ownBlock = some k → O + 1 ≤ k)
  (he1 : Ex F wr w1) (hF1 : Blk w1 F cF' 191) (hg : (w1.alloc o2).grownBy w3 u.ownBlock) : KnSet w F O s v cF' (w3.setCell ⟨O, 1, none⟩ v) := by
 obtain ⟨h1, h2, h3, h4, h5⟩ := h
 have hne : ∀ b, b < O + 1 → some b ≠ u.ownBlock := fun b hb e => by have := hu b e.symm; omega
 have hs1 := he1.size
 have hs3 := hg.size
 simp at hs3
 refine ⟨(((h1.trans he1).alloc o2).grown hg (fun k hk => by have := hu k hk; omega)).setNew (by omega) _ _, ?_, ?_, ?_, by simp [World.setCell]; omega⟩
 ·exact (((h2.ex he1 (by omega)).alloc o2).grown hg (hne _ (by omega))).setOther _ _ (by omega)
 ·exact (((h3.ex he1 (by omega)).alloc o2).grown hg (hne _ (by omega))).set 1 _
 ·exact ((hF1.alloc o2).grown hg (hne _ (by omega))).setOther _ _ (by omega)
theorem kn_row {wr w1 w3 : World} {F O : Nat} {u : Value} {L : List Tm} {xs : List Value} {o2 : Obj} {s' : ByteArray} {a1 : Option Addr} {n1 c1 g cap : Nat} {t : Tm} (hFO : F < O) (hOr : O < wr.heap.size) (hrow : Row wr (O + 1) 26 (fun _ => False) u L xs)
  (he1 : Ex F wr w1) (ht : TV w1 (fun b => wr.heap.size ≤ b) (.agg #[.string s', .slice a1 n1 c1]) t)
  (hown : w3.ownsRow (O + 1) 26 2 (.slice (some ⟨g, 0, none⟩) (L.length + 1) cap) (L.length + 1) (xs ++ [.string s', .slice a1 n1 c1])) (hg : (w1.alloc o2).grownBy w3 u.ownBlock) (hat : u.ownBlock = some g ∨ g = (w1.alloc o2).heap.size) :
  Row (w3.setCell ⟨O, 1, none⟩ (.slice (some ⟨g, 0, none⟩) (L.length + 1) cap)) (O + 1) 26 (fun _ => False) (.slice (some ⟨g, 0, none⟩) (L.length + 1) cap) (L ++ [t]) (xs ++ [.string s', .slice a1 n1 c1]) := by
 obtain ⟨wm, hbm, hsm, hem⟩ := he1.mid
 have hrm := hrow.ex hem (by omega) (fun h => h)
 exact (hrm.push (w1 := w1) (w2 := w1.alloc o2) (w3 := w3) (by omega) (fun _ h => h.elim) hbm (ht.mono fun b h _ => Or.inr (by omega)) o2 rfl hown hg hat).setCell (by omega) (fun h => h) _
def KnInv (w : World) (F O : Nat) (s : ByteArray) (sv : Value) (l : List Tm) (n : Nat) (i : Value) (wr : World) : Prop :=
 ∃ (k : Nat) (u : Value), k ≤ l.length ∧ i = .int .i64 (k : Int) ∧
  ((∃ (m : Nat) (xs : List Value), (m : Int) = (n : Int) - 1 - sizeL (l.take k) ∧ KnSet w F O s u #[.int .i64 (m : Int), sv] wr ∧ Row wr (O + 1) 26 (fun _ => False) u (l.take k) xs) ∨
   (n < 1 + sizeL l ∧ KnSet w F O s u #[.int .i64 (-1), sv] wr ∧ ∃ a9 l9 c9, u = .slice a9 l9 c9))
set_option maxHeartbeats 1000000 in
theorem knotC_any (F : Nat) (sv : Value) (t : Tm) : ∀ (n : Nat) (v : Value) (w : World) (X : Nat → Prop), TV w X v t → (∀ b, X b → b ≠ F) → n ≤ 1000000 → Blk w F #[.int .i64 (n : Int), sv] 191 →
  Calls Tryz.prog 147 #[.pointer (some ⟨F, 0, none⟩), v, .func (.func 148) #[.pointer (some ⟨F, 0, none⟩)] #[]] w fun e w' => CpPost w F sv t n e w' := by
 induction t using Tm.ind with
 | h s l ih =>
  intro n v w X hv hXF hn hF
  obtain ⟨a, c, rfl, hs⟩ := hv
  have IH := hide ih
  clear ih
  obtain ⟨i0, hi0, hz0, hz1, hz2⟩ := info_parts Tryz.infoTerm
  have f0 : ∀ o, (w.alloc o).cell? ⟨F, 0, none⟩ = some (.int .i64 (n : Int)) := fun o => (hF.alloc o).cell 0
  have ff : ∀ o, (w.alloc o).frozen? ⟨F, 0, none⟩ = false := fun o => (hF.alloc o).frozen 0
  have hFl : F < w.heap.size := hF.lt
  go_enter Tryz.func147, Tryz.ntmps147
  go_wp2_with fail
  have E3 : Hid (KnSet w F (w.heap.size + 1 + 1) s (.slice none 0 0) #[.int .i64 ((n : Int) - 1), sv] ((((w.setCell ⟨F, 0, none⟩ (.int .i64 ((n : Int) - 1))).alloc (.cells #[.string s, .slice a l.length c] 26)).alloc (.cells #[.string ⟨#[]⟩, .slice none 0 0] 26)).alloc (.cells #[.string s, .slice none 0 0] 26))) := by
   refine ⟨((((Ex.refl F w).set 0 _).alloc _).alloc _).alloc _, ?_, ?_, (((hF.set 0 _).alloc _).alloc _).alloc _, by simp [World.setCell]⟩
   ·have h := (Blk.new ((w.setCell ⟨F, 0, none⟩ (.int .i64 ((n : Int) - 1))).alloc (.cells #[.string s, .slice a l.length c] 26)) #[.string ⟨#[]⟩, .slice none 0 0] 26).alloc (.cells #[.string s, .slice none 0 0] 26)
    simpa [World.setCell] using h
   ·have h := Blk.new (((w.setCell ⟨F, 0, none⟩ (.int .i64 ((n : Int) - 1))).alloc (.cells #[.string s, .slice a l.length c] 26)).alloc (.cells #[.string ⟨#[]⟩, .slice none 0 0] 26)) #[.string s, .slice none 0 0] 26
    simpa [World.setCell] using h
  generalize ((((w.setCell ⟨F, 0, none⟩ (.int .i64 ((n : Int) - 1))).alloc (.cells #[.string s, .slice a l.length c] 26)).alloc (.cells #[.string ⟨#[]⟩, .slice none 0 0] 26)).alloc (.cells #[.string s, .slice none 0 0] 26)) = w3 at *
  generalize hOe : w.heap.size + 1 + 1 = O at *
  have hO : w.heap.size + 2 ≤ O := by omega
  clear hOe
  clear f0 ff
  have HS := hide hs
  have hl := hs.1
  have HXF := hide hXF
  have hz : sizeL [(⟨s, l⟩ : Tm)] = 1 + sizeL l := by simp [sizeL]
  clear hs hXF
  go_loopw [23] (fun i wr => KnInv w F O s sv l n i wr) (fun i wr => l.length - (intOf i).toNat)
  case atStart =>
   refine ⟨0, .slice none 0 0, Nat.zero_le _, rfl, ?_⟩
   by_cases hn0 : n = 0
   ·subst hn0
    exact Or.inr ⟨by omega, E3.out, none, 0, 0, rfl⟩
   ·refine Or.inl ⟨n - 1, [], by simp [sizeL]; omega, ?_, Row.start _ _ _ _⟩
    rw [show ((n - 1 : Nat) : Int) = (n : Int) - 1 by omega]
    exact E3.out
  case round =>
   obtain ⟨k, u, hk, rfl, hcase⟩ := hrel
   rcases hcase with ⟨m, xs, hm, hset, hrow⟩ | ⟨hbig, hset, a9, l9, c9, rfl⟩
   ·have XS := hide hset
    have XW := hide hrow
    have HMM := hide hm
    clear hset hrow
    by_cases hlt : k < l.length
    ·obtain ⟨b, o, a', c', rfl, d0, d1, hx⟩ := (HS.out.ex XS.out.1 HXF.out).get (Below.refl _ _) (fun _ _ h => h) k hlt
     obtain ⟨av, cv, ev, hsx⟩ := hx
     simp at ev
     obtain ⟨rfl, rfl⟩ := ev
     have hmn : m ≤ 1000000 := by omega
     have HOF : Hid (O ≠ F) := by unfold Hid; omega
     have HFO1 : Hid (F < O + 1) := by unfold Hid; omega
     have hlen := sizeL_len l
     have hsk : (l.take k).length = k := by simp; omega
     have hkn : k ≤ 1000000 := by have h1 := sizeL_len (l.take k); rw [hsk] at h1; omega
     have HL1 : Hid ((l.take k).length + 1 ≤ maxLen ∧ ((l.take k).length + 1) * 40 ≤ 140737488355328) := by unfold Hid; rw [hsk]; exact ⟨by unfold maxLen; omega, by omega⟩
     clear hsk
     have IHQ : Hid (Calls Tryz.prog 148 #[.pointer (some ⟨F, 0, none⟩), .agg #[.string l[k].name, .slice a' l[k].args.length c']] (wr.alloc (.cells #[.string l[k].name, .slice a' l[k].args.length c'] 26)).drew fun e w'' => CpPost (wr.alloc (.cells #[.string l[k].name, .slice a' l[k].args.length c'] 26)).drew F sv l[k] m e w'') := fcopy_of F sv l[k] m a' c' _ (by have := XS.out.1.size; simp; omega) (IH.out l[k] (List.getElem_mem hlt) m _ _ X ⟨a', c', rfl, ((hsx.later ((Below.refl _ _).alloc (Nat.le_refl _) (.cells #[.string l[k].name, .slice a' l[k].args.length c'] 26))).later ((Below.refl _ _).drew)).later (((Below.refl _ _).alloc (Nat.le_refl _) _).alloc (by simp) _)⟩ HXF.out hmn (by exact ((((XS.out.2.2.2.1.alloc _).drewN 1).alloc _).alloc _)))
     have f0 : ∀ o, (wr.alloc o).cell? ⟨F, 0, none⟩ = some (.int .i64 (m : Int)) := fun o => (XS.out.2.2.2.1.alloc o).cell 0
     have o1 : ∀ o, (wr.alloc o).cell? ⟨O, 1, none⟩ = some u := fun o => (XS.out.2.2.1.alloc o).cell 1
     have hm0 : ¬ (m : Int) < 0 := by omega
     by_cases hle : sizeL [l[k]] ≤ m
     ·have IHG : Hid (Calls Tryz.prog 148 #[.pointer (some ⟨F, 0, none⟩), .agg #[.string l[k].name, .slice a' l[k].args.length c']] (wr.alloc (.cells #[.string l[k].name, .slice a' l[k].args.length c'] 26)).drew fun e w'' => ∃ a1 c1, e = .returned (.agg #[.string l[k].name, .slice a1 l[k].args.length c1]) ∧ Blk w'' F #[.int .i64 ((m : Int) - sizeL [l[k]]), sv] 191 ∧ Ex F wr w'' ∧ Sl w'' (fun b => wr.heap.size ≤ b) a1 l[k].args) := IHQ.out.mono fun e w'' hp => by
       obtain ⟨s1, a1, l1, c1, m1, h1, h2, h3, h4, _⟩ := hp
       obtain ⟨rfl, rfl, rfl, h5⟩ := h4 hle
       exact ⟨a1, c1, h1, h2, (((Ex.refl F wr).alloc _).drew).trans h3, h5.mono fun b hb _ => by simp at hb; omega⟩
      clear IHQ
      go_wp2_with fail
      go_region_law (first
       | (go_simp; go_at_call 148; refine IHG.out.mono ?_; rintro e w1 ⟨a1, c1, rfl, hF1, he1, hs1⟩; have hc3 : ∀ o, (w1.alloc o).cell? ⟨O, 1, none⟩ = some u := fun o => ((Blk.ex XS.out.2.2.1 he1 HOF.out).alloc o).cell 1; have hc4 : w1.cell? ⟨O, 1, none⟩ = some u := (Blk.ex XS.out.2.2.1 he1 HOF.out).cell 1)
       | (refine step_append_lies _ rfl _ _ 23 rfl (O + 1) 26 i0 _ 2 40 Tryz.underlying23 hi0 hz0 hz1 hz2 rfl (by decide) u (l.take k).length xs rfl (by exact (Row.ex (B := F) XW.out he1 HFO1.out (fun h => h)).own.alloc _) ⟨w1.heap.size, 0, none⟩ 1 1 [.string l[k].name, .slice a1 l[k].args.length c1] rfl rfl (cell_two_new _ _ _ _) (fun x hx => by simp at hx; rcases hx with rfl | rfl <;> rfl) (by decide) HL1.out.1 HL1.out.2 (by have := he1.size; have := XS.out.2.2.2.2; simp; omega) _ rfl ?_; intro g cap w3 hown3 hgrow3 hat3 hlt3; have hB3 := hide (((Blk.ex XS.out.2.2.1 he1 HOF.out).alloc _).grown hgrow3 (XW.out.ne (Nat.lt_succ_self _))); have hc5 : w3.cell? ⟨O, 1, none⟩ = some u := hB3.out.cell 1; have hf5 := hB3.out.frozen 1))
      all_goals
       have HK := hide (kn_set (v := .slice (some ⟨g, 0, none⟩) ((l.take k).length + 1) cap) hFl hO XS.out (fun j hj => (XW.out.own.lt j hj).1) he1 hF1 hgrow3)
       have HRW := hide (kn_row (by omega) XS.out.2.2.2.2 XW.out he1 ⟨a1, c1, rfl, hs1⟩ hown3 hgrow3 hat3)
       clear hown3 hgrow3 hat3 hc3 hc4 hc5 hf5 hB3 hF1 he1 hs1 hlt3
       go_wp2_with fail
       go_roundw
       case rel =>
        have hkl : (l.take k).length = k := by simp; omega
        have h1 := HK.out
        have h2 := HRW.out
        have hmm := HMM.out
        simp only [hkl] at h1 h2
        refine ⟨k + 1, .slice (some ⟨g, 0, none⟩) (k + 1) cap, by omega, by go_num, Or.inl ⟨m - sizeL [l[k]], xs ++ [.string l[k].name, .slice a1 l[k].args.length c1], by rw [sizeL_take l k hlt]; omega, ?_, ?_⟩⟩
        ·rw [show ((m - sizeL [l[k]] : Nat) : Int) = (m : Int) - sizeL [l[k]] by omega]
         exact h1
        ·rw [List.take_succ_eq_append_getElem hlt]
         exact h2
       case measure => simp [intOf]; omega
     ·have IHG : Hid (Calls Tryz.prog 148 #[.pointer (some ⟨F, 0, none⟩), .agg #[.string l[k].name, .slice a' l[k].args.length c']] (wr.alloc (.cells #[.string l[k].name, .slice a' l[k].args.length c'] 26)).drew fun e w'' => ∃ s1 a1 l1 c1, e = .returned (.agg #[.string s1, .slice a1 l1 c1]) ∧ Blk w'' F #[.int .i64 (-1), sv] 191 ∧ Ex F wr w'') := IHQ.out.mono fun e w'' hp => by
       obtain ⟨s1, a1, l1, c1, m1, h1, h2, h3, _, h4⟩ := hp
       obtain rfl := h4 (by omega)
       exact ⟨s1, a1, l1, c1, h1, h2, (((Ex.refl F wr).alloc _).drew).trans h3⟩
      clear IHQ
      go_wp2_with fail
      go_region_law (first
       | (go_simp; go_at_call 148; refine IHG.out.mono ?_; rintro e w1 ⟨s1, a1, l1, c1, rfl, hF1, he1⟩; have hc3 : ∀ o, (w1.alloc o).cell? ⟨O, 1, none⟩ = some u := fun o => ((Blk.ex XS.out.2.2.1 he1 HOF.out).alloc o).cell 1; have hc4 : w1.cell? ⟨O, 1, none⟩ = some u := (Blk.ex XS.out.2.2.1 he1 HOF.out).cell 1)
       | (refine step_append_lies _ rfl _ _ 23 rfl (O + 1) 26 i0 _ 2 40 Tryz.underlying23 hi0 hz0 hz1 hz2 rfl (by decide) u (l.take k).length xs rfl (by exact (Row.ex (B := F) XW.out he1 HFO1.out (fun h => h)).own.alloc _) ⟨w1.heap.size, 0, none⟩ 1 1 [.string s1, .slice a1 l1 c1] rfl rfl (cell_two_new _ _ _ _) (fun x hx => by simp at hx; rcases hx with rfl | rfl <;> rfl) (by decide) HL1.out.1 HL1.out.2 (by have := he1.size; have := XS.out.2.2.2.2; simp; omega) _ rfl ?_; intro g cap w3 hown3 hgrow3 hat3 hlt3; have hB3 := hide (((Blk.ex XS.out.2.2.1 he1 HOF.out).alloc _).grown hgrow3 (XW.out.ne (Nat.lt_succ_self _))); have hc5 : w3.cell? ⟨O, 1, none⟩ = some u := hB3.out.cell 1; have hf5 := hB3.out.frozen 1))
      all_goals
       have HK := hide (kn_set (v := .slice (some ⟨g, 0, none⟩) ((l.take k).length + 1) cap) hFl hO XS.out (fun j hj => (XW.out.own.lt j hj).1) he1 hF1 hgrow3)
       clear hown3 hgrow3 hat3 hc3 hc4 hc5 hf5 hB3 hF1 he1 hlt3
       go_wp2_with fail
       go_roundw
       case rel =>
        have hkl : (l.take k).length = k := by simp; omega
        have h0 := HK.out
        have hmm := HMM.out
        simp only [hkl] at h0
        refine ⟨k + 1, .slice (some ⟨g, 0, none⟩) (k + 1) cap, by omega, by go_num, Or.inr ⟨?_, h0, _, _, _, rfl⟩⟩
        have h1 := sizeL_take l k hlt
        have h2 := sizeL_take_le l (k + 1)
        omega
       case measure => simp [intOf]; omega
    ·have htk : l.take k = l := List.take_of_length_le (by omega)
     rw [htk] at XW HMM
     obtain ⟨a9, c9, hu9, hsl9⟩ := XW.out.sl
     subst hu9
     have S9 := hide hsl9
     clear hsl9
     have r0 := XS.out.2.1.c0
     have r1 := XS.out.2.1.c1
     have rf := XS.out.2.1.frozen
     have o0 := XS.out.2.2.1.c0
     have o1 := XS.out.2.2.1.c1
     go_wp2_with fail
     refine bodyPost_ret (v := .agg #[.string s, .slice a9 l.length c9]) (by simp [results, Tryz.results147, go_sem, World.cell?_setCell_same, World.cell?_setCell_other, r0, r1]) rfl ?_
     have hmm := HMM.out
     refine ⟨s, a9, l.length, c9, m, rfl, (XS.out.2.2.2.1.setOther _ _ (by omega)).setOther _ _ (by omega), (XS.out.1.setNew (by omega) _ _).setNew (by omega) _ _, fun h => ⟨by rw [hz]; omega, rfl, rfl, (S9.out.kept fun b hb => ?_).mono fun b hb _ => ?_⟩, fun h => by omega⟩
     ·have hb' : O + 1 ≤ b := hb.elim False.elim id
      rw [Below.heap_setCell _ _ _ _ (by simp; omega), Below.heap_setCell _ _ _ _ (by simp; omega)]
     ·have hb' : O + 1 ≤ b := hb.elim False.elim id
      omega
   ·have XS := hide hset
    clear hset
    have f0 : ∀ o, (wr.alloc o).cell? ⟨F, 0, none⟩ = some (.int .i64 (-1)) := fun o => (XS.out.2.2.2.1.alloc o).cell 0
    by_cases hlt : k < l.length
    ·obtain ⟨b, o, a', c', rfl, d0, d1, hx⟩ := (HS.out.ex XS.out.1 HXF.out).get (Below.refl _ _) (fun _ _ h => h) k hlt
     clear hx
     have o0 : ∀ o, (wr.alloc o).cell? ⟨O, 0, none⟩ = some (.string s) := fun o => (XS.out.2.2.1.alloc o).cell 0
     have o1 : ∀ o, (wr.alloc o).cell? ⟨O, 1, none⟩ = some (.slice a9 l9 c9) := fun o => (XS.out.2.2.1.alloc o).cell 1
     have r0 := XS.out.2.1.c0
     have r1 := XS.out.2.1.c1
     have rf := XS.out.2.1.frozen
     have hRl : w.heap.size + 1 < wr.heap.size := XS.out.2.1.lt
     go_wp2_with fail
     refine bodyPost_ret (v := .agg #[.string s, .slice a9 l9 c9]) (by simp [results, Tryz.results147, go_sem, World.cell?_setCell_same, World.cell?_setCell_other, r0, r1, hRl, World.cell?_alloc_old]) rfl ?_
     exact ⟨s, a9, l9, c9, -1, rfl, ((XS.out.2.2.2.1.setOther _ _ (by omega)).setOther _ _ (by omega)).alloc _, ((XS.out.1.setNew (by omega) _ _).setNew (by omega) _ _).alloc _, fun h => by omega, fun _ => rfl⟩
    ·have r0 := XS.out.2.1.c0
     have r1 := XS.out.2.1.c1
     have rf := XS.out.2.1.frozen
     have o0 := XS.out.2.2.1.c0
     have o1 := XS.out.2.2.1.c1
     go_wp2_with fail
     refine bodyPost_ret (v := .agg #[.string s, .slice a9 l9 c9]) (by simp [results, Tryz.results147, go_sem, World.cell?_setCell_same, World.cell?_setCell_other, r0, r1]) rfl ?_
     exact ⟨s, a9, l9, c9, -1, rfl, (XS.out.2.2.2.1.setOther _ _ (by omega)).setOther _ _ (by omega), (XS.out.1.setNew (by omega) _ _).setNew (by omega) _ _, fun h => by omega, fun _ => rfl⟩
def mapGet : List (ByteArray × Value) → ByteArray → Option Value
 | [], _ => none
 | p :: r, n => if p.1 = n then some p.2 else mapGet r n
def Stamps (es : Array MapEntry) (clk : Nat) : Prop := (∀ x ∈ es.toList, x.born < clk) ∧ (es.toList.map (·.born)).Nodup
def MapAt (w : World) (r : Nat) (L : List (ByteArray × Value)) : Prop :=
 ∃ es clk, w.heap[r]? = some (.map es clk) ∧ es.toList.map (fun e => (e.key, e.val)) = L.map (fun p => (Value.string p.1, p.2)) ∧ Stamps es clk
theorem Stamps.push {es : Array MapEntry} {clk : Nat} (h : Stamps es clk) (k v : Value) : Stamps (es.push { key := k, val := v, born := clk }) (clk + 1) := by
 obtain ⟨h1, h2⟩ := h
 refine ⟨fun x hx => ?_, ?_⟩
 ·rw [Array.toList_push, List.mem_append] at hx
  rcases hx with hx | hx
  ·have := h1 x hx; omega
  ·have e : x = { key := k, val := v, born := clk } := by simpa using hx
   subst e; exact Nat.lt_succ_self _
 ·rw [Array.toList_push, List.map_append, List.nodup_append]
  refine ⟨h2, by simp, fun a ha b hb => ?_⟩
  obtain ⟨x, hx, rfl⟩ := List.mem_map.1 ha
  have := h1 x hx
  have e : b = clk := by simpa using hb
  omega
theorem map_born_modify (j : Nat) (k v : Value) : ∀ l : List MapEntry, (l.modify j fun e => { e with key := k, val := v }).map (·.born) = l.map (·.born) := by
 induction j with
 | zero => intro l; cases l <;> simp
 | succ j ih => intro l; cases l with
  | nil => simp
  | cons a r => simp [List.modify_succ_cons, ih r]
theorem Stamps.modify {es : Array MapEntry} {clk : Nat} (h : Stamps es clk) (j : Nat) (k v : Value) : Stamps (es.modify j fun e => { e with key := k, val := v }) clk := by
 obtain ⟨h1, h2⟩ := h
 have e := map_born_modify j k v es.toList
 refine ⟨fun x hx => ?_, by rw [Array.toList_modify, e]; exact h2⟩
 rw [Array.toList_modify] at hx
 have : x.born ∈ es.toList.map (·.born) := by rw [← e]; exact List.mem_map.2 ⟨x, hx, rfl⟩
 obtain ⟨y, hy, hb⟩ := List.mem_map.1 this
 rw [← hb]; exact h1 y hy
theorem MapAt.new (w : World) : MapAt (w.alloc (.map #[] 0)) w.heap.size [] := ⟨#[], 0, heap_alloc_new w _, rfl, by simp [Stamps]⟩
theorem MapAt.lt {w : World} {r : Nat} {L : List (ByteArray × Value)} (h : MapAt w r L) : r < w.heap.size := by
 obtain ⟨es, clk, h, _⟩ := h
 exact (Array.getElem?_eq_some_iff.1 h).1
theorem MapAt.kept {w w' : World} {r : Nat} {L : List (ByteArray × Value)} (h : MapAt w r L) (hk : w'.heap[r]? = w.heap[r]?) : MapAt w' r L := by
 obtain ⟨es, clk, h1, h2⟩ := h
 exact ⟨es, clk, hk.trans h1, h2⟩
theorem MapAt.below {w w' : World} {r B : Nat} {L : List (ByteArray × Value)} (h : MapAt w r L) (hb : Below B w w') (hB : r < B) : MapAt w' r L := h.kept (hb.block r hB)
theorem findNow_map (n : ByteArray) : ∀ (l : List MapEntry) (L : List (ByteArray × Value)) (i : Nat), l.map (fun e => (e.key, e.val)) = L.map (fun p => (Value.string p.1, p.2)) →
  (mapGet L n = none → Instr.findNow .string (.string n) l i = some none) ∧ (∀ v, mapGet L n = some v → ∃ j, Instr.findNow .string (.string n) l i = some (some (j, v)))
 | [], [], i, h => ⟨fun _ => rfl, fun v h => by simp [mapGet] at h⟩
 | [], p :: L, i, h => by simp at h
 | e :: l, [], i, h => by simp at h
 | e :: l, p :: L, i, h => by
  simp only [List.map_cons, List.cons.injEq, Prod.mk.injEq] at h
  obtain ⟨⟨hk, hv⟩, ht⟩ := h
  obtain ⟨ih1, ih2⟩ := findNow_map n l L (i + 1) ht
  by_cases hn : p.1 = n
  ·have hs : Instr.sameNow .string (.string n) e.key = some true := by
    rw [hk, hn]
    show some (n == n) = some true
    rw [show (n == n) = true from (MapKept.bytes_beq _ _).2 rfl]
   refine ⟨fun h => by simp [mapGet, hn] at h, fun v h => ⟨i, ?_⟩⟩
   simp only [mapGet, hn, if_true, Option.some.injEq] at h
   simp [Instr.findNow, hs, hv, h]
  ·have hs : Instr.sameNow .string (.string n) e.key = some false := by
    rw [hk]
    show some (n == p.1) = some false
    have hb : (n == p.1) = false := by
     cases hh : (n == p.1) with
     | false => rfl
     | true => exact absurd ((MapKept.bytes_beq _ _).1 hh).symm hn
    rw [hb]
   refine ⟨fun h => ?_, fun v h => ?_⟩
   ·rw [mapGet, if_neg hn] at h
    simp [Instr.findNow, hs, ih1 h]
   ·rw [mapGet, if_neg hn] at h
    obtain ⟨j, hj⟩ := ih2 v h
    exact ⟨j, by simp [Instr.findNow, hs, hj]⟩
theorem run_look {P : Program} {w : World} {T kt et : TypeId} {r : Nat} {L : List (ByteArray × Value)} {z : Value} (hm : P.underlying T = some (.map kt et)) (hk : P.underlying kt = some .string) (hz : (zeroValue et).run P w = .ok z w) (h : MapAt w r L) (n : ByteArray) :
  (Instr.lookup T (.map (some r)) (.string n) true).run P w = .ok (.tuple #[(mapGet L n).getD z, .bool (mapGet L n).isSome]) w := by
 obtain ⟨es, clk, hb, he, hst⟩ := h
 obtain ⟨h1, h2⟩ := findNow_map n es.toList L 0 he
 have hc : ∀ b, (Instr.checkKey b 10000 kt (.string n)).run P w = .ok () w := fun b => MapKept.run_checkKey (k := .string n) hk (by simp [MapKept.IsKey]) b 9999
 cases hg : mapGet L n with
 | none => simp [Instr.lookup, run_underlying hm, MapKept.run_getObj_map hb, hc, MapKept.run_findKey hk (h1 hg), Result.andThen, hz]
 | some v =>
  obtain ⟨j, hj⟩ := h2 v hg
  simp [Instr.lookup, run_underlying hm, MapKept.run_getObj_map hb, hc, MapKept.run_findKey hk hj, Result.andThen]
theorem run_put {P : Program} {w : World} {T kt et : TypeId} {r : Nat} {L : List (ByteArray × Value)} (hm : P.underlying T = some (.map kt et)) (hk : P.underlying kt = some .string) (h : MapAt w r L) (n : ByteArray) (v : Value) (hn : mapGet L n = none) :
  ∃ w', (Instr.mapUpdate T (.map (some r)) (.string n) v).run P w = .ok () w' ∧ MapAt w' r (L ++ [(n, v)]) ∧ w'.heap.size = w.heap.size ∧ w'.os = w.os ∧ w'.tape = w.tape ∧ w'.output = w.output ∧ (∀ b, b ≠ r → w'.heap[b]? = w.heap[b]?) := by
 obtain ⟨es, clk, hb, he, hst⟩ := h
 obtain ⟨h1, h2⟩ := findNow_map n es.toList L 0 he
 have hc : (Instr.checkKey false 10000 kt (.string n)).run P w = .ok () w := MapKept.run_checkKey (k := .string n) hk (by simp [MapKept.IsKey]) false 9999
 have hlt : r < w.heap.size := (Array.getElem?_eq_some_iff.1 hb).1
 refine ⟨{ w with heap := w.heap.setIfInBounds r (.map (es.push { key := .string n, val := v, born := clk }) (clk + 1)) }, ?_, ⟨_, _, (MapKept.heap_set hb).1, by simp [he], hst.push _ _⟩, by simp, rfl, rfl, rfl, fun b hne => (MapKept.heap_set hb).2 b hne⟩
 simp [Instr.mapUpdate, run_underlying hm, MapKept.run_getObj_map hb, hc, MapKept.run_findKey hk (h1 hn), MapKept.run_setObj_map _ hb, Result.andThen]
def PairsL (w : World) (X : Nat → Prop) : List Bd → List (ByteArray × Value) → Prop
 | [], L => L = []
 | d :: r, L => ∃ a c L', L = (d.nm, .agg #[.string d.t.name, .slice a d.t.args.length c]) :: L' ∧ Sl w X a d.t.args ∧ PairsL w X r L'
theorem PairsL.imp {w w' : World} {X Y : Nat → Prop} (hs : ∀ a l, Sl w X a l → Sl w' Y a l) : ∀ {l : List Bd} {L : List (ByteArray × Value)}, PairsL w X l L → PairsL w' Y l L
 | [], L, h => h
 | d :: r, L, h => by obtain ⟨a, c, L', e, h1, h2⟩ := h; exact ⟨a, c, L', e, hs _ _ h1, PairsL.imp hs h2⟩
theorem PairsL.push {w : World} {X : Nat → Prop} {d : Bd} {a : Option Addr} {c : Nat} (hs : Sl w X a d.t.args) : ∀ {l : List Bd} {L : List (ByteArray × Value)}, PairsL w X l L → PairsL w X (l ++ [d]) (L ++ [(d.nm, .agg #[.string d.t.name, .slice a d.t.args.length c])])
 | [], L, h => by
  have e : L = [] := h
  subst e
  exact ⟨a, c, [], rfl, hs, rfl⟩
 | d' :: r, L, h => by obtain ⟨a', c', L', e, h1, h2⟩ := h; subst e; exact ⟨a', c', _, rfl, h1, PairsL.push hs h2⟩
theorem PairsL.get {w : World} {X : Nat → Prop} (n : ByteArray) : ∀ {l : List Bd} {L : List (ByteArray × Value)}, PairsL w X l L → (forT l n = none → mapGet L n = none) ∧ (∀ t, forT l n = some t → ∃ a c, mapGet L n = some (.agg #[.string t.name, .slice a t.args.length c]) ∧ Sl w X a t.args)
 | [], L, h => by
  have e : L = [] := h
  subst e
  exact ⟨fun _ => rfl, fun t h => by simp [forT] at h⟩
 | d :: r, L, h => by
  obtain ⟨a, c, L', rfl, h1, h2⟩ := h
  obtain ⟨g1, g2⟩ := PairsL.get n h2
  by_cases hd : d.nm = n
  ·refine ⟨fun h => by simp [forT, hd] at h, fun t h => ?_⟩
   rw [forT, if_pos hd] at h
   cases h
   exact ⟨a, c, by simp [mapGet, hd], h1⟩
  ·refine ⟨fun h => ?_, fun t h => ?_⟩
   ·rw [forT, if_neg hd] at h
    simp only [mapGet, hd, if_false]
    exact g1 h
   ·rw [forT, if_neg hd] at h
    simp only [mapGet, hd, if_false]
    exact g2 t h
def Env (w : World) (B r : Nat) (X : Nat → Prop) (ls : List Bd) (L : List (ByteArray × Value)) : Prop := Blk w B #[.map (some r)] 67 ∧ MapAt w r L ∧ PairsL w X ls L
theorem Env.ex {w w' : World} {B r F : Nat} {X : Nat → Prop} {ls : List Bd} {L : List (ByteArray × Value)} (h : Env w B r X ls L) (he : Ex F w w') (hB : B ≠ F) (hr : r ≠ F) (hX : ∀ b, X b → b ≠ F) : Env w' B r X ls L :=
 ⟨h.1.ex he hB, h.2.1.kept (he.block r h.2.1.lt hr), h.2.2.imp fun a l hs => hs.ex he hX⟩
theorem Env.later {w w' : World} {B r : Nat} {X : Nat → Prop} {ls : List Bd} {L : List (ByteArray × Value)} (h : Env w B r X ls L) (hb : Below w.heap.size w w') : Env w' B r X ls L :=
 ⟨h.1.below hb h.1.lt, h.2.1.below hb h.2.1.lt, h.2.2.imp fun a l hs => hs.later hb⟩
theorem Ex.ofBelow {B : Nat} {w w' : World} (h : Below w.heap.size w w') : Ex B w w' := ⟨h.os, h.tape, h.output, h.size, fun k hk _ => h.block k hk⟩
theorem two_keep {w : World} {F T b : Nat} {u v x : Value} {i j k : Nat} (h : w.cell? ⟨F, i, none⟩ = some u ∧ w.cell? ⟨T, j, none⟩ = some v) (h1 : b ≠ F) (h2 : b ≠ T) : (w.setCell ⟨b, k, none⟩ x).cell? ⟨F, i, none⟩ = some u ∧ (w.setCell ⟨b, k, none⟩ x).cell? ⟨T, j, none⟩ = some v :=
 ⟨(World.cell?_setCell_other _ _ _ _ (fun e => h1 (by injection e))).trans h.1, (World.cell?_setCell_other _ _ _ _ (fun e => h2 (by injection e))).trans h.2⟩
theorem forT_mem {s : ByteArray} {x : Tm} : ∀ {ls : List Bd}, forT ls s = some x → ∃ d, d ∈ ls ∧ d.nm = s ∧ d.t = x
 | [], h => by cases h
 | d :: r, h => by
  rw [forT] at h
  split at h
  ·rename_i e
   exact ⟨d, by simp, e, by simpa using h⟩
  ·obtain ⟨d', h1, h2, h3⟩ := forT_mem h
   exact ⟨d', by simp [h1], h2, h3⟩
theorem errL_parts {s : ByteArray} {a r : List Tm} (h : errL (⟨s, a⟩ :: r) = 0) : (varB s = true → a = []) ∧ errL a = 0 ∧ errL r = 0 := by
 rw [errL] at h
 split at h
 ·split at h
  ·cases h
  ·rename_i h1 h2
   split at h
   ·rename_i h3
    refine ⟨fun hv => ?_, h3, h⟩
    cases a with
    | nil => rfl
    | cons x y => simp [hv] at h2
   ·rename_i h3; exact absurd h h3
 ·cases h
theorem errL_name {s : ByteArray} {a r : List Tm} (h : errL (⟨s, a⟩ :: r) = 0) : nameB s = true := by
 rw [errL] at h
 split at h
 ·assumption
 ·cases h
theorem forT_of {l : List Bd} (ha : ApartB l) {d : Bd} (hd : d ∈ l) : forT l d.nm = some d.t := by
 induction l with
 | nil => cases hd
 | cons a r ih =>
  obtain ⟨h1, h2⟩ := List.pairwise_cons.1 ha
  rcases List.mem_cons.1 hd with rfl | hd
  ·simp [forT]
  ·rw [forT, if_neg (h1 d hd)]
   exact ih h2 hd
theorem forT_append (a b : List Bd) (n : ByteArray) : forT (a ++ b) n = (forT a n).or (forT b n) := by
 induction a with
 | nil => simp [forT]
 | cons d r ih =>
  rw [List.cons_append, forT, forT]
  split
  ·rfl
  ·exact ih
theorem onT_leaf (l : List Bd) (n : ByteArray) : onT l ⟨n, []⟩ = (forT l n).getD ⟨n, []⟩ := by
 cases h : forT l n with
 | none => rw [onT_deep (Or.inr h)]; simp [onL]
 | some t => rw [onT_some h]; rfl
theorem forT_some_of {ls : List Bd} {d : Bd} (h : d ∈ ls) : ∃ t, forT ls d.nm = some t := by
 induction ls with
 | nil => cases h
 | cons a r ih =>
  rw [forT]
  split
  ·exact ⟨_, rfl⟩
  ·rename_i hne
   rcases List.mem_cons.1 h with rfl | h
   ·exact absurd rfl hne
   ·exact ih h
theorem varsP_sub : ∀ (ks : List Tm) (acc : List ByteArray) (n : ByteArray), n ∈ varsP acc ks → n ∈ acc ∨ ∃ k ∈ ks, k.name = n ∧ varB n = true
 | [], acc, n, h => Or.inl (by simpa [varsP] using h)
 | k :: r, acc, n, h => by
  have e : varsP acc (k :: r) = varsP (addV acc k.name) r := rfl
  rw [e] at h
  rcases varsP_sub r _ n h with h1 | ⟨k', h1, h2⟩
  ·cases hv : varB k.name with
   | false => rw [addV_no hv] at h1; exact Or.inl h1
   | true =>
    cases hi : inB k.name acc with
    | true => rw [addV_in hv hi] at h1; exact Or.inl h1
    | false =>
     rw [addV_yes hv hi] at h1
     rcases List.mem_append.1 h1 with h1 | h1
     ·exact Or.inl h1
     ·have e2 : n = k.name := by simpa using h1
      exact Or.inr ⟨k, by simp, e2.symm, by rw [e2]; exact hv⟩
  ·exact Or.inr ⟨k', by simp [h1], h2⟩
theorem varsP_has : ∀ (ks : List Tm) (acc : List ByteArray), (∀ n ∈ acc, n ∈ varsP acc ks) ∧ ∀ k ∈ ks, varB k.name = true → k.name ∈ varsP acc ks
 | [], acc => ⟨fun n h => by simpa [varsP] using h, fun k h => by cases h⟩
 | k :: r, acc => by
  have e : varsP acc (k :: r) = varsP (addV acc k.name) r := rfl
  rw [e]
  obtain ⟨h1, h2⟩ := varsP_has r (addV acc k.name)
  have hsub : ∀ n ∈ acc, n ∈ addV acc k.name := fun n hn => by
   cases hv : varB k.name with
   | false => rw [addV_no hv]; exact hn
   | true =>
    cases hi : inB k.name acc with
    | true => rw [addV_in hv hi]; exact hn
    | false => rw [addV_yes hv hi]; simp [hn]
  refine ⟨fun n hn => h1 n (hsub n hn), fun k' hk' hv' => ?_⟩
  rcases List.mem_cons.1 hk' with rfl | hk'
  ·refine h1 _ ?_
   cases hi : inB k'.name acc with
   | true =>
    rw [addV_in hv' hi]
    unfold inB at hi
    obtain ⟨y, hy, e2⟩ := List.any_eq_true.1 hi
    have e3 : y = k'.name := bytes_inj (by simpa using e2)
    rw [← e3]; exact hy
   | false => rw [addV_yes hv' hi]; simp
  ·exact h2 k' hk' hv'
theorem mod_nat {x : Int} (hx : 0 ≤ x) {n : Nat} (hn : 0 < n) : ∃ k : Nat, x % (n : Int) = k ∧ k < n := by
 have h1 := Int.emod_nonneg x (b := (n : Int)) (by omega)
 have h2 := Int.emod_lt_of_pos x (b := (n : Int)) (by omega)
 exact ⟨(x % (n : Int)).toNat, by omega, by omega⟩
theorem pick_any (c : Int) (n : Nat) (hn : 0 < n) (hn2 : n ≤ 2000000) (hc : -9223372036854775808 ≤ c ∧ c ≤ 9223372036854775807) (w : World) :
  Calls Tryz.prog 5 #[.int .i64 c, .int .i64 (n : Int)] w fun e w' => ∃ k : Nat, e = .returned (.int .i64 (k : Int)) ∧ k < n ∧ w' = w := by
 go_enter Tryz.func5, Tryz.ntmps5
 by_cases h : c < 0
 ·go_wp2_with fail
  go_ret
  obtain ⟨k, hk, hkn⟩ := mod_nat (x := -(c + 1)) (by omega) hn
  refine ⟨k, ?_, hkn, rfl⟩
  have h1 : -(c + 1).tmod (n : Int) = k := by rw [← Int.neg_tmod, Int.tmod_eq_emod_of_nonneg (by omega)]; exact hk
  simp [h1]
 ·go_wp2_with fail
  go_ret
  obtain ⟨k, hk, hkn⟩ := mod_nat (x := c) (by omega) hn
  exact ⟨k, by simp [hk], hkn, rfl⟩
def pickN (c : Int) (n : Nat) : Nat := if c < 0 then (-(c + 1) % (n : Int)).toNat else (c % (n : Int)).toNat
theorem pickN_lt (c : Int) (n : Nat) (hn : 0 < n) : pickN c n < n := by
 unfold pickN
 split
 ·obtain ⟨k, hk, hkn⟩ := mod_nat (x := -(c + 1)) (by omega) hn
  rw [hk]; simpa using hkn
 ·obtain ⟨k, hk, hkn⟩ := mod_nat (x := c) (by omega) hn
  rw [hk]; simpa using hkn
theorem pick_eq (c : Int) (n : Nat) (hn : 0 < n) (hn2 : n ≤ 2000000) (hc : -9223372036854775808 ≤ c ∧ c ≤ 9223372036854775807) (w : World) :
  Calls Tryz.prog 5 #[.int .i64 c, .int .i64 (n : Int)] w fun e w' => e = .returned (.int .i64 (pickN c n : Int)) ∧ w' = w := by
 go_enter Tryz.func5, Tryz.ntmps5
 by_cases h : c < 0
 ·have HK : Hid (((pickN c n : Nat) : Int) = -(c + 1).tmod (n : Int)) := by
   obtain ⟨k, hk, hkn⟩ := mod_nat (x := -(c + 1)) (by omega) hn
   have h1 : -(c + 1).tmod (n : Int) = k := by rw [← Int.neg_tmod, Int.tmod_eq_emod_of_nonneg (by omega)]; exact hk
   unfold Hid pickN
   rw [h1, if_pos h, hk]; simp
  go_wp2_with fail
  go_ret
  exact ⟨by simp [HK.out], rfl⟩
 ·have HK : Hid (((pickN c n : Nat) : Int) = c % (n : Int)) := by
   obtain ⟨k, hk, hkn⟩ := mod_nat (x := c) (by omega) hn
   unfold Hid pickN
   rw [if_neg h, hk]; simp
  go_wp2_with fail
  go_ret
  exact ⟨by simp [HK.out], rfl⟩
theorem wrapI (x : Int) (h : -9223372036854775808 ≤ x ∧ x ≤ 9223372036854775807) : IntKind.i64.wrap x = x := by
 rw [IntKind.wrap_i64]; omega
def Rng (z : Int) : Prop := -9223372036854775808 ≤ z ∧ z ≤ 9223372036854775807
set_option maxHeartbeats 1000000 in
theorem raw_any (zs : List Int) (u : Value) (w : World) (X : Nat → Prop) (hu : PV w X u zs) (hr : ∀ z ∈ zs, Rng z) (i : Nat) (hi : i ≤ 1000000) (hzl : zs.length ≤ 1000000) :
  Calls Tryz.prog 17 #[u, .int .i64 (i : Int)] w fun e w' => ∃ k : Nat, e = .returned (.int .i64 (k : Int)) ∧ k ≤ 100000000000 ∧ Below w.heap.size w w' := by
 obtain ⟨a, c, rfl, hl, h⟩ := hu
 by_cases h0 : zs.length = 0
 ·go_enter Tryz.func17, Tryz.ntmps17
  go_wp2_with fail
  go_ret
  exact ⟨i * 31, by simp, by omega, Below.refl _ _⟩
 ·rcases h with h | ⟨b, o, rfl, hX, hc⟩
  ·subst h; simp at h0
  ·have hpos : 0 < zs.length := by omega
   obtain ⟨m, hm, hlt⟩ := mod_nat (x := (i : Int)) (by omega) hpos
   obtain ⟨d, hd, hdl⟩ : ∃ d : Nat, (i : Int) / (zs.length : Int) = d ∧ d ≤ i := ⟨i / zs.length, by simp, Nat.div_le_self _ _⟩
   have hm2 : (i : Int).tmod (zs.length : Int) = m := by rw [Int.tmod_eq_emod_of_nonneg (by omega)]; exact hm
   have hd2 : (i : Int).tdiv (zs.length : Int) = d := by rw [Int.tdiv_eq_ediv_of_nonneg (by omega)]; exact hd
   have hcc := hc m hlt
   have hrg := hr _ (List.getElem_mem hlt)
   generalize zs[m] = z at *
   have hm0 : (0 : Int) ≤ (m : Int) := by omega
   have hm1 : (m : Int) < (zs.length : Int) := by omega
   clear hc hr
   go_enter Tryz.func17, Tryz.ntmps17
   go_wp2_with fail
   go_region_held3 (fun w' => w'.cell? ⟨b, o + m, none⟩ = some (.int .i64 z)) (first | exact hcc | go_keep)
    ((go_at_call 5; refine (pick_any z 1000003 (by decide) (by decide) hrg _).mono ?_; rintro e w1 ⟨k, rfl, hk, rfl⟩))
   go_wp2_with fail
   go_ret
   refine ⟨k + d * 7919, by simp [wrapI (d : Int) (by omega), wrapI ((d : Int) * 7919) (by omega), wrapI ((k : Int) + (d : Int) * 7919) (by omega)], by omega, ?_⟩
   exact (Below.refl _ _).drew
theorem leaf_any (s : ByteArray) (w : World) :
  Calls Tryz.prog 13 #[.string s] w fun e w' => e = .returned (.agg #[.string s, .slice none 0 0]) ∧ Below w.heap.size w w' := by
 go_enter Tryz.func13, Tryz.ntmps13
 go_wp2_with fail
 have hb := Blk.new w #[.string s, .slice none 0 0] 26
 have c0 := hb.cell 0
 have c1 := hb.cell 1
 refine bodyPost_ret (v := .agg #[.string s, .slice none 0 0]) (by simp [results, Tryz.results13, go_sem, c0, c1]) rfl ⟨rfl, (Below.refl _ _).alloc (Nat.le_refl _) _⟩
def top (m : Nat) : Nat := if m < 3 then 1 else 2 * m - 1
def okV (nv : Nat) (l : List Tm) : Prop := errL l = 0 ∧ ∀ k ∈ preL l, varB k.name = true → k.name ∈ ([⟨#[88]⟩, ⟨#[89]⟩, ⟨#[90]⟩, ⟨#[85]⟩] : List ByteArray).take nv
def GrowPV (nv : Nat) (w : World) (i m : Nat) (e : Ending) (w' : World) : Prop :=
 ∃ (a : Option Addr) (c n : Nat) (t : Tm), e = .returned (.tuple #[.agg #[.string t.name, .slice a t.args.length c], .int .i64 (n : Int)]) ∧ Sl w' (fun b => w.heap.size ≤ b) a t.args ∧ t.args.length ≤ c ∧ c ≤ 9223372036854775807 ∧ sizeL [t] ≤ top m ∧ i ≤ n ∧ n ≤ i + top m ∧ Below w.heap.size w w' ∧ okV nv [t]
theorem top_pos (m : Nat) : 1 ≤ top m := by unfold top; split <;> omega
theorem top_step {m : Nat} (h : 3 ≤ m + 1) : top m + 1 ≤ top (m + 1) := by unfold top; split <;> split <;> omega
theorem top_half {m h : Nat} (hm : 3 ≤ m + 1) (hh : h = (m + 1) / 2) : 2 * top h + 1 ≤ top (m + 1) := by unfold top; split <;> split <;> omega
theorem err_leaf {s : ByteArray} (h : nameB s = true) : errL [(⟨s, []⟩ : Tm)] = 0 := by simp [errL, h]
theorem err_node {s : ByteArray} {l : List Tm} (h : nameB s = true) (hv : varB s = false) (hl : errL l = 0) : errL [(⟨s, l⟩ : Tm)] = 0 := by simp [errL, h, hv, hl]
theorem ok_node {nv : Nat} {s : ByteArray} {l : List Tm} (h : nameB s = true) (hv : varB s = false) (hl : okV nv l) : okV nv [(⟨s, l⟩ : Tm)] := by
 refine ⟨err_node h hv hl.1, fun k hk hvk => ?_⟩
 simp only [preL, List.append_nil, List.mem_cons] at hk
 rcases hk with rfl | hk
 ·simp only at hvk
  rw [hv] at hvk; cases hvk
 ·exact hl.2 k hk hvk
theorem preL_cons2 (t : Tm) (r : List Tm) : preL (t :: r) = preL [t] ++ preL r := by
 obtain ⟨s, l⟩ := t
 simp [preL]
theorem ok_two {nv : Nat} {a b : Tm} (ha : okV nv [a]) (hb : okV nv [b]) : okV nv [a, b] := by
 refine ⟨by rw [errL_cons, if_pos ha.1]; exact hb.1, fun k hk hv => ?_⟩
 rw [preL_cons2] at hk
 rcases List.mem_append.1 hk with hk | hk
 ·exact ha.2 k hk hv
 ·exact hb.2 k hk hv
theorem grow_leaf {nv : Nat} {w w' : World} {s : ByteArray} {i m : Nat} (hes : okV nv [(⟨s, []⟩ : Tm)]) (hb : Below w.heap.size w w') : GrowPV nv w i m (.returned (.tuple #[.agg #[.string s, .slice none 0 0], .int .i64 ((i : Int) + 1)])) w' := by
 have := top_pos m
 exact ⟨none, 0, i + 1, ⟨s, []⟩, by simp, ⟨by simp, Or.inl rfl⟩, by simp, by omega, by simp [sizeL]; omega, by omega, by omega, hb, hes⟩
theorem pick_var (w : World) (T k nv : Nat) (hk : k < nv) (hnv : nv ≤ 4) : ∃ s, okV nv [(⟨s, []⟩ : Tm)] ∧ (w.alloc (.cells #[.string ⟨#[88]⟩, .string ⟨#[89]⟩, .string ⟨#[90]⟩, .string ⟨#[85]⟩] T)).cell? ⟨w.heap.size, k, none⟩ = some (.string s) := by
 have h := heap_alloc_new w (.cells (([⟨#[88]⟩, ⟨#[89]⟩, ⟨#[90]⟩, ⟨#[85]⟩] : List ByteArray).map Value.string).toArray T)
 have hk4 : k < ([⟨#[88]⟩, ⟨#[89]⟩, ⟨#[90]⟩, ⟨#[85]⟩] : List ByteArray).length := by simp; omega
 refine ⟨([⟨#[88]⟩, ⟨#[89]⟩, ⟨#[90]⟩, ⟨#[85]⟩] : List ByteArray)[k], ⟨err_leaf ((show ∀ s ∈ ([⟨#[88]⟩, ⟨#[89]⟩, ⟨#[90]⟩, ⟨#[85]⟩] : List ByteArray), nameB s = true by decide) _ (List.getElem_mem hk4)), fun x hx _ => ?_⟩, ?_⟩
 ·simp only [preL, List.append_nil, List.mem_cons, List.not_mem_nil, or_false] at hx
  rw [hx]
  rw [← List.getElem_take (h := by simp; omega) (j := nv)]
  exact List.getElem_mem _
 ·have h2 := Lib.cell_of_heap h k
  refine h2.trans ?_
  rw [List.getElem?_toArray, List.getElem?_map, List.getElem?_eq_getElem hk4]
  rfl
theorem pick_const (w : World) (T k nv : Nat) (hk : k < 3) : ∃ s, okV nv [(⟨s, []⟩ : Tm)] ∧ (w.alloc (.cells #[.string ⟨#[97]⟩, .string ⟨#[98]⟩, .string ⟨#[99]⟩] T)).cell? ⟨w.heap.size, k, none⟩ = some (.string s) := by
 have h := heap_alloc_new w (.cells (([⟨#[97]⟩, ⟨#[98]⟩, ⟨#[99]⟩] : List ByteArray).map Value.string).toArray T)
 have hk4 : k < ([⟨#[97]⟩, ⟨#[98]⟩, ⟨#[99]⟩] : List ByteArray).length := by simpa using hk
 refine ⟨([⟨#[97]⟩, ⟨#[98]⟩, ⟨#[99]⟩] : List ByteArray)[k], ⟨err_leaf ((show ∀ s ∈ ([⟨#[97]⟩, ⟨#[98]⟩, ⟨#[99]⟩] : List ByteArray), nameB s = true by decide) _ (List.getElem_mem hk4)), fun x hx hv => ?_⟩, ?_⟩
 ·simp only [preL, List.append_nil, List.mem_cons, List.not_mem_nil, or_false] at hx
  rw [hx] at hv
  have := (show ∀ s ∈ ([⟨#[97]⟩, ⟨#[98]⟩, ⟨#[99]⟩] : List ByteArray), varB s = false by decide) _ (List.getElem_mem hk4)
  rw [this] at hv; cases hv
 ·have h2 := Lib.cell_of_heap h k
  refine h2.trans ?_
  rw [List.getElem?_toArray, List.getElem?_map, List.getElem?_eq_getElem hk4]
  rfl
theorem sl_one {w : World} {X Z : Nat → Prop} {B : Nat} {t : Tm} {a : Option Addr} {c T : Nat} (hb : w.heap[B]? = some (.cells #[.string t.name, .slice a t.args.length c] T (0, 0))) (hB : X B) (hs : Sl w Z a t.args) (hZ : ∀ b, Z b → b < w.heap.size → X b) : Sl w X (some ⟨B, 0, none⟩) [t] := by
 refine ⟨by simp, Or.inr ⟨B, 0, rfl, lies_mk _ _ _ fun i hi => ?_⟩⟩
 simp at hi
 subst hi
 exact ⟨hB, by simp [World.cell?, hb], a, c, by simp [World.cell?, hb], hs.mono hZ⟩
theorem grow_one {nv : Nat} {w w5 : World} {Z : Nat → Prop} {s : ByteArray} {i m n T : Nat} {a5 : Option Addr} {c5 : Nat} {t5 : Tm} {v0 v1 : Value} {o1 : Obj} (hB : Below w.heap.size w w5) (hlt : w.heap.size < w5.heap.size) (hs : Sl w5 Z a5 t5.args) (hZ : ∀ b, Z b → w.heap.size < b) (hz : sizeL [t5] ≤ top m) (hm : 3 ≤ m + 1) (hn : i ≤ n) (hn' : n ≤ i + 1 + top m) (hes : okV nv [(⟨s, [t5]⟩ : Tm)]) :
  GrowPV nv w i (m + 1) (.returned (.tuple #[.agg #[.string s, .slice (some ⟨w5.heap.size + 1, 0, none⟩) 1 1], .int .i64 (n : Int)])) ((((w5.setCell ⟨w.heap.size, 0, none⟩ v0).setCell ⟨w.heap.size, 1, none⟩ v1).alloc o1).alloc (.cells #[.string t5.name, .slice a5 t5.args.length c5] T)) := by
 have ht := top_step hm
 have hb0 : Below w.heap.size w (((w5.setCell ⟨w.heap.size, 0, none⟩ v0).setCell ⟨w.heap.size, 1, none⟩ v1).alloc o1) := ((hB.setCell (by simp) _).setCell (by simp) _).alloc (by simp [World.setCell]; omega) _
 refine ⟨some ⟨w5.heap.size + 1, 0, none⟩, 1, n, ⟨s, [t5]⟩, rfl, ?_, by simp, by omega, by simp [sizeL] at hz ⊢; omega, hn, by omega, hb0.alloc hb0.size _, hes⟩
 have hnew := heap_alloc_new (((w5.setCell ⟨w.heap.size, 0, none⟩ v0).setCell ⟨w.heap.size, 1, none⟩ v1).alloc o1) (.cells #[.string t5.name, .slice a5 t5.args.length c5] T)
 have e : (((w5.setCell ⟨w.heap.size, 0, none⟩ v0).setCell ⟨w.heap.size, 1, none⟩ v1).alloc o1).heap.size = w5.heap.size + 1 := by simp [World.setCell]
 rw [e] at hnew
 refine sl_one hnew (by omega) ((hs.mono (Y := fun b => Z b ∧ b < w5.heap.size) fun b h1 h2 => ⟨h1, h2⟩).kept (w' := _) fun b hb => ?_) (fun b hb _ => by have := hZ b hb.1; omega)
 have := hZ b hb.1
 rw [Below.heap_alloc _ _ _ (by rw [e]; omega), Below.heap_alloc _ _ _ (by simp [World.setCell]; omega), Below.heap_setCell _ _ _ _ (by simp; omega), Below.heap_setCell _ _ _ _ (by simp; omega)]
section
variable {P : Program} {ops : Array Oper} {Q : Exit → Act → World → Prop} {md : Region.Mode}
theorem held_mono {S S' : World → Prop} (h : ∀ w, S' w → S w) : ∀ (fuel : Nat) (listed : Array Bool) (a : Act) (w : World), wpAnyH P md ops Q S' fuel listed a w → wpAnyH P md ops Q S fuel listed a w
 | 0, _, _, _, H => H
 | fuel + 1, listed, a, w, H => ⟨H.1, fun i hi => wpOp_mono (fun a' w' hh => ⟨h _ hh.1, held_mono h fuel _ a' w' hh.2⟩) (H.2 i hi)⟩
end
def TwoS (w5 w6 : World) (t5 t6 : Tm) (a5 a6 : Option Addr) (c5 c6 : Nat) (w' : World) : Prop :=
 Blk w' w5.heap.size #[.string t5.name, .slice a5 t5.args.length c5] 26 ∧ Blk w' w6.heap.size #[.string t6.name, .slice a6 t6.args.length c6] 26
def TwoF (w5 w6 : World) (t5 t6 : Tm) (a5 a6 : Option Addr) (c5 c6 : Nat) (b : Nat) (w' : World) : Prop :=
 TwoS w5 w6 t5 t6 a5 a6 c5 c6 w' ∧ Blk w' b #[.string ⟨#[102]⟩, .string ⟨#[103]⟩] 9
theorem TwoS.alloc {w5 w6 : World} {t5 t6 : Tm} {a5 a6 : Option Addr} {c5 c6 : Nat} {w' : World} (h : TwoS w5 w6 t5 t6 a5 a6 c5 c6 w') (o : Obj) : TwoS w5 w6 t5 t6 a5 a6 c5 c6 (w'.alloc o) := ⟨h.1.alloc o, h.2.alloc o⟩
theorem TwoF.alloc {w5 w6 : World} {t5 t6 : Tm} {a5 a6 : Option Addr} {c5 c6 b : Nat} {w' : World} (h : TwoF w5 w6 t5 t6 a5 a6 c5 c6 b w') (o : Obj) : TwoF w5 w6 t5 t6 a5 a6 c5 c6 b (w'.alloc o) := ⟨h.1.alloc o, h.2.alloc o⟩
theorem blk_at {w : World} {n : Nat} (h : w.heap.size = n) (cs : Array Value) (T : Nat) : Blk (w.alloc (.cells cs T)) n cs T := h ▸ Blk.new w cs T
theorem two_endA {w5 w6 : World} {t5 t6 : Tm} {a5 a6 : Option Addr} {c5 c6 b : Nat} (v0 v1 : Value) (A : Obj) (hX : Blk w6 w5.heap.size #[.string t5.name, .slice a5 t5.args.length c5] 26) (hne : w5.heap.size ≠ b) :
  TwoF w5 w6 t5 t6 a5 a6 c5 c6 (w6.heap.size + 1) (((((w6.setCell ⟨b, 0, none⟩ v0).setCell ⟨b, 1, none⟩ v1).alloc (.cells #[.string t6.name, .slice a6 t6.args.length c6] 26)).alloc (.cells #[.string ⟨#[102]⟩, .string ⟨#[103]⟩] 9)).alloc A) :=
 ⟨⟨(((((hX.setOther 0 v0 hne).setOther 1 v1 hne).alloc _).alloc _).alloc _), ((blk_at (by simp [World.setCell]) _ _).alloc _).alloc _⟩, (blk_at (by simp [World.setCell]) _ _).alloc _⟩
theorem two_endB {w5 w6 : World} {t5 t6 : Tm} {a5 a6 : Option Addr} {c5 c6 b : Nat} (v0 v1 : Value) (A : Obj) (hX : Blk w6 w5.heap.size #[.string t5.name, .slice a5 t5.args.length c5] 26) (hne : w5.heap.size ≠ b) :
  TwoF w5 w6 t5 t6 a5 a6 c5 c6 (w6.heap.size + 1 + 1) (((((w6.setCell ⟨b, 0, none⟩ v0).setCell ⟨b, 1, none⟩ v1).alloc (.cells #[.string t6.name, .slice a6 t6.args.length c6] 26)).alloc A).alloc (.cells #[.string ⟨#[102]⟩, .string ⟨#[103]⟩] 9)) :=
 ⟨⟨(((((hX.setOther 0 v0 hne).setOther 1 v1 hne).alloc _).alloc _).alloc _), ((blk_at (by simp [World.setCell]) _ _).alloc _).alloc _⟩, (blk_at (by simp [World.setCell]) _ _)⟩
theorem sl_two {w : World} {X Z5 Z6 : Nat → Prop} {B : Nat} {t5 t6 : Tm} {a5 a6 : Option Addr} {c5 c6 T : Nat} (hb : Blk w B #[.string t5.name, .slice a5 t5.args.length c5, .string t6.name, .slice a6 t6.args.length c6] T) (hB : X B) (h5 : Sl w Z5 a5 t5.args) (h6 : Sl w Z6 a6 t6.args) (hZ5 : ∀ b, Z5 b → b < w.heap.size → X b) (hZ6 : ∀ b, Z6 b → b < w.heap.size → X b) : Sl w X (some ⟨B, 0, none⟩) [t5, t6] := by
 refine ⟨by simp, Or.inr ⟨B, 0, rfl, lies_mk _ _ _ fun i hi => ?_⟩⟩
 have h01 : i = 0 ∨ i = 1 := by simp at hi; omega
 rcases h01 with rfl | rfl
 ·exact ⟨hB, hb.cell 0, a5, c5, hb.cell 1, h5.mono hZ5⟩
 ·exact ⟨hB, hb.cell 2, a6, c6, hb.cell 3, h6.mono hZ6⟩
theorem two_world {w w6 : World} {Z : Nat → Prop} {a : Option Addr} {l : List Tm} {v0 v1 : Value} {o1 o2 o3 : Obj} (hs : Sl w6 Z a l) (hZ : ∀ b, Z b → w.heap.size < b) : Sl (((((w6.setCell ⟨w.heap.size, 0, none⟩ v0).setCell ⟨w.heap.size, 1, none⟩ v1).alloc o1).alloc o2).alloc o3).drew (fun b => Z b ∧ b < w6.heap.size) a l := by
 refine (hs.mono (Y := fun b => Z b ∧ b < w6.heap.size) fun b h1 h2 => ⟨h1, h2⟩).kept fun b hb => ?_
 have := hZ b hb.1
 show ((((((w6.setCell ⟨w.heap.size, 0, none⟩ v0).setCell ⟨w.heap.size, 1, none⟩ v1).alloc o1).alloc o2).alloc o3)).heap[b]? = w6.heap[b]?
 rw [Below.heap_alloc _ _ _ (by simp [World.setCell]; omega), Below.heap_alloc _ _ _ (by simp [World.setCell]; omega), Below.heap_alloc _ _ _ (by simp [World.setCell]; omega), Below.heap_setCell _ _ _ _ (by simp; omega), Below.heap_setCell _ _ _ _ (by simp; omega)]
theorem grow_two {nv : Nat} {w w6 : World} {Z5 Z6 : Nat → Prop} {s : ByteArray} {i m n T bA : Nat} {a5 a6 : Option Addr} {c5 c6 : Nat} {t5 t6 : Tm} {v0 v1 : Value} {o1 o2 o3 : Obj} (hB : Below w.heap.size w w6) (hlt : w.heap.size < w6.heap.size) (h5 : Sl w6 Z5 a5 t5.args) (h6 : Sl w6 Z6 a6 t6.args) (hZ5 : ∀ b, Z5 b → w.heap.size < b) (hZ6 : ∀ b, Z6 b → w.heap.size < b) (hbig : i ≤ n ∧ n ≤ i + top (m + 1) ∧ sizeL [t5] + sizeL [t6] + 1 ≤ top (m + 1)) (hes : okV nv [(⟨s, [t5, t6]⟩ : Tm)]) (hbA : w6.heap.size < bA)
  (hA : Blk (((((w6.setCell ⟨w.heap.size, 0, none⟩ v0).setCell ⟨w.heap.size, 1, none⟩ v1).alloc o1).alloc o2).alloc o3).drew bA #[.string t5.name, .slice a5 t5.args.length c5, .string t6.name, .slice a6 t6.args.length c6] T) :
  GrowPV nv w i (m + 1) (.returned (.tuple #[.agg #[.string s, .slice (some ⟨bA, 0, none⟩) 2 2], .int .i64 (n : Int)])) (((((w6.setCell ⟨w.heap.size, 0, none⟩ v0).setCell ⟨w.heap.size, 1, none⟩ v1).alloc o1).alloc o2).alloc o3).drew := by
 have hb0 : Below w.heap.size w (((((w6.setCell ⟨w.heap.size, 0, none⟩ v0).setCell ⟨w.heap.size, 1, none⟩ v1).alloc o1).alloc o2).alloc o3) := ((((hB.setCell (by simp) _).setCell (by simp) _).alloc (by simp [World.setCell]; omega) _).alloc (by simp [World.setCell]; omega) _).alloc (by simp [World.setCell]; omega) _
 refine ⟨some ⟨bA, 0, none⟩, 2, n, ⟨s, [t5, t6]⟩, rfl, ?_, by simp, by omega, ?_, hbig.1, hbig.2.1, hb0.drew, hes⟩
 ·exact sl_two hA (by omega) (two_world h5 hZ5) (two_world h6 hZ6) (fun b hb _ => by have := hZ5 b hb.1; omega) (fun b hb _ => by have := hZ6 b hb.1; omega)
 ·have := hbig.2.2
  have e : sizeL [t5, t6] = sizeL [t5] + sizeL [t6] := sizeL_append [t5] [t6]
  have e2 : sizeL [⟨s, [t5, t6]⟩] = 1 + sizeL [t5, t6] := by simp [sizeL]
  omega
theorem two_up {w5 w6 : World} {t5 t6 : Tm} {a5 a6 : Option Addr} {c5 c6 b : Nat} {w' : World} (h : TwoS w5 w6 t5 t6 a5 a6 c5 c6 w') (hF : Blk w' b #[.string ⟨#[102]⟩, .string ⟨#[103]⟩] 9) : TwoF w5 w6 t5 t6 a5 a6 c5 c6 b w' := ⟨h, hF⟩
set_option maxHeartbeats 8000000 in
theorem growV_any (nv : Nat) (hnv : 1 ≤ nv) (hnv4 : nv ≤ 4) (zs : List Int) (hr : ∀ z ∈ zs, Rng z) (hzl : zs.length ≤ 1000000) : ∀ (m i : Nat) (u : Value) (w : World) (X : Nat → Prop), PV w X u zs → m ≤ 100 → i + top m ≤ 1000 →
  Calls Tryz.prog 6 #[u, .int .i64 (i : Int), .int .i64 (m : Int), .int .i64 (nv : Int)] w fun e w' => GrowPV nv w i m e w' := by
 have hnvI : (0 : Int) < (nv : Int) := by omega
 intro m
 induction m using Nat.strongRecOn with
 | ind m ih =>
  intro i u w X hu hm hi
  have IH := hide ih
  clear ih
  have HU := hide hu
  clear hu
  go_enter Tryz.func6, Tryz.ntmps6
  go_wp2_with fail
  refine (raw_any zs _ _ X (by exact HU.out.alloc _) hr i (by omega) hzl).mono ?_
  rintro e w1 ⟨c, rfl, hc, hb1⟩
  have B1 := hide (((Below.refl w.heap.size w).alloc (Nat.le_refl _) (.cells #[.string ⟨#[]⟩, .slice none 0 0] 26)).trans (hb1.mono (by simp)))
  have R1 := hide ((Blk.new w #[.string ⟨#[]⟩, .slice none 0 0] 26).below hb1 (by simp))
  clear hb1
  by_cases h3 : m < 3
  ·go_wp2_with fail
   refine (pick_any _ 3 (by decide) (by decide) ⟨by omega, by omega⟩ _).mono ?_
   rintro e w2 ⟨k2, rfl, hk2, rfl⟩
   by_cases h2 : 0 < k2
   ·go_wp2_with fail
    refine (pick_any _ nv (by omega) (by omega) ⟨by omega, by omega⟩ _).mono ?_
    rintro e w3 ⟨k3, rfl, hk3, rfl⟩
    obtain ⟨s5, hes5, hs5⟩ := pick_var w2 9 k3 nv hk3 hnv4
    have hs6 : (w2.alloc (.cells #[.string ⟨#[88]⟩, .string ⟨#[89]⟩, .string ⟨#[90]⟩, .string ⟨#[85]⟩] 9)).cell? ⟨w2.heap.size, k3, none⟩ = some (.string s5) := hs5
    have hk4 : (k3 : Int) < 4 := by omega
    clear hs5
    go_wp2_with fail
    refine (leaf_any _ _).mono ?_
    rintro e w4 ⟨rfl, hb4⟩
    have R4 := hide ((R1.out.alloc _).below hb4 (by have := R1.out.lt; simp; omega))
    have B4 := hide ((B1.out.alloc B1.out.size _).trans (hb4.mono (by have := B1.out.size; simp; omega)))
    clear hb4 hs6
    have r0 := R4.out.c0
    have r1 := R4.out.c1
    have rf := R4.out.frozen
    go_wp2_with fail
    have q0 := ((R4.out.set 0 (.string s5)).set 1 (.slice none 0 0)).cell 0
    have q1 := ((R4.out.set 0 (.string s5)).set 1 (.slice none 0 0)).cell 1
    refine bodyPost_ret (v := .tuple #[.agg #[.string s5, .slice none 0 0], .int .i64 ((i : Int) + 1)]) (by simp [results, Tryz.results6, go_sem, q0, q1, World.cell?_setCell_same, World.cell?_setCell_other, r0, r1]) rfl ?_
    exact grow_leaf hes5 ((B4.out.setCell (by simp) _).setCell (by simp) _)
   ·go_wp2_with fail
    refine (pick_any _ 3 (by decide) (by decide) ⟨by omega, by omega⟩ _).mono ?_
    rintro e w3 ⟨k3, rfl, hk3, rfl⟩
    obtain ⟨s5, hes5, hs5⟩ := pick_const w2 9 k3 nv hk3
    have hs6 : (w2.alloc (.cells #[.string ⟨#[97]⟩, .string ⟨#[98]⟩, .string ⟨#[99]⟩] 9)).cell? ⟨w2.heap.size, k3, none⟩ = some (.string s5) := hs5
    have hk4 : (k3 : Int) < 3 := by omega
    clear hs5
    go_wp2_with fail
    refine (leaf_any _ _).mono ?_
    rintro e w4 ⟨rfl, hb4⟩
    have R4 := hide ((R1.out.alloc _).below hb4 (by have := R1.out.lt; simp; omega))
    have B4 := hide ((B1.out.alloc B1.out.size _).trans (hb4.mono (by have := B1.out.size; simp; omega)))
    clear hb4 hs6
    have r0 := R4.out.c0
    have r1 := R4.out.c1
    have rf := R4.out.frozen
    go_wp2_with fail
    have q0 := ((R4.out.set 0 (.string s5)).set 1 (.slice none 0 0)).cell 0
    have q1 := ((R4.out.set 0 (.string s5)).set 1 (.slice none 0 0)).cell 1
    refine bodyPost_ret (v := .tuple #[.agg #[.string s5, .slice none 0 0], .int .i64 ((i : Int) + 1)]) (by simp [results, Tryz.results6, go_sem, q0, q1, World.cell?_setCell_same, World.cell?_setCell_other, r0, r1]) rfl ?_
    exact grow_leaf hes5 ((B4.out.setCell (by simp) _).setCell (by simp) _)
  ·go_wp2_with fail
   refine (pick_any _ 5 (by decide) (by decide) ⟨by omega, by omega⟩ _).mono ?_
   rintro e w1b ⟨k1, rfl, hk1, rfl⟩
   by_cases h1 : k1 < 2
   ·go_wp2_with fail
    refine (pick_any _ 3 (by decide) (by decide) ⟨by omega, by omega⟩ _).mono ?_
    rintro e w2 ⟨k2, rfl, hk2, rfl⟩
    by_cases h2 : 0 < k2
    ·go_wp2_with fail
     refine (pick_any _ nv (by omega) (by omega) ⟨by omega, by omega⟩ _).mono ?_
     rintro e w3 ⟨k3, rfl, hk3, rfl⟩
     obtain ⟨s5, hes5, hs5⟩ := pick_var w2 9 k3 nv hk3 hnv4
     have hs6 : (w2.alloc (.cells #[.string ⟨#[88]⟩, .string ⟨#[89]⟩, .string ⟨#[90]⟩, .string ⟨#[85]⟩] 9)).cell? ⟨w2.heap.size, k3, none⟩ = some (.string s5) := hs5
     have hk4 : (k3 : Int) < 4 := by omega
     clear hs5
     go_wp2_with fail
     refine (leaf_any _ _).mono ?_
     rintro e w4 ⟨rfl, hb4⟩
     have R4 := hide ((R1.out.alloc _).below hb4 (by have := R1.out.lt; simp; omega))
     have B4 := hide ((B1.out.alloc B1.out.size _).trans (hb4.mono (by have := B1.out.size; simp; omega)))
     clear hb4 hs6
     have r0 := R4.out.c0
     have r1 := R4.out.c1
     have rf := R4.out.frozen
     go_wp2_with fail
     have q0 := ((R4.out.set 0 (.string s5)).set 1 (.slice none 0 0)).cell 0
     have q1 := ((R4.out.set 0 (.string s5)).set 1 (.slice none 0 0)).cell 1
     refine bodyPost_ret (v := .tuple #[.agg #[.string s5, .slice none 0 0], .int .i64 ((i : Int) + 1)]) (by simp [results, Tryz.results6, go_sem, q0, q1, World.cell?_setCell_same, World.cell?_setCell_other, r0, r1]) rfl ?_
     exact grow_leaf hes5 ((B4.out.setCell (by simp) _).setCell (by simp) _)
    ·go_wp2_with fail
     refine (pick_any _ 3 (by decide) (by decide) ⟨by omega, by omega⟩ _).mono ?_
     rintro e w3 ⟨k3, rfl, hk3, rfl⟩
     obtain ⟨s5, hes5, hs5⟩ := pick_const w2 9 k3 nv hk3
     have hs6 : (w2.alloc (.cells #[.string ⟨#[97]⟩, .string ⟨#[98]⟩, .string ⟨#[99]⟩] 9)).cell? ⟨w2.heap.size, k3, none⟩ = some (.string s5) := hs5
     have hk4 : (k3 : Int) < 3 := by omega
     clear hs5
     go_wp2_with fail
     refine (leaf_any _ _).mono ?_
     rintro e w4 ⟨rfl, hb4⟩
     have R4 := hide ((R1.out.alloc _).below hb4 (by have := R1.out.lt; simp; omega))
     have B4 := hide ((B1.out.alloc B1.out.size _).trans (hb4.mono (by have := B1.out.size; simp; omega)))
     clear hb4 hs6
     have r0 := R4.out.c0
     have r1 := R4.out.c1
     have rf := R4.out.frozen
     go_wp2_with fail
     have q0 := ((R4.out.set 0 (.string s5)).set 1 (.slice none 0 0)).cell 0
     have q1 := ((R4.out.set 0 (.string s5)).set 1 (.slice none 0 0)).cell 1
     refine bodyPost_ret (v := .tuple #[.agg #[.string s5, .slice none 0 0], .int .i64 ((i : Int) + 1)]) (by simp [results, Tryz.results6, go_sem, q0, q1, World.cell?_setCell_same, World.cell?_setCell_other, r0, r1]) rfl ?_
     exact grow_leaf hes5 ((B4.out.setCell (by simp) _).setCell (by simp) _)
   ·go_wp2_with fail
    refine (pick_eq ((c : Int) / 5) 4 (by decide) (by decide) ⟨by omega, by omega⟩ _).mono ?_
    rintro e w2 ⟨rfl, rfl⟩
    have hk4 := pickN_lt ((c : Int) / 5) 4 (by decide)
    generalize hke : pickN ((c : Int) / 5) 4 = k4 at *
    have HKE := hide hke
    clear hke
    obtain ⟨m, rfl⟩ : ∃ m', m = m' + 1 := ⟨m - 1, by omega⟩
    by_cases h40 : k4 = 0
    ·subst h40
     go_wp2_with fail
     refine (IH.out m (by omega) (i + 1) _ _ X (by exact HU.out.later B1.out) (by omega) (by have := top_step (m := m) (by omega); omega)).mono ?_
     rintro e w5 ⟨a5, c5, n5, t5, rfl, hs5, hc5, hc5', hz5, hn5, hn5', hb5, he5⟩
     have R5 := hide (R1.out.below hb5 R1.out.lt)
     have B5 := hide (B1.out.trans (hb5.mono B1.out.size))
     have S5 := hide hs5
     have HE5 := hide he5
     clear he5
     have hlt5 : w.heap.size < w5.heap.size := R5.out.lt
     clear hb5 hs5
     have r0 := R5.out.c0
     have r1 := R5.out.c1
     have rf := R5.out.frozen
     go_wp2_with fail
     refine bodyPost_ret (v := .tuple #[.agg #[.string ⟨#[104]⟩, .slice (some ⟨w5.heap.size + 1, 0, none⟩) 1 1], .int .i64 (n5 : Int)]) (by simp [results, Tryz.results6, go_sem, World.cell?_setCell_same, World.cell?_setCell_other, r0, r1, hlt5, World.cell?_alloc_old]) rfl ?_
     exact grow_one B5.out hlt5 S5.out (fun b hb => Nat.lt_of_lt_of_le R1.out.lt hb) hz5 (by omega) (by omega) (by omega) (ok_node (by decide) (by decide) HE5.out)
    ·by_cases h41 : k4 = 1
     ·subst h41
      go_wp2_with fail
      refine (IH.out m (by omega) (i + 1) _ _ X (by exact HU.out.later B1.out) (by omega) (by have := top_step (m := m) (by omega); omega)).mono ?_
      rintro e w5 ⟨a5, c5, n5, t5, rfl, hs5, hc5, hc5', hz5, hn5, hn5', hb5, he5⟩
      have R5 := hide (R1.out.below hb5 R1.out.lt)
      have B5 := hide (B1.out.trans (hb5.mono B1.out.size))
      have S5 := hide hs5
      have HE5 := hide he5
      clear he5
      have hlt5 : w.heap.size < w5.heap.size := R5.out.lt
      clear hb5 hs5
      have r0 := R5.out.c0
      have r1 := R5.out.c1
      have rf := R5.out.frozen
      go_wp2_with fail
      refine bodyPost_ret (v := .tuple #[.agg #[.string ⟨#[107]⟩, .slice (some ⟨w5.heap.size + 1, 0, none⟩) 1 1], .int .i64 (n5 : Int)]) (by simp [results, Tryz.results6, go_sem, World.cell?_setCell_same, World.cell?_setCell_other, r0, r1, hlt5, World.cell?_alloc_old]) rfl ?_
      exact grow_one B5.out hlt5 S5.out (fun b hb => Nat.lt_of_lt_of_le R1.out.lt hb) hz5 (by omega) (by omega) (by omega) (ok_node (by decide) (by decide) HE5.out)
     ·have h42 : 2 ≤ k4 := by omega
      obtain ⟨h, hh, hh2⟩ : ∃ h : Nat, ((m : Int) + 1) / 2 = h ∧ h = (m + 1) / 2 := ⟨(m + 1) / 2, by omega, rfl⟩
      have hth := top_half (m := m) (by omega) hh2
      have HH2 := hide hh2
      have hhb : h < m + 1 ∧ h ≤ 100 := by omega
      clear hh2
      go_wp2_with fail
      refine (IH.out h (by omega) (i + 1) _ _ X (by exact HU.out.later B1.out) (by omega) (by omega)).mono ?_
      rintro e w5 ⟨a5, c5, n5, t5, rfl, hs5, hc5, hc5', hz5, hn5, hn5', hb5, he5⟩
      have R5 := hide (R1.out.below hb5 R1.out.lt)
      have B5 := hide (B1.out.trans (hb5.mono B1.out.size))
      have S5 := hide hs5
      have HE5 := hide he5
      clear he5
      have X5 := hide (Blk.new w5 #[.string t5.name, .slice a5 t5.args.length c5] 26)
      have hlt5 : w.heap.size < w5.heap.size := R5.out.lt
      clear hb5 hs5
      go_wp2_with fail
      refine (IH.out h (by omega) n5 _ _ X (by exact HU.out.later (B5.out.alloc B5.out.size _)) (by omega) (by omega)).mono ?_
      rintro e w6 ⟨a6, c6, n6, t6, rfl, hs6, hc6, hc6', hz6, hn6, hn6', hb6, he6⟩
      have R6 := hide ((R5.out.alloc _).below hb6 (by simp; omega))
      have X6 := hide (X5.out.below hb6 (by simp))
      have B6 := hide ((B5.out.alloc B5.out.size _).trans (hb6.mono (by have := B5.out.size; simp; omega)))
      have S56 := hide ((S5.out.later ((Below.refl w5.heap.size w5).alloc (Nat.le_refl _) _)).later hb6)
      have S6 := hide hs6
      have HE6 := hide he6
      clear he6
      have hlt6 : w5.heap.size < w6.heap.size := X6.out.lt
      clear hb6 hs6
      go_wp2_with fail
      have Y6 := hide (Blk.new w6 #[.string t6.name, .slice a6 t6.args.length c6] 26)
      have x0 : ∀ o, (w6.alloc o).cell? ⟨w5.heap.size, 0, none⟩ = some (.string t5.name) := fun o => (X6.out.alloc o).cell 0
      have x1 : ∀ o, (w6.alloc o).cell? ⟨w5.heap.size, 1, none⟩ = some (.slice a5 t5.args.length c5) := fun o => (X6.out.alloc o).cell 1
      have y0 := Y6.out.cell 0
      have y1 := Y6.out.cell 1
      have r0 := R6.out.c0
      have r1 := R6.out.c1
      have rf := R6.out.frozen
      have HWR : Hid (IntKind.i64.wrap ((c : Int) / 5) = (c : Int) / 5) := wrapI _ ⟨by omega, by omega⟩
      have HPK : Hid (∀ w', Calls Tryz.prog 5 #[.int .i64 (IntKind.i64.wrap ((c : Int) / 5)), .int .i64 4] w' fun e w'' => e = .returned (.int .i64 (k4 : Int)) ∧ w'' = w') := fun w' => by
       have h1 := pick_eq ((c : Int) / 5) 4 (by decide) (by decide) ⟨by omega, by omega⟩ w'
       rw [HKE.out] at h1
       rw [HWR.out]
       exact h1
      have HBIG : Hid (i ≤ n6 ∧ n6 ≤ i + top (m + 1) ∧ sizeL [t5] + sizeL [t6] + 1 ≤ top (m + 1)) := ⟨by omega, by omega, by omega⟩
      have hw0 : IntKind.i64.wrap 0 = 0 := by decide
      have hw1 : IntKind.i64.wrap 1 = 1 := by decide
      have hlt56 : w.heap.size < w6.heap.size := by omega
      have hlt57 : w.heap.size < w6.heap.size + 1 := by omega
      have hlt58 : w.heap.size < w6.heap.size + 1 + 1 := by omega
      have r30 : ∀ o1 o2 o3, (((w6.alloc o1).alloc o2).alloc o3).cell? ⟨w.heap.size, 0, none⟩ = some (.string ⟨#[]⟩) := fun o1 o2 o3 => (((R6.out.alloc o1).alloc o2).alloc o3).cell 0
      have r31 : ∀ o1 o2 o3, (((w6.alloc o1).alloc o2).alloc o3).cell? ⟨w.heap.size, 1, none⟩ = some (.slice none 0 0) := fun o1 o2 o3 => (((R6.out.alloc o1).alloc o2).alloc o3).cell 1
      have r3f : ∀ o1 o2 o3 i, (((w6.alloc o1).alloc o2).alloc o3).frozen? ⟨w.heap.size, i, none⟩ = false := fun o1 o2 o3 => (((R6.out.alloc o1).alloc o2).alloc o3).frozen
      have HZ6 : Hid (∀ b, (w5.alloc (.cells #[.string t5.name, .slice a5 t5.args.length c5] 26)).heap.size ≤ b → w.heap.size < b) := fun b hb => by
       simp at hb
       omega
      obtain rfl | rfl : k4 = 2 ∨ k4 = 3 := by omega
      ·clear hth hhb hh hn6 hn6' hz6 hz5 hn5 hn5' hc5 hc5' hc6 hc6' hi hm hc hr hzl h42 h41 h40 hk4 h1 hk1 h3
       have HS0 : TwoS w5 w6 t5 t6 a5 a6 c5 c6 (w6.alloc (.cells #[.string t6.name, .slice a6 t6.args.length c6] 26)).drew := ⟨X6.out.alloc _, Y6.out⟩
       refine wp_region_held_drew (S := TwoS w5 w6 t5 t6 a5 a6 c5 c6) (by kernel_rfl) HS0 (fun hHeld => ?_)
       refine tkq (v := ?_) 1 rfl ?_ ?_
       rotate_left
       ·intro w' hSw
        go_simp <;> with_reducible rfl
       try simp only [Act.put, sq]
       refine tkq (v := ?_) 2 rfl ?_ ?_
       rotate_left
       ·intro w' hSw
        go_simp <;> with_reducible rfl
       try simp only [Act.put, sq]
       refine tkq (v := ?_) 7 rfl ?_ ?_
       rotate_left
       ·intro w' hSw
        have k0 : w'.cell? ⟨w5.heap.size, 0, none⟩ = some (.string t5.name) := hSw.1.cell 0
        have k1 : w'.cell? ⟨w5.heap.size, 1, none⟩ = some (.slice a5 t5.args.length c5) := hSw.1.cell 1
        go_simp <;> with_reducible rfl
       try simp only [Act.put, sq]
       refine tkq (v := ?_) 8 rfl ?_ ?_
       rotate_left
       ·intro w' hSw
        have k2 : w'.cell? ⟨w6.heap.size, 0, none⟩ = some (.string t6.name) := hSw.2.cell 0
        have k3 : w'.cell? ⟨w6.heap.size, 1, none⟩ = some (.slice a6 t6.args.length c6) := hSw.2.cell 1
        go_simp <;> with_reducible rfl
       try simp only [Act.put, sq]
       refine tkq (v := ?_) 11 rfl ?_ ?_
       rotate_left
       ·intro w' hSw
        go_simp <;> with_reducible rfl
       try simp only [Act.put, sq]
       refine wpAnyH_ready (rs := [0, 3, 9]) (by kernel_rfl) (by simp) ?_
       refine AllReadyH.cons rfl (fun K hK => ?_) (AllReadyH.cons rfl (fun K hK => ?_) (AllReadyH.cons rfl (fun K hK => ?_) AllReadyH.nil))
       ·go_simp
        refine hK.out _ _ (by exact hHeld.alloc _) (fun hHeld => ?_)
        clear hK K
        try simp only [Act.put, sq]
        refine held_mono (S' := TwoF w5 w6 t5 t6 a5 a6 c5 c6 (w6.heap.size + 1)) (fun _ h => h.1) _ _ _ _ ?_
        replace hHeld := two_up (b := w6.heap.size + 1) hHeld (by exact blk_at (w := w6.alloc (.cells #[.string t6.name, .slice a6 t6.args.length c6] 26)) (by simp) _ _)
        refine wpAnyH_ready (rs := [3, 9]) (by kernel_rfl) (by simp) ?_
        refine AllReadyH.cons rfl (fun K hK => ?_) (AllReadyH.cons rfl (fun K hK => ?_) AllReadyH.nil)
        ·go_simp
         go_at_call 5
         refine (HPK.out _).mono ?_
         rintro e w7 ⟨rfl, rfl⟩
         go_simp
         refine hK.out _ _ (by exact hHeld) (fun hHeld => ?_)
         clear hK K
         try simp only [Act.put, sq]
         refine tkq (v := ?_) 4 rfl ?_ ?_
         rotate_left
         ·intro w' hSw
          go_simp <;> with_reducible rfl
         try simp only [Act.put, sq]
         refine tkq (v := ?_) 5 rfl ?_ ?_
         rotate_left
         ·intro w' hSw
          go_simp <;> with_reducible rfl
         try simp only [Act.put, sq]
         refine tkq (v := ?_) 6 rfl ?_ ?_
         rotate_left
         ·intro w' hSw
          have k4 : w'.cell? ⟨w6.heap.size + 1, 0, none⟩ = some (.string ⟨#[102]⟩) := hSw.2.cell 0
          have k5 : w'.cell? ⟨w6.heap.size + 1, 1, none⟩ = some (.string ⟨#[103]⟩) := hSw.2.cell 1
          go_simp <;> with_reducible rfl
         try simp only [Act.put, sq]
         refine rdq 9 rfl fun K hK => ?_
         ·go_simp
          refine hK.out _ _ (by exact hHeld.alloc _) (fun hHeld => ?_)
          clear hK K
          try simp only [Act.put, sq]
          refine tkq (v := ?_) 10 rfl ?_ ?_
          rotate_left
          ·intro w' hSw
           go_simp <;> with_reducible rfl
          try simp only [Act.put, sq]
          refine rdq 12 rfl fun K hK => ?_
          ·go_simp
           refine hK.out _ _ (by exact two_endA _ _ _ X6.out (Nat.ne_of_gt hlt5)) (fun hHeld => ?_)
           clear hK K
           try simp only [Act.put, sq]
           refine tkq (v := ?_) 13 rfl ?_ ?_
           rotate_left
           ·intro w' hSw
            go_simp <;> with_reducible rfl
           try simp only [Act.put, sq]
           refine wpAnyH_done (by kernel_rfl) ?_ _
           go_wp2_with fail
           refine bodyPost_ret (v := .tuple #[.agg #[.string ⟨#[102]⟩, .slice (some ⟨w6.heap.size + 1 + 1, 0, none⟩) 2 2], .int .i64 (n6 : Int)]) (by simp [results, Tryz.results6, go_sem, World.cell?_setCell_same, World.cell?_setCell_other, r0, r1, hlt56, hlt57, hlt58, World.cell?_alloc_old]) rfl ?_
           exact grow_two B6.out hlt56 S56.out S6.out (fun b hb => Nat.lt_of_lt_of_le R1.out.lt hb) HZ6.out HBIG.out (ok_node (by decide) (by decide) (ok_two HE5.out HE6.out)) (by omega) (by exact blk_at (by simp [World.setCell]) _ _)
        ·go_simp
         refine hK.out _ _ (by exact hHeld.alloc _) (fun hHeld => ?_)
         clear hK K
         try simp only [Act.put, sq]
         refine rdq 3 rfl fun K hK => ?_
         ·go_simp
          go_at_call 5
          refine (HPK.out _).mono ?_
          rintro e w7 ⟨rfl, rfl⟩
          go_simp
          refine hK.out _ _ (by exact hHeld) (fun hHeld => ?_)
          clear hK K
          try simp only [Act.put, sq]
          refine tkq (v := ?_) 4 rfl ?_ ?_
          rotate_left
          ·intro w' hSw
           go_simp <;> with_reducible rfl
          try simp only [Act.put, sq]
          refine tkq (v := ?_) 5 rfl ?_ ?_
          rotate_left
          ·intro w' hSw
           go_simp <;> with_reducible rfl
          try simp only [Act.put, sq]
          refine tkq (v := ?_) 6 rfl ?_ ?_
          rotate_left
          ·intro w' hSw
           have k4 : w'.cell? ⟨w6.heap.size + 1, 0, none⟩ = some (.string ⟨#[102]⟩) := hSw.2.cell 0
           have k5 : w'.cell? ⟨w6.heap.size + 1, 1, none⟩ = some (.string ⟨#[103]⟩) := hSw.2.cell 1
           go_simp <;> with_reducible rfl
          try simp only [Act.put, sq]
          refine tkq (v := ?_) 10 rfl ?_ ?_
          rotate_left
          ·intro w' hSw
           go_simp <;> with_reducible rfl
          try simp only [Act.put, sq]
          refine rdq 12 rfl fun K hK => ?_
          ·go_simp
           refine hK.out _ _ (by exact two_endA _ _ _ X6.out (Nat.ne_of_gt hlt5)) (fun hHeld => ?_)
           clear hK K
           try simp only [Act.put, sq]
           refine tkq (v := ?_) 13 rfl ?_ ?_
           rotate_left
           ·intro w' hSw
            go_simp <;> with_reducible rfl
           try simp only [Act.put, sq]
           refine wpAnyH_done (by kernel_rfl) ?_ _
           go_wp2_with fail
           refine bodyPost_ret (v := .tuple #[.agg #[.string ⟨#[102]⟩, .slice (some ⟨w6.heap.size + 1 + 1, 0, none⟩) 2 2], .int .i64 (n6 : Int)]) (by simp [results, Tryz.results6, go_sem, World.cell?_setCell_same, World.cell?_setCell_other, r0, r1, hlt56, hlt57, hlt58, World.cell?_alloc_old]) rfl ?_
           exact grow_two B6.out hlt56 S56.out S6.out (fun b hb => Nat.lt_of_lt_of_le R1.out.lt hb) HZ6.out HBIG.out (ok_node (by decide) (by decide) (ok_two HE5.out HE6.out)) (by omega) (by exact blk_at (by simp [World.setCell]) _ _)
       ·go_simp
        go_at_call 5
        refine (HPK.out _).mono ?_
        rintro e w7 ⟨rfl, rfl⟩
        go_simp
        refine hK.out _ _ (by exact hHeld) (fun hHeld => ?_)
        clear hK K
        try simp only [Act.put, sq]
        refine tkq (v := ?_) 4 rfl ?_ ?_
        rotate_left
        ·intro w' hSw
         go_simp <;> with_reducible rfl
        try simp only [Act.put, sq]
        refine wpAnyH_ready (rs := [0, 9]) (by kernel_rfl) (by simp) ?_
        refine AllReadyH.cons rfl (fun K hK => ?_) (AllReadyH.cons rfl (fun K hK => ?_) AllReadyH.nil)
        ·go_simp
         refine hK.out _ _ (by exact hHeld.alloc _) (fun hHeld => ?_)
         clear hK K
         try simp only [Act.put, sq]
         refine held_mono (S' := TwoF w5 w6 t5 t6 a5 a6 c5 c6 (w6.heap.size + 1)) (fun _ h => h.1) _ _ _ _ ?_
         replace hHeld := two_up (b := w6.heap.size + 1) hHeld (by exact blk_at (w := w6.alloc (.cells #[.string t6.name, .slice a6 t6.args.length c6] 26)) (by simp) _ _)
         refine tkq (v := ?_) 5 rfl ?_ ?_
         rotate_left
         ·intro w' hSw
          go_simp <;> with_reducible rfl
         try simp only [Act.put, sq]
         refine tkq (v := ?_) 6 rfl ?_ ?_
         rotate_left
         ·intro w' hSw
          have k4 : w'.cell? ⟨w6.heap.size + 1, 0, none⟩ = some (.string ⟨#[102]⟩) := hSw.2.cell 0
          have k5 : w'.cell? ⟨w6.heap.size + 1, 1, none⟩ = some (.string ⟨#[103]⟩) := hSw.2.cell 1
          go_simp <;> with_reducible rfl
         try simp only [Act.put, sq]
         refine rdq 9 rfl fun K hK => ?_
         ·go_simp
          refine hK.out _ _ (by exact hHeld.alloc _) (fun hHeld => ?_)
          clear hK K
          try simp only [Act.put, sq]
          refine tkq (v := ?_) 10 rfl ?_ ?_
          rotate_left
          ·intro w' hSw
           go_simp <;> with_reducible rfl
          try simp only [Act.put, sq]
          refine rdq 12 rfl fun K hK => ?_
          ·go_simp
           refine hK.out _ _ (by exact two_endA _ _ _ X6.out (Nat.ne_of_gt hlt5)) (fun hHeld => ?_)
           clear hK K
           try simp only [Act.put, sq]
           refine tkq (v := ?_) 13 rfl ?_ ?_
           rotate_left
           ·intro w' hSw
            go_simp <;> with_reducible rfl
           try simp only [Act.put, sq]
           refine wpAnyH_done (by kernel_rfl) ?_ _
           go_wp2_with fail
           refine bodyPost_ret (v := .tuple #[.agg #[.string ⟨#[102]⟩, .slice (some ⟨w6.heap.size + 1 + 1, 0, none⟩) 2 2], .int .i64 (n6 : Int)]) (by simp [results, Tryz.results6, go_sem, World.cell?_setCell_same, World.cell?_setCell_other, r0, r1, hlt56, hlt57, hlt58, World.cell?_alloc_old]) rfl ?_
           exact grow_two B6.out hlt56 S56.out S6.out (fun b hb => Nat.lt_of_lt_of_le R1.out.lt hb) HZ6.out HBIG.out (ok_node (by decide) (by decide) (ok_two HE5.out HE6.out)) (by omega) (by exact blk_at (by simp [World.setCell]) _ _)
        ·go_simp
         refine hK.out _ _ (by exact hHeld.alloc _) (fun hHeld => ?_)
         clear hK K
         try simp only [Act.put, sq]
         refine rdq 0 rfl fun K hK => ?_
         ·go_simp
          refine hK.out _ _ (by exact hHeld.alloc _) (fun hHeld => ?_)
          clear hK K
          try simp only [Act.put, sq]
          refine held_mono (S' := TwoF w5 w6 t5 t6 a5 a6 c5 c6 (w6.heap.size + 1 + 1)) (fun _ h => h.1) _ _ _ _ ?_
          replace hHeld := two_up (b := w6.heap.size + 1 + 1) hHeld (by exact blk_at (w := (w6.alloc (.cells #[.string t6.name, .slice a6 t6.args.length c6] 26)).alloc (.cells #[.string t5.name, .slice a5 t5.args.length c5, .string t6.name, .slice a6 t6.args.length c6] 26)) (by simp) _ _)
          refine tkq (v := ?_) 5 rfl ?_ ?_
          rotate_left
          ·intro w' hSw
           go_simp <;> with_reducible rfl
          try simp only [Act.put, sq]
          refine tkq (v := ?_) 6 rfl ?_ ?_
          rotate_left
          ·intro w' hSw
           have k4 : w'.cell? ⟨w6.heap.size + 1 + 1, 0, none⟩ = some (.string ⟨#[102]⟩) := hSw.2.cell 0
           have k5 : w'.cell? ⟨w6.heap.size + 1 + 1, 1, none⟩ = some (.string ⟨#[103]⟩) := hSw.2.cell 1
           go_simp <;> with_reducible rfl
          try simp only [Act.put, sq]
          refine tkq (v := ?_) 10 rfl ?_ ?_
          rotate_left
          ·intro w' hSw
           go_simp <;> with_reducible rfl
          try simp only [Act.put, sq]
          refine rdq 12 rfl fun K hK => ?_
          ·go_simp
           refine hK.out _ _ (by exact two_endB _ _ _ X6.out (Nat.ne_of_gt hlt5)) (fun hHeld => ?_)
           clear hK K
           try simp only [Act.put, sq]
           refine tkq (v := ?_) 13 rfl ?_ ?_
           rotate_left
           ·intro w' hSw
            go_simp <;> with_reducible rfl
           try simp only [Act.put, sq]
           refine wpAnyH_done (by kernel_rfl) ?_ _
           go_wp2_with fail
           refine bodyPost_ret (v := .tuple #[.agg #[.string ⟨#[102]⟩, .slice (some ⟨w6.heap.size + 1, 0, none⟩) 2 2], .int .i64 (n6 : Int)]) (by simp [results, Tryz.results6, go_sem, World.cell?_setCell_same, World.cell?_setCell_other, r0, r1, hlt56, hlt57, hlt58, World.cell?_alloc_old]) rfl ?_
           exact grow_two B6.out hlt56 S56.out S6.out (fun b hb => Nat.lt_of_lt_of_le R1.out.lt hb) HZ6.out HBIG.out (ok_node (by decide) (by decide) (ok_two HE5.out HE6.out)) (by omega) (by exact (blk_at (by simp [World.setCell]) _ _).alloc _)
       ·go_simp
        refine hK.out _ _ (by exact hHeld.alloc _) (fun hHeld => ?_)
        clear hK K
        try simp only [Act.put, sq]
        refine wpAnyH_ready (rs := [0, 3]) (by kernel_rfl) (by simp) ?_
        refine AllReadyH.cons rfl (fun K hK => ?_) (AllReadyH.cons rfl (fun K hK => ?_) AllReadyH.nil)
        ·go_simp
         refine hK.out _ _ (by exact hHeld.alloc _) (fun hHeld => ?_)
         clear hK K
         try simp only [Act.put, sq]
         refine held_mono (S' := TwoF w5 w6 t5 t6 a5 a6 c5 c6 (w6.heap.size + 1 + 1)) (fun _ h => h.1) _ _ _ _ ?_
         replace hHeld := two_up (b := w6.heap.size + 1 + 1) hHeld (by exact blk_at (w := (w6.alloc (.cells #[.string t6.name, .slice a6 t6.args.length c6] 26)).alloc (.cells #[.string t5.name, .slice a5 t5.args.length c5, .string t6.name, .slice a6 t6.args.length c6] 26)) (by simp) _ _)
         refine rdq 3 rfl fun K hK => ?_
         ·go_simp
          go_at_call 5
          refine (HPK.out _).mono ?_
          rintro e w7 ⟨rfl, rfl⟩
          go_simp
          refine hK.out _ _ (by exact hHeld) (fun hHeld => ?_)
          clear hK K
          try simp only [Act.put, sq]
          refine tkq (v := ?_) 4 rfl ?_ ?_
          rotate_left
          ·intro w' hSw
           go_simp <;> with_reducible rfl
          try simp only [Act.put, sq]
          refine tkq (v := ?_) 5 rfl ?_ ?_
          rotate_left
          ·intro w' hSw
           go_simp <;> with_reducible rfl
          try simp only [Act.put, sq]
          refine tkq (v := ?_) 6 rfl ?_ ?_
          rotate_left
          ·intro w' hSw
           have k4 : w'.cell? ⟨w6.heap.size + 1 + 1, 0, none⟩ = some (.string ⟨#[102]⟩) := hSw.2.cell 0
           have k5 : w'.cell? ⟨w6.heap.size + 1 + 1, 1, none⟩ = some (.string ⟨#[103]⟩) := hSw.2.cell 1
           go_simp <;> with_reducible rfl
          try simp only [Act.put, sq]
          refine tkq (v := ?_) 10 rfl ?_ ?_
          rotate_left
          ·intro w' hSw
           go_simp <;> with_reducible rfl
          try simp only [Act.put, sq]
          refine rdq 12 rfl fun K hK => ?_
          ·go_simp
           refine hK.out _ _ (by exact two_endB _ _ _ X6.out (Nat.ne_of_gt hlt5)) (fun hHeld => ?_)
           clear hK K
           try simp only [Act.put, sq]
           refine tkq (v := ?_) 13 rfl ?_ ?_
           rotate_left
           ·intro w' hSw
            go_simp <;> with_reducible rfl
           try simp only [Act.put, sq]
           refine wpAnyH_done (by kernel_rfl) ?_ _
           go_wp2_with fail
           refine bodyPost_ret (v := .tuple #[.agg #[.string ⟨#[102]⟩, .slice (some ⟨w6.heap.size + 1, 0, none⟩) 2 2], .int .i64 (n6 : Int)]) (by simp [results, Tryz.results6, go_sem, World.cell?_setCell_same, World.cell?_setCell_other, r0, r1, hlt56, hlt57, hlt58, World.cell?_alloc_old]) rfl ?_
           exact grow_two B6.out hlt56 S56.out S6.out (fun b hb => Nat.lt_of_lt_of_le R1.out.lt hb) HZ6.out HBIG.out (ok_node (by decide) (by decide) (ok_two HE5.out HE6.out)) (by omega) (by exact (blk_at (by simp [World.setCell]) _ _).alloc _)
        ·go_simp
         go_at_call 5
         refine (HPK.out _).mono ?_
         rintro e w7 ⟨rfl, rfl⟩
         go_simp
         refine hK.out _ _ (by exact hHeld) (fun hHeld => ?_)
         clear hK K
         try simp only [Act.put, sq]
         refine tkq (v := ?_) 4 rfl ?_ ?_
         rotate_left
         ·intro w' hSw
          go_simp <;> with_reducible rfl
         try simp only [Act.put, sq]
         refine rdq 0 rfl fun K hK => ?_
         ·go_simp
          refine hK.out _ _ (by exact hHeld.alloc _) (fun hHeld => ?_)
          clear hK K
          try simp only [Act.put, sq]
          refine held_mono (S' := TwoF w5 w6 t5 t6 a5 a6 c5 c6 (w6.heap.size + 1 + 1)) (fun _ h => h.1) _ _ _ _ ?_
          replace hHeld := two_up (b := w6.heap.size + 1 + 1) hHeld (by exact blk_at (w := (w6.alloc (.cells #[.string t6.name, .slice a6 t6.args.length c6] 26)).alloc (.cells #[.string t5.name, .slice a5 t5.args.length c5, .string t6.name, .slice a6 t6.args.length c6] 26)) (by simp) _ _)
          refine tkq (v := ?_) 5 rfl ?_ ?_
          rotate_left
          ·intro w' hSw
           go_simp <;> with_reducible rfl
          try simp only [Act.put, sq]
          refine tkq (v := ?_) 6 rfl ?_ ?_
          rotate_left
          ·intro w' hSw
           have k4 : w'.cell? ⟨w6.heap.size + 1 + 1, 0, none⟩ = some (.string ⟨#[102]⟩) := hSw.2.cell 0
           have k5 : w'.cell? ⟨w6.heap.size + 1 + 1, 1, none⟩ = some (.string ⟨#[103]⟩) := hSw.2.cell 1
           go_simp <;> with_reducible rfl
          try simp only [Act.put, sq]
          refine tkq (v := ?_) 10 rfl ?_ ?_
          rotate_left
          ·intro w' hSw
           go_simp <;> with_reducible rfl
          try simp only [Act.put, sq]
          refine rdq 12 rfl fun K hK => ?_
          ·go_simp
           refine hK.out _ _ (by exact two_endB _ _ _ X6.out (Nat.ne_of_gt hlt5)) (fun hHeld => ?_)
           clear hK K
           try simp only [Act.put, sq]
           refine tkq (v := ?_) 13 rfl ?_ ?_
           rotate_left
           ·intro w' hSw
            go_simp <;> with_reducible rfl
           try simp only [Act.put, sq]
           refine wpAnyH_done (by kernel_rfl) ?_ _
           go_wp2_with fail
           refine bodyPost_ret (v := .tuple #[.agg #[.string ⟨#[102]⟩, .slice (some ⟨w6.heap.size + 1, 0, none⟩) 2 2], .int .i64 (n6 : Int)]) (by simp [results, Tryz.results6, go_sem, World.cell?_setCell_same, World.cell?_setCell_other, r0, r1, hlt56, hlt57, hlt58, World.cell?_alloc_old]) rfl ?_
           exact grow_two B6.out hlt56 S56.out S6.out (fun b hb => Nat.lt_of_lt_of_le R1.out.lt hb) HZ6.out HBIG.out (ok_node (by decide) (by decide) (ok_two HE5.out HE6.out)) (by omega) (by exact (blk_at (by simp [World.setCell]) _ _).alloc _)
      ·clear hth hhb hh hn6 hn6' hz6 hz5 hn5 hn5' hc5 hc5' hc6 hc6' hi hm hc hr hzl h42 h41 h40 hk4 h1 hk1 h3
       have HS0 : TwoS w5 w6 t5 t6 a5 a6 c5 c6 (w6.alloc (.cells #[.string t6.name, .slice a6 t6.args.length c6] 26)).drew := ⟨X6.out.alloc _, Y6.out⟩
       refine wp_region_held_drew (S := TwoS w5 w6 t5 t6 a5 a6 c5 c6) (by kernel_rfl) HS0 (fun hHeld => ?_)
       refine tkq (v := ?_) 1 rfl ?_ ?_
       rotate_left
       ·intro w' hSw
        go_simp <;> with_reducible rfl
       try simp only [Act.put, sq]
       refine tkq (v := ?_) 2 rfl ?_ ?_
       rotate_left
       ·intro w' hSw
        go_simp <;> with_reducible rfl
       try simp only [Act.put, sq]
       refine tkq (v := ?_) 7 rfl ?_ ?_
       rotate_left
       ·intro w' hSw
        have k0 : w'.cell? ⟨w5.heap.size, 0, none⟩ = some (.string t5.name) := hSw.1.cell 0
        have k1 : w'.cell? ⟨w5.heap.size, 1, none⟩ = some (.slice a5 t5.args.length c5) := hSw.1.cell 1
        go_simp <;> with_reducible rfl
       try simp only [Act.put, sq]
       refine tkq (v := ?_) 8 rfl ?_ ?_
       rotate_left
       ·intro w' hSw
        have k2 : w'.cell? ⟨w6.heap.size, 0, none⟩ = some (.string t6.name) := hSw.2.cell 0
        have k3 : w'.cell? ⟨w6.heap.size, 1, none⟩ = some (.slice a6 t6.args.length c6) := hSw.2.cell 1
        go_simp <;> with_reducible rfl
       try simp only [Act.put, sq]
       refine tkq (v := ?_) 11 rfl ?_ ?_
       rotate_left
       ·intro w' hSw
        go_simp <;> with_reducible rfl
       try simp only [Act.put, sq]
       refine wpAnyH_ready (rs := [0, 3, 9]) (by kernel_rfl) (by simp) ?_
       refine AllReadyH.cons rfl (fun K hK => ?_) (AllReadyH.cons rfl (fun K hK => ?_) (AllReadyH.cons rfl (fun K hK => ?_) AllReadyH.nil))
       ·go_simp
        refine hK.out _ _ (by exact hHeld.alloc _) (fun hHeld => ?_)
        clear hK K
        try simp only [Act.put, sq]
        refine held_mono (S' := TwoF w5 w6 t5 t6 a5 a6 c5 c6 (w6.heap.size + 1)) (fun _ h => h.1) _ _ _ _ ?_
        replace hHeld := two_up (b := w6.heap.size + 1) hHeld (by exact blk_at (w := w6.alloc (.cells #[.string t6.name, .slice a6 t6.args.length c6] 26)) (by simp) _ _)
        refine wpAnyH_ready (rs := [3, 9]) (by kernel_rfl) (by simp) ?_
        refine AllReadyH.cons rfl (fun K hK => ?_) (AllReadyH.cons rfl (fun K hK => ?_) AllReadyH.nil)
        ·go_simp
         go_at_call 5
         refine (HPK.out _).mono ?_
         rintro e w7 ⟨rfl, rfl⟩
         go_simp
         refine hK.out _ _ (by exact hHeld) (fun hHeld => ?_)
         clear hK K
         try simp only [Act.put, sq]
         refine tkq (v := ?_) 4 rfl ?_ ?_
         rotate_left
         ·intro w' hSw
          go_simp <;> with_reducible rfl
         try simp only [Act.put, sq]
         refine tkq (v := ?_) 5 rfl ?_ ?_
         rotate_left
         ·intro w' hSw
          go_simp <;> with_reducible rfl
         try simp only [Act.put, sq]
         refine tkq (v := ?_) 6 rfl ?_ ?_
         rotate_left
         ·intro w' hSw
          have k4 : w'.cell? ⟨w6.heap.size + 1, 0, none⟩ = some (.string ⟨#[102]⟩) := hSw.2.cell 0
          have k5 : w'.cell? ⟨w6.heap.size + 1, 1, none⟩ = some (.string ⟨#[103]⟩) := hSw.2.cell 1
          go_simp <;> with_reducible rfl
         try simp only [Act.put, sq]
         refine rdq 9 rfl fun K hK => ?_
         ·go_simp
          refine hK.out _ _ (by exact hHeld.alloc _) (fun hHeld => ?_)
          clear hK K
          try simp only [Act.put, sq]
          refine tkq (v := ?_) 10 rfl ?_ ?_
          rotate_left
          ·intro w' hSw
           go_simp <;> with_reducible rfl
          try simp only [Act.put, sq]
          refine rdq 12 rfl fun K hK => ?_
          ·go_simp
           refine hK.out _ _ (by exact two_endA _ _ _ X6.out (Nat.ne_of_gt hlt5)) (fun hHeld => ?_)
           clear hK K
           try simp only [Act.put, sq]
           refine tkq (v := ?_) 13 rfl ?_ ?_
           rotate_left
           ·intro w' hSw
            go_simp <;> with_reducible rfl
           try simp only [Act.put, sq]
           refine wpAnyH_done (by kernel_rfl) ?_ _
           go_wp2_with fail
           refine bodyPost_ret (v := .tuple #[.agg #[.string ⟨#[103]⟩, .slice (some ⟨w6.heap.size + 1 + 1, 0, none⟩) 2 2], .int .i64 (n6 : Int)]) (by simp [results, Tryz.results6, go_sem, World.cell?_setCell_same, World.cell?_setCell_other, r0, r1, hlt56, hlt57, hlt58, World.cell?_alloc_old]) rfl ?_
           exact grow_two B6.out hlt56 S56.out S6.out (fun b hb => Nat.lt_of_lt_of_le R1.out.lt hb) HZ6.out HBIG.out (ok_node (by decide) (by decide) (ok_two HE5.out HE6.out)) (by omega) (by exact blk_at (by simp [World.setCell]) _ _)
        ·go_simp
         refine hK.out _ _ (by exact hHeld.alloc _) (fun hHeld => ?_)
         clear hK K
         try simp only [Act.put, sq]
         refine rdq 3 rfl fun K hK => ?_
         ·go_simp
          go_at_call 5
          refine (HPK.out _).mono ?_
          rintro e w7 ⟨rfl, rfl⟩
          go_simp
          refine hK.out _ _ (by exact hHeld) (fun hHeld => ?_)
          clear hK K
          try simp only [Act.put, sq]
          refine tkq (v := ?_) 4 rfl ?_ ?_
          rotate_left
          ·intro w' hSw
           go_simp <;> with_reducible rfl
          try simp only [Act.put, sq]
          refine tkq (v := ?_) 5 rfl ?_ ?_
          rotate_left
          ·intro w' hSw
           go_simp <;> with_reducible rfl
          try simp only [Act.put, sq]
          refine tkq (v := ?_) 6 rfl ?_ ?_
          rotate_left
          ·intro w' hSw
           have k4 : w'.cell? ⟨w6.heap.size + 1, 0, none⟩ = some (.string ⟨#[102]⟩) := hSw.2.cell 0
           have k5 : w'.cell? ⟨w6.heap.size + 1, 1, none⟩ = some (.string ⟨#[103]⟩) := hSw.2.cell 1
           go_simp <;> with_reducible rfl
          try simp only [Act.put, sq]
          refine tkq (v := ?_) 10 rfl ?_ ?_
          rotate_left
          ·intro w' hSw
           go_simp <;> with_reducible rfl
          try simp only [Act.put, sq]
          refine rdq 12 rfl fun K hK => ?_
          ·go_simp
           refine hK.out _ _ (by exact two_endA _ _ _ X6.out (Nat.ne_of_gt hlt5)) (fun hHeld => ?_)
           clear hK K
           try simp only [Act.put, sq]
           refine tkq (v := ?_) 13 rfl ?_ ?_
           rotate_left
           ·intro w' hSw
            go_simp <;> with_reducible rfl
           try simp only [Act.put, sq]
           refine wpAnyH_done (by kernel_rfl) ?_ _
           go_wp2_with fail
           refine bodyPost_ret (v := .tuple #[.agg #[.string ⟨#[103]⟩, .slice (some ⟨w6.heap.size + 1 + 1, 0, none⟩) 2 2], .int .i64 (n6 : Int)]) (by simp [results, Tryz.results6, go_sem, World.cell?_setCell_same, World.cell?_setCell_other, r0, r1, hlt56, hlt57, hlt58, World.cell?_alloc_old]) rfl ?_
           exact grow_two B6.out hlt56 S56.out S6.out (fun b hb => Nat.lt_of_lt_of_le R1.out.lt hb) HZ6.out HBIG.out (ok_node (by decide) (by decide) (ok_two HE5.out HE6.out)) (by omega) (by exact blk_at (by simp [World.setCell]) _ _)
       ·go_simp
        go_at_call 5
        refine (HPK.out _).mono ?_
        rintro e w7 ⟨rfl, rfl⟩
        go_simp
        refine hK.out _ _ (by exact hHeld) (fun hHeld => ?_)
        clear hK K
        try simp only [Act.put, sq]
        refine tkq (v := ?_) 4 rfl ?_ ?_
        rotate_left
        ·intro w' hSw
         go_simp <;> with_reducible rfl
        try simp only [Act.put, sq]
        refine wpAnyH_ready (rs := [0, 9]) (by kernel_rfl) (by simp) ?_
        refine AllReadyH.cons rfl (fun K hK => ?_) (AllReadyH.cons rfl (fun K hK => ?_) AllReadyH.nil)
        ·go_simp
         refine hK.out _ _ (by exact hHeld.alloc _) (fun hHeld => ?_)
         clear hK K
         try simp only [Act.put, sq]
         refine held_mono (S' := TwoF w5 w6 t5 t6 a5 a6 c5 c6 (w6.heap.size + 1)) (fun _ h => h.1) _ _ _ _ ?_
         replace hHeld := two_up (b := w6.heap.size + 1) hHeld (by exact blk_at (w := w6.alloc (.cells #[.string t6.name, .slice a6 t6.args.length c6] 26)) (by simp) _ _)
         refine tkq (v := ?_) 5 rfl ?_ ?_
         rotate_left
         ·intro w' hSw
          go_simp <;> with_reducible rfl
         try simp only [Act.put, sq]
         refine tkq (v := ?_) 6 rfl ?_ ?_
         rotate_left
         ·intro w' hSw
          have k4 : w'.cell? ⟨w6.heap.size + 1, 0, none⟩ = some (.string ⟨#[102]⟩) := hSw.2.cell 0
          have k5 : w'.cell? ⟨w6.heap.size + 1, 1, none⟩ = some (.string ⟨#[103]⟩) := hSw.2.cell 1
          go_simp <;> with_reducible rfl
         try simp only [Act.put, sq]
         refine rdq 9 rfl fun K hK => ?_
         ·go_simp
          refine hK.out _ _ (by exact hHeld.alloc _) (fun hHeld => ?_)
          clear hK K
          try simp only [Act.put, sq]
          refine tkq (v := ?_) 10 rfl ?_ ?_
          rotate_left
          ·intro w' hSw
           go_simp <;> with_reducible rfl
          try simp only [Act.put, sq]
          refine rdq 12 rfl fun K hK => ?_
          ·go_simp
           refine hK.out _ _ (by exact two_endA _ _ _ X6.out (Nat.ne_of_gt hlt5)) (fun hHeld => ?_)
           clear hK K
           try simp only [Act.put, sq]
           refine tkq (v := ?_) 13 rfl ?_ ?_
           rotate_left
           ·intro w' hSw
            go_simp <;> with_reducible rfl
           try simp only [Act.put, sq]
           refine wpAnyH_done (by kernel_rfl) ?_ _
           go_wp2_with fail
           refine bodyPost_ret (v := .tuple #[.agg #[.string ⟨#[103]⟩, .slice (some ⟨w6.heap.size + 1 + 1, 0, none⟩) 2 2], .int .i64 (n6 : Int)]) (by simp [results, Tryz.results6, go_sem, World.cell?_setCell_same, World.cell?_setCell_other, r0, r1, hlt56, hlt57, hlt58, World.cell?_alloc_old]) rfl ?_
           exact grow_two B6.out hlt56 S56.out S6.out (fun b hb => Nat.lt_of_lt_of_le R1.out.lt hb) HZ6.out HBIG.out (ok_node (by decide) (by decide) (ok_two HE5.out HE6.out)) (by omega) (by exact blk_at (by simp [World.setCell]) _ _)
        ·go_simp
         refine hK.out _ _ (by exact hHeld.alloc _) (fun hHeld => ?_)
         clear hK K
         try simp only [Act.put, sq]
         refine rdq 0 rfl fun K hK => ?_
         ·go_simp
          refine hK.out _ _ (by exact hHeld.alloc _) (fun hHeld => ?_)
          clear hK K
          try simp only [Act.put, sq]
          refine held_mono (S' := TwoF w5 w6 t5 t6 a5 a6 c5 c6 (w6.heap.size + 1 + 1)) (fun _ h => h.1) _ _ _ _ ?_
          replace hHeld := two_up (b := w6.heap.size + 1 + 1) hHeld (by exact blk_at (w := (w6.alloc (.cells #[.string t6.name, .slice a6 t6.args.length c6] 26)).alloc (.cells #[.string t5.name, .slice a5 t5.args.length c5, .string t6.name, .slice a6 t6.args.length c6] 26)) (by simp) _ _)
          refine tkq (v := ?_) 5 rfl ?_ ?_
          rotate_left
          ·intro w' hSw
           go_simp <;> with_reducible rfl
          try simp only [Act.put, sq]
          refine tkq (v := ?_) 6 rfl ?_ ?_
          rotate_left
          ·intro w' hSw
           have k4 : w'.cell? ⟨w6.heap.size + 1 + 1, 0, none⟩ = some (.string ⟨#[102]⟩) := hSw.2.cell 0
           have k5 : w'.cell? ⟨w6.heap.size + 1 + 1, 1, none⟩ = some (.string ⟨#[103]⟩) := hSw.2.cell 1
           go_simp <;> with_reducible rfl
          try simp only [Act.put, sq]
          refine tkq (v := ?_) 10 rfl ?_ ?_
          rotate_left
          ·intro w' hSw
           go_simp <;> with_reducible rfl
          try simp only [Act.put, sq]
          refine rdq 12 rfl fun K hK => ?_
          ·go_simp
           refine hK.out _ _ (by exact two_endB _ _ _ X6.out (Nat.ne_of_gt hlt5)) (fun hHeld => ?_)
           clear hK K
           try simp only [Act.put, sq]
           refine tkq (v := ?_) 13 rfl ?_ ?_
           rotate_left
           ·intro w' hSw
            go_simp <;> with_reducible rfl
           try simp only [Act.put, sq]
           refine wpAnyH_done (by kernel_rfl) ?_ _
           go_wp2_with fail
           refine bodyPost_ret (v := .tuple #[.agg #[.string ⟨#[103]⟩, .slice (some ⟨w6.heap.size + 1, 0, none⟩) 2 2], .int .i64 (n6 : Int)]) (by simp [results, Tryz.results6, go_sem, World.cell?_setCell_same, World.cell?_setCell_other, r0, r1, hlt56, hlt57, hlt58, World.cell?_alloc_old]) rfl ?_
           exact grow_two B6.out hlt56 S56.out S6.out (fun b hb => Nat.lt_of_lt_of_le R1.out.lt hb) HZ6.out HBIG.out (ok_node (by decide) (by decide) (ok_two HE5.out HE6.out)) (by omega) (by exact (blk_at (by simp [World.setCell]) _ _).alloc _)
       ·go_simp
        refine hK.out _ _ (by exact hHeld.alloc _) (fun hHeld => ?_)
        clear hK K
        try simp only [Act.put, sq]
        refine wpAnyH_ready (rs := [0, 3]) (by kernel_rfl) (by simp) ?_
        refine AllReadyH.cons rfl (fun K hK => ?_) (AllReadyH.cons rfl (fun K hK => ?_) AllReadyH.nil)
        ·go_simp
         refine hK.out _ _ (by exact hHeld.alloc _) (fun hHeld => ?_)
         clear hK K
         try simp only [Act.put, sq]
         refine held_mono (S' := TwoF w5 w6 t5 t6 a5 a6 c5 c6 (w6.heap.size + 1 + 1)) (fun _ h => h.1) _ _ _ _ ?_
         replace hHeld := two_up (b := w6.heap.size + 1 + 1) hHeld (by exact blk_at (w := (w6.alloc (.cells #[.string t6.name, .slice a6 t6.args.length c6] 26)).alloc (.cells #[.string t5.name, .slice a5 t5.args.length c5, .string t6.name, .slice a6 t6.args.length c6] 26)) (by simp) _ _)
         refine rdq 3 rfl fun K hK => ?_
         ·go_simp
          go_at_call 5
          refine (HPK.out _).mono ?_
          rintro e w7 ⟨rfl, rfl⟩
          go_simp
          refine hK.out _ _ (by exact hHeld) (fun hHeld => ?_)
          clear hK K
          try simp only [Act.put, sq]
          refine tkq (v := ?_) 4 rfl ?_ ?_
          rotate_left
          ·intro w' hSw
           go_simp <;> with_reducible rfl
          try simp only [Act.put, sq]
          refine tkq (v := ?_) 5 rfl ?_ ?_
          rotate_left
          ·intro w' hSw
           go_simp <;> with_reducible rfl
          try simp only [Act.put, sq]
          refine tkq (v := ?_) 6 rfl ?_ ?_
          rotate_left
          ·intro w' hSw
           have k4 : w'.cell? ⟨w6.heap.size + 1 + 1, 0, none⟩ = some (.string ⟨#[102]⟩) := hSw.2.cell 0
           have k5 : w'.cell? ⟨w6.heap.size + 1 + 1, 1, none⟩ = some (.string ⟨#[103]⟩) := hSw.2.cell 1
           go_simp <;> with_reducible rfl
          try simp only [Act.put, sq]
          refine tkq (v := ?_) 10 rfl ?_ ?_
          rotate_left
          ·intro w' hSw
           go_simp <;> with_reducible rfl
          try simp only [Act.put, sq]
          refine rdq 12 rfl fun K hK => ?_
          ·go_simp
           refine hK.out _ _ (by exact two_endB _ _ _ X6.out (Nat.ne_of_gt hlt5)) (fun hHeld => ?_)
           clear hK K
           try simp only [Act.put, sq]
           refine tkq (v := ?_) 13 rfl ?_ ?_
           rotate_left
           ·intro w' hSw
            go_simp <;> with_reducible rfl
           try simp only [Act.put, sq]
           refine wpAnyH_done (by kernel_rfl) ?_ _
           go_wp2_with fail
           refine bodyPost_ret (v := .tuple #[.agg #[.string ⟨#[103]⟩, .slice (some ⟨w6.heap.size + 1, 0, none⟩) 2 2], .int .i64 (n6 : Int)]) (by simp [results, Tryz.results6, go_sem, World.cell?_setCell_same, World.cell?_setCell_other, r0, r1, hlt56, hlt57, hlt58, World.cell?_alloc_old]) rfl ?_
           exact grow_two B6.out hlt56 S56.out S6.out (fun b hb => Nat.lt_of_lt_of_le R1.out.lt hb) HZ6.out HBIG.out (ok_node (by decide) (by decide) (ok_two HE5.out HE6.out)) (by omega) (by exact (blk_at (by simp [World.setCell]) _ _).alloc _)
        ·go_simp
         go_at_call 5
         refine (HPK.out _).mono ?_
         rintro e w7 ⟨rfl, rfl⟩
         go_simp
         refine hK.out _ _ (by exact hHeld) (fun hHeld => ?_)
         clear hK K
         try simp only [Act.put, sq]
         refine tkq (v := ?_) 4 rfl ?_ ?_
         rotate_left
         ·intro w' hSw
          go_simp <;> with_reducible rfl
         try simp only [Act.put, sq]
         refine rdq 0 rfl fun K hK => ?_
         ·go_simp
          refine hK.out _ _ (by exact hHeld.alloc _) (fun hHeld => ?_)
          clear hK K
          try simp only [Act.put, sq]
          refine held_mono (S' := TwoF w5 w6 t5 t6 a5 a6 c5 c6 (w6.heap.size + 1 + 1)) (fun _ h => h.1) _ _ _ _ ?_
          replace hHeld := two_up (b := w6.heap.size + 1 + 1) hHeld (by exact blk_at (w := (w6.alloc (.cells #[.string t6.name, .slice a6 t6.args.length c6] 26)).alloc (.cells #[.string t5.name, .slice a5 t5.args.length c5, .string t6.name, .slice a6 t6.args.length c6] 26)) (by simp) _ _)
          refine tkq (v := ?_) 5 rfl ?_ ?_
          rotate_left
          ·intro w' hSw
           go_simp <;> with_reducible rfl
          try simp only [Act.put, sq]
          refine tkq (v := ?_) 6 rfl ?_ ?_
          rotate_left
          ·intro w' hSw
           have k4 : w'.cell? ⟨w6.heap.size + 1 + 1, 0, none⟩ = some (.string ⟨#[102]⟩) := hSw.2.cell 0
           have k5 : w'.cell? ⟨w6.heap.size + 1 + 1, 1, none⟩ = some (.string ⟨#[103]⟩) := hSw.2.cell 1
           go_simp <;> with_reducible rfl
          try simp only [Act.put, sq]
          refine tkq (v := ?_) 10 rfl ?_ ?_
          rotate_left
          ·intro w' hSw
           go_simp <;> with_reducible rfl
          try simp only [Act.put, sq]
          refine rdq 12 rfl fun K hK => ?_
          ·go_simp
           refine hK.out _ _ (by exact two_endB _ _ _ X6.out (Nat.ne_of_gt hlt5)) (fun hHeld => ?_)
           clear hK K
           try simp only [Act.put, sq]
           refine tkq (v := ?_) 13 rfl ?_ ?_
           rotate_left
           ·intro w' hSw
            go_simp <;> with_reducible rfl
           try simp only [Act.put, sq]
           refine wpAnyH_done (by kernel_rfl) ?_ _
           go_wp2_with fail
           refine bodyPost_ret (v := .tuple #[.agg #[.string ⟨#[103]⟩, .slice (some ⟨w6.heap.size + 1, 0, none⟩) 2 2], .int .i64 (n6 : Int)]) (by simp [results, Tryz.results6, go_sem, World.cell?_setCell_same, World.cell?_setCell_other, r0, r1, hlt56, hlt57, hlt58, World.cell?_alloc_old]) rfl ?_
           exact grow_two B6.out hlt56 S56.out S6.out (fun b hb => Nat.lt_of_lt_of_le R1.out.lt hb) HZ6.out HBIG.out (ok_node (by decide) (by decide) (ok_two HE5.out HE6.out)) (by omega) (by exact (blk_at (by simp [World.setCell]) _ _).alloc _)
def GrowPost (w : World) (i m : Nat) (e : Ending) (w' : World) : Prop :=
 ∃ (a : Option Addr) (c n : Nat) (t : Tm), e = .returned (.tuple #[.agg #[.string t.name, .slice a t.args.length c], .int .i64 (n : Int)]) ∧ Sl w' (fun b => w.heap.size ≤ b) a t.args ∧ t.args.length ≤ c ∧ c ≤ 9223372036854775807 ∧ sizeL [t] ≤ top m ∧ i ≤ n ∧ n ≤ i + top m ∧ Below w.heap.size w w' ∧ errL [t] = 0
theorem grow_any (nv : Nat) (hnv : 1 ≤ nv) (hnv4 : nv ≤ 4) (zs : List Int) (hr : ∀ z ∈ zs, Rng z) (hzl : zs.length ≤ 1000000) (m i : Nat) (u : Value) (w : World) (X : Nat → Prop) (hu : PV w X u zs) (hm : m ≤ 100) (hi : i + top m ≤ 1000) :
  Calls Tryz.prog 6 #[u, .int .i64 (i : Int), .int .i64 (m : Int), .int .i64 (nv : Int)] w fun e w' => GrowPost w i m e w' := by
 refine (growV_any nv hnv hnv4 zs hr hzl m i u w X hu hm hi).mono ?_
 rintro e w' ⟨a, c, n, t, h1, h2, h3, h4, h5, h6, h7, h8, h9⟩
 exact ⟨a, c, n, t, h1, h2, h3, h4, h5, h6, h7, h8, h9.1⟩
end Go.Proofs.YtdebiiodhkcnkaaGreat
