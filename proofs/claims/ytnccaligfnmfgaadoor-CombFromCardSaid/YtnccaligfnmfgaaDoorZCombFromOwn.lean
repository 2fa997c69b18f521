/- Several texts in one. -/
import Derived.WalkKit
import Derived.WalkSpells
import Derived.WalkLawsBesides
import Derived.Test.YtnccaligfnmfgaaDoorRows
import Derived.BigQuiet
import Derived.Deep.RegionHeld
import Derived.Deep.RegionHeld3
import Derived.Deep.AppendLies
/- The tree that a term is, and how it lies in memory: plain mathematics of terms, and what stays where it was. -/
namespace Go.Proofs.YtnccaligfnmfgaaDoor
open Go.RowKit

/-- Kept from the walk. -/
theorem hide {p : Prop} (h : p) : Hid p := h

/-- A term as a tree. -/
structure Tm where
  name : ByteArray
  args : List Tm

theorem Tm.ind {P : Tm → Prop} (h : ∀ s l, (∀ x ∈ l, P x) → P ⟨s, l⟩) (t : Tm) : P t :=
  Tm.rec (motive_1 := P) (motive_2 := fun l => ∀ x ∈ l, P x) (fun s l ih => h s l ih) (fun x hx => by cases hx)
    (fun a l ha hl x hx => by
      rcases List.mem_cons.1 hx with e | e
      · subst e; exact ha
      · exact hl x e) t

theorem Tm.indL {P : List Tm → Prop} (h0 : P []) (h : ∀ s l r, P l → P r → P (⟨s, l⟩ :: r)) (l : List Tm) : P l :=
  Tm.rec_1 (motive_1 := fun t => P t.args) (motive_2 := P) (fun _ _ ih => ih) h0 (fun a l ha hl => by obtain ⟨s, k⟩ := a; exact h s k l ha hl) l

/-- The knots of a list of terms. -/
def sizeL : List Tm → Nat
  | [] => 0
  | ⟨_, l⟩ :: r => 1 + sizeL l + sizeL r

theorem sizeL_append (a b : List Tm) : sizeL (a ++ b) = sizeL a + sizeL b := by
  induction a with
  | nil => simp [sizeL]
  | cons t r ih => obtain ⟨s, l⟩ := t; simp only [List.cons_append, sizeL, ih]; omega

/-- A list of terms lies in a row of cells, two a term, in blocks that X lets. -/
def Lies (w : World) (X : Nat → Prop) : Nat → Nat → List Tm → Prop
  | _, _, [] => True
  | b, o, ⟨s, l⟩ :: r => X b ∧ w.cell? ⟨b, o, none⟩ = some (.string s) ∧
      (∃ a c, w.cell? ⟨b, o + 1, none⟩ = some (.slice a l.length c) ∧ l.length ≤ 9223372036854775807 ∧ (l = [] ∨ ∃ b' o', a = some ⟨b', o', none⟩ ∧ Lies w X b' o' l)) ∧ Lies w X b (o + 2) r

/-- What a slice of terms holds. -/
def Sl (w : World) (X : Nat → Prop) (a : Option Addr) (l : List Tm) : Prop := l.length ≤ 9223372036854775807 ∧ (l = [] ∨ ∃ b o, a = some ⟨b, o, none⟩ ∧ Lies w X b o l)

/-- What a term's value holds. -/
def TV (w : World) (X : Nat → Prop) (v : Value) (t : Tm) : Prop := ∃ a c, v = .agg #[.string t.name, .slice a t.args.length c] ∧ Sl w X a t.args

theorem lies_kept {w w' : World} {X : Nat → Prop} (h : ∀ b, X b → w'.heap[b]? = w.heap[b]?) (l : List Tm) : ∀ b o, Lies w X b o l → Lies w' X b o l := by
  induction l using Tm.indL with
  | h0 => intro b o _; simp [Lies]
  | h s l r ihl ihr =>
    intro b o hl
    simp only [Lies] at hl ⊢
    obtain ⟨hx, h1, ⟨a, c, h2, h2', h3⟩, h4⟩ := hl
    refine ⟨hx, by rw [World.cell?_of_block (h b hx)]; exact h1, ⟨a, c, by rw [World.cell?_of_block (h b hx)]; exact h2, h2', ?_⟩, ihr _ _ h4⟩
    rcases h3 with h3 | ⟨b', o', h3, h5⟩
    · exact Or.inl h3
    · exact Or.inr ⟨b', o', h3, ihl _ _ h5⟩

theorem lies_mono {w : World} {X Y : Nat → Prop} (h : ∀ b, X b → b < w.heap.size → Y b) (l : List Tm) : ∀ b o, Lies w X b o l → Lies w Y b o l := by
  induction l using Tm.indL with
  | h0 => intro b o _; simp [Lies]
  | h s l r ihl ihr =>
    intro b o hl
    simp only [Lies] at hl ⊢
    obtain ⟨hx, h1, ⟨a, c, h2, h2', h3⟩, h4⟩ := hl
    have hb : b < w.heap.size := by
      apply Classical.byContradiction
      intro hn
      have e : w.heap[b]? = none := Array.getElem?_eq_none (by omega)
      simp [World.cell?, e] at h1
    refine ⟨h b hx hb, h1, ⟨a, c, h2, h2', ?_⟩, ihr _ _ h4⟩
    rcases h3 with h3 | ⟨b', o', h3, h5⟩
    · exact Or.inl h3
    · exact Or.inr ⟨b', o', h3, ihl _ _ h5⟩

theorem Sl.kept {w w' : World} {X : Nat → Prop} {a : Option Addr} {l : List Tm} (h : Sl w X a l) (hk : ∀ b, X b → w'.heap[b]? = w.heap[b]?) : Sl w' X a l := by
  obtain ⟨hl, h⟩ := h
  refine ⟨hl, ?_⟩
  rcases h with h | ⟨b, o, e, h⟩
  · exact Or.inl h
  · exact Or.inr ⟨b, o, e, lies_kept hk _ _ _ h⟩

theorem Sl.mono {w : World} {X Y : Nat → Prop} {a : Option Addr} {l : List Tm} (h : Sl w X a l) (hk : ∀ b, X b → b < w.heap.size → Y b) : Sl w Y a l := by
  obtain ⟨hl, h⟩ := h
  refine ⟨hl, ?_⟩
  rcases h with h | ⟨b, o, e, h⟩
  · exact Or.inl h
  · exact Or.inr ⟨b, o, e, lies_mono hk _ _ _ h⟩

theorem Sl.below {w w' : World} {X : Nat → Prop} {a : Option Addr} {l : List Tm} {B : Nat} (h : Sl w X a l) (hb : Below B w w') (hX : ∀ b, X b → b < w.heap.size → b < B) : Sl w' X a l := by
  have h1 : Sl w (fun b => X b ∧ b < B) a l := h.mono fun b hx hs => ⟨hx, hX b hx hs⟩
  have h2 : Sl w' (fun b => X b ∧ b < B) a l := h1.kept fun b hx => hb.block b hx.2
  exact h2.mono fun b hx _ => hx.1

theorem TV.kept {w w' : World} {X : Nat → Prop} {v : Value} {t : Tm} (h : TV w X v t) (hk : ∀ b, X b → w'.heap[b]? = w.heap[b]?) : TV w' X v t := by
  obtain ⟨a, c, e, h⟩ := h
  exact ⟨a, c, e, h.kept hk⟩

theorem TV.mono {w : World} {X Y : Nat → Prop} {v : Value} {t : Tm} (h : TV w X v t) (hk : ∀ b, X b → b < w.heap.size → Y b) : TV w Y v t := by
  obtain ⟨a, c, e, h⟩ := h
  exact ⟨a, c, e, h.mono hk⟩

theorem TV.below {w w' : World} {X : Nat → Prop} {v : Value} {t : Tm} {B : Nat} (h : TV w X v t) (hb : Below B w w') (hX : ∀ b, X b → b < w.heap.size → b < B) : TV w' X v t := by
  obtain ⟨a, c, e, h⟩ := h
  exact ⟨a, c, e, h.below hb hX⟩

theorem TV.alloc {w : World} {X : Nat → Prop} {v : Value} {t : Tm} (h : TV w X v t) (o : Obj) : TV (w.alloc o) X v t :=
  h.below ((Below.refl _ _).alloc (Nat.le_refl _) o) (fun _ _ h => h)

theorem TV.later {w w' : World} {X : Nat → Prop} {v : Value} {t : Tm} (h : TV w X v t) (hb : Below w.heap.size w w') : TV w' X v t := h.below hb (fun _ _ h => h)

theorem Sl.later {w w' : World} {X : Nat → Prop} {a : Option Addr} {l : List Tm} (h : Sl w X a l) (hb : Below w.heap.size w w') : Sl w' X a l := h.below hb (fun _ _ h => h)

/-- One of a row. -/
theorem lies_get {w : World} {X : Nat → Prop} : ∀ (l : List Tm) (b o : Nat), Lies w X b o l → ∀ i (h : i < l.length),
    X b ∧ w.cell? ⟨b, o + i * 2, none⟩ = some (.string l[i].name) ∧ ∃ a c, w.cell? ⟨b, o + i * 2 + 1, none⟩ = some (.slice a l[i].args.length c) ∧ Sl w X a l[i].args := by
  intro l
  induction l with
  | nil => intro b o _ i h; simp at h
  | cons t r ih =>
    intro b o hl i h
    obtain ⟨s, k⟩ := t
    simp only [Lies] at hl
    obtain ⟨hx, h1, ⟨a, c, h2, h3⟩, h4⟩ := hl
    cases i with
    | zero => exact ⟨hx, h1, a, c, h2, h3⟩
    | succ i =>
      have := ih b (o + 2) h4 i (by simpa using h)
      simp only [List.getElem_cons_succ]
      rw [show o + (i + 1) * 2 = o + 2 + i * 2 by omega]
      exact this

/-- One of a slice, in a later world. -/
theorem Sl.get {w wr : World} {X : Nat → Prop} {a : Option Addr} {l : List Tm} {B : Nat} (h : Sl w X a l) (hb : Below B w wr) (hX : ∀ b, X b → b < w.heap.size → b < B) (k : Nat) (hk : k < l.length) :
    ∃ b o a' c', a = some ⟨b, o, none⟩ ∧ wr.cell? ⟨b, o + k * 2, none⟩ = some (.string l[k].name) ∧ wr.cell? ⟨b, o + k * 2 + 1, none⟩ = some (.slice a' l[k].args.length c') ∧ TV wr X (.agg #[.string l[k].name, .slice a' l[k].args.length c']) l[k] := by
  have h' := h.below hb hX
  obtain ⟨_, h1⟩ := h'
  rcases h1 with h1 | ⟨b, o, e, h1⟩
  · subst h1; simp at hk
  · obtain ⟨_, h2, a', c', h3, h4⟩ := lies_get _ _ _ h1 k hk
    exact ⟨b, o, a', c', e, h2, h3, a', c', rfl, h4⟩

end Go.Proofs.YtnccaligfnmfgaaDoor

/- Rows of terms that a call makes. -/
namespace Go.Proofs.YtnccaligfnmfgaaDoor
open Go.RowKit
set_option linter.unusedSimpArgs false
set_option linter.unusedVariables false

/-- These cells are these terms. -/
def RowT (w : World) (X : Nat → Prop) : List Tm → List Value → Prop
  | [], xs => xs = []
  | t :: l, xs => ∃ a c r, xs = .string t.name :: .slice a t.args.length c :: r ∧ Sl w X a t.args ∧ RowT w X l r

theorem RowT.len {w : World} {X : Nat → Prop} : ∀ {l : List Tm} {xs : List Value}, RowT w X l xs → xs.length = l.length * 2
  | [], xs, h => by simp [RowT] at h; simp [h]
  | t :: l, xs, h => by
    obtain ⟨a, c, r, rfl, _, h⟩ := h
    simp only [List.length_cons]
    rw [RowT.len h]; omega

theorem RowT.append {w : World} {X : Nat → Prop} : ∀ {l k : List Tm} {xs ys : List Value}, RowT w X l xs → RowT w X k ys → RowT w X (l ++ k) (xs ++ ys)
  | [], k, xs, ys, h, h' => by simp [RowT] at h; subst h; simpa using h'
  | t :: l, k, xs, ys, h, h' => by
    obtain ⟨a, c, r, rfl, hs, h⟩ := h
    exact ⟨a, c, r ++ ys, rfl, hs, RowT.append h h'⟩

theorem RowT.one {w : World} {X : Nat → Prop} : ∀ {l : List Tm} {xs : List Value}, RowT w X l xs → ∀ u ∈ xs, u.oneCell' = true
  | [], xs, h, u, hu => by simp [RowT] at h; subst h; cases hu
  | t :: l, xs, h, u, hu => by
    obtain ⟨a, c, r, rfl, _, h⟩ := h
    rcases List.mem_cons.1 hu with e | hu
    · subst e; rfl
    · rcases List.mem_cons.1 hu with e | hu
      · subst e; rfl
      · exact RowT.one h u hu

theorem RowT.imp {w w' : World} {X Y : Nat → Prop} (hs : ∀ a l, Sl w X a l → Sl w' Y a l) : ∀ {l : List Tm} {xs : List Value}, RowT w X l xs → RowT w' Y l xs
  | [], xs, h => h
  | t :: l, xs, h => by
    obtain ⟨a, c, r, e, h1, h⟩ := h
    exact ⟨a, c, r, e, hs _ _ h1, RowT.imp hs h⟩

theorem RowT.get {w : World} {X : Nat → Prop} : ∀ {l : List Tm} {xs : List Value}, RowT w X l xs → ∀ i (h : i < l.length),
    xs[i * 2]? = some (.string l[i].name) ∧ ∃ a c, xs[i * 2 + 1]? = some (.slice a l[i].args.length c) ∧ Sl w X a l[i].args
  | [], xs, h, i, hi => by simp at hi
  | t :: l, xs, h, i, hi => by
    obtain ⟨a, c, r, rfl, h1, h⟩ := h
    cases i with
    | zero => exact ⟨rfl, a, c, rfl, h1⟩
    | succ i =>
      have := RowT.get h i (by simpa using hi)
      rw [show (i + 1) * 2 = i * 2 + 2 by omega, show i * 2 + 2 + 1 = (i * 2 + 1) + 2 by omega]
      simpa using this

/-- The knots, each ahead of those below it. -/
def preL : List Tm → List Tm
  | [] => []
  | ⟨s, l⟩ :: r => ⟨s, l⟩ :: (preL l ++ preL r)

theorem preL_append (a b : List Tm) : preL (a ++ b) = preL a ++ preL b := by
  induction a with
  | nil => simp [preL]
  | cons t r ih => obtain ⟨s, l⟩ := t; simp [preL, ih]

theorem preL_take (l : List Tm) (k : Nat) (h : k < l.length) : preL (l.take (k + 1)) = preL (l.take k) ++ preL [l[k]] := by
  rw [List.take_succ_eq_append_getElem h, preL_append]

theorem preL_length (l : List Tm) : (preL l).length = sizeL l := by
  induction l using Tm.indL with
  | h0 => simp [preL, sizeL]
  | h s l r ihl ihr => simp [preL, sizeL, ihl, ihr]; omega

/-- Old memory, told by the world that was. -/
theorem Sl.back {w w' : World} {X : Nat → Prop} {a : Option Addr} {l : List Tm} {B : Nat} (h : Sl w' X a l) (hb : Below B w w') (hX : ∀ b, X b → b < B) : Sl w X a l :=
  h.kept fun b hx => (hb.block b (hX b hx)).symm

/-- What a row that is owned says of the slice. -/
theorem owned_val {w : World} {base e size : Nat} {v : Value} {n : Nat} {xs : List Value} (h : w.ownsRow base e size v n xs) (hn : 0 < n) :
    ∃ g cap, v = .slice (some ⟨g, 0, none⟩) n cap ∧ base ≤ g ∧ g < w.heap.size ∧ ∀ j u, xs[j]? = some u → w.cell? ⟨g, j, none⟩ = some u := by
  have h' := h
  obtain ⟨hl, h1⟩ := h
  rcases h1 with ⟨_, h0⟩ | ⟨g, cap, cur, hv, hg, hh, _⟩
  · omega
  · subst hv
    have hlt := (h'.lt g rfl).2
    refine ⟨g, cap, rfl, hg, hlt, fun j u hj => ?_⟩
    have := h'.cells (g := g) rfl j u hj
    by_cases h0 : j = 0
    · subst h0; simpa [Addr.add] using this
    · simpa [Addr.add, h0] using this

/-- An append whose outcome is known. -/
theorem wpList_append_eq {P : Program} {ops : Array Oper} {rest : List Oper} {o : Oper} {a : Act} {Q : Exit → Act → World → Prop} {w w' : World} {v u v' : Value} (hgd : o.guard = none) (s x : Operand) (t t' : TypeId)
    (ho : o.op = .call { callee := .builtin .append, args := #[s, x], argTypes := #[t, t'] }) (hs : a.eval s = v) (hx : a.eval x = u)
    (hr : (Builtin.append_ #[t, t'] o.type #[v, u]).run P w = .ok v' w') (h : wpList P ops Q rest (a.put o.dst v') w') : wpList P ops Q (o :: rest) a w :=
  wpList_plain hgd fun K hK => by
    unfold Oper.wp execOp
    simp only [ho, resolve, invoke, builtin, Sem.run_bind, Sem.run_pure, Result.andThen_ok, List.map_toArray, List.map_cons, List.map_nil, hs, hx, hr]
    exact hK _ _ h

end Go.Proofs.YtnccaligfnmfgaaDoor

/- Walks: how many knots a term has. -/
namespace Go.Proofs.YtnccaligfnmfgaaDoor
open Go.RowKit

/-- Behind a call that makes memory: old cells and marks read as before. -/
theorem bcell {W w1 : World} {B : Nat} (hb : Below B W w1) : (∀ b o, b < B → w1.cell? ⟨b, o, none⟩ = W.cell? ⟨b, o, none⟩) ∧ (∀ b o, b < B → w1.frozen? ⟨b, o, none⟩ = W.frozen? ⟨b, o, none⟩) :=
  ⟨fun b o h => hb.cell (p := ⟨b, o, none⟩) h, fun b o h => hb.frozen (p := ⟨b, o, none⟩) h⟩

theorem sizeL_take (l : List Tm) (k : Nat) (h : k < l.length) : sizeL (l.take (k + 1)) = sizeL (l.take k) + sizeL [l[k]] := by
  rw [List.take_succ_eq_append_getElem h, sizeL_append]

theorem sizeL_take_le (l : List Tm) (k : Nat) : sizeL (l.take k) ≤ sizeL l := by
  have := sizeL_append (l.take k) (l.drop k)
  rw [List.take_append_drop] at this
  omega

theorem ret_int {k : IntKind} {a b : Int} (h : a = b) : Ending.returned (.int k a) = .returned (.int k b) := by rw [h]

/-- Behind a call whose first deed was to lay its parameter down. -/
theorem below_box {w wr : World} {o : Obj} (hb : Below (w.heap.size + 1) (w.alloc o) wr) : Below w.heap.size w wr :=
  ((Below.refl _ _).alloc (Nat.le_refl _) _).trans (hb.mono (Nat.le_succ _))

set_option maxHeartbeats 400000 in
theorem size_any (t : Tm) : ∀ (v : Value) (most : Int) (w : World) (X : Nat → Prop), TV w X v t → 0 ≤ most → most ≤ 1000000 →
    Calls Tryd.prog 15 #[v, .int .i64 most] w fun e w' => e = .returned (.int .i64 (min (sizeL [t]) (most + 1))) ∧ Below w.heap.size w w' := by
  induction t using Tm.ind with
  | h s l ih =>
    intro v most w X hv hm0 hm1
    obtain ⟨a, c, rfl, hs⟩ := hv
    have IH := hide ih
    clear ih
    go_enter Tryd.func15, Tryd.ntmps15
    go_wp2_with fail
    go_loopw [5, 6] (fun n i wr => ∃ k : Nat, k ≤ l.length ∧ i = .int .i64 k ∧ n = .int .i64 (min (1 + sizeL (l.take k)) (most + 1)) ∧ Below (w.heap.size + 1) (w.alloc (Obj.cells #[Value.string s, Value.slice a l.length c] 31)) wr) (fun n i wr => l.length - (intOf i).toNat)
    case atStart => exact ⟨0, Nat.zero_le _, rfl, by simp [sizeL]; omega, Below.refl _ _⟩
    case round =>
      obtain ⟨k, hk, rfl, rfl, hb⟩ := hrel
      have hc := bcell hb
      have c0 : wr.cell? ⟨w.heap.size, 0, none⟩ = some (.string s) := by rw [hc.1 _ _ (by omega)]; simp
      have c1 : wr.cell? ⟨w.heap.size, 1, none⟩ = some (.slice a l.length c) := by rw [hc.1 _ _ (by omega)]; simp
      have hl := hs.1
      have hn : 0 ≤ ((1 : Int) + sizeL (l.take k)) := by omega
      by_cases hlt : k < l.length
      · obtain ⟨b, o, a', c', rfl, d0, d1, hx⟩ := hs.get (((Below.refl _ _).alloc (Nat.le_refl _) _).trans (hb.mono (Nat.le_succ _))) (fun _ _ h => h) k hlt
        by_cases hle : 1 + (sizeL (l.take k) : Int) ≤ most
        · have hmin : min (1 + (sizeL (l.take k) : Int)) (most + 1) = 1 + (sizeL (l.take k) : Int) := by omega
          rw [hmin]
          go_wp2_with fail
          refine (IH.out _ (List.getElem_mem hlt) _ _ _ X hx (by omega) (by omega)).mono ?_
          rintro e w1 ⟨rfl, hb1⟩
          have hsz : w.heap.size + 1 ≤ wr.heap.size := by have := hb.size; simpa using this
          have Hst := hide (sizeL_take l k hlt)
          have hm2 : 0 ≤ min ((sizeL [l[k]] : Int)) (most - (1 + (sizeL (l.take k) : Int)) + 1) := by omega
          have hm3 : min ((sizeL [l[k]] : Int)) (most - (1 + (sizeL (l.take k) : Int)) + 1) ≤ 1000001 := by omega
          go_wp2_with fail
          go_roundw
          case rel => exact ⟨k + 1, by omega, by go_num, by rw [Hst.out]; congr 1; omega, hb.trans (hb1.mono hsz)⟩
          case measure => simp [intOf]; omega
        · have hmin : min (1 + (sizeL (l.take k) : Int)) (most + 1) = most + 1 := by omega
          rw [hmin]
          have hz : (sizeL [(⟨s, l⟩ : Tm)] : Int) = 1 + sizeL l := by simp [sizeL]
          have hle2 : sizeL (l.take k) ≤ sizeL l := sizeL_take_le l k
          have HF := hide (show (most + 1 : Int) = min (sizeL [(⟨s, l⟩ : Tm)] : Int) (most + 1) by omega)
          clear hz
          go_wp2_with fail
          go_ret
          exact ⟨ret_int HF.out, below_box hb⟩
      · have htk : l.take k = l := List.take_of_length_le (by omega)
        rw [htk]
        have hz : (sizeL [(⟨s, l⟩ : Tm)] : Int) = 1 + sizeL l := by simp [sizeL]
        have HZ := hide hz
        clear hz
        go_wp2_with fail
        · go_ret
          exact ⟨ret_int (by have := HZ.out; omega), below_box hb⟩
        · go_ret
          exact ⟨ret_int (by have := HZ.out; omega), below_box hb⟩

end Go.Proofs.YtnccaligfnmfgaaDoor

/- Plain: terms that are put together by ap, the rows that they are, one step, and where steps end. -/
namespace Go.Proofs.YtnccaligfnmfgaaDoor
open Go.RowKit
set_option linter.unusedSimpArgs false
set_option linter.unusedVariables false

def apB : ByteArray := ⟨#[97, 112]⟩
def sB : ByteArray := ⟨#[115]⟩
def kB : ByteArray := ⟨#[107]⟩
def iB : ByteArray := ⟨#[105]⟩
/-- One knot, put together by ap. -/
def okK (t : Tm) : Bool := decide (t.args.length = 0) || (decide (t.name = apB) && decide (t.args.length = 2))
/-- All of these are put together by ap. -/
def isCL : List Tm → Bool
  | [] => true
  | ⟨s, l⟩ :: r => okK ⟨s, l⟩ && isCL l && isCL r
def isC (t : Tm) : Bool := isCL [t]
def apT (f x : Tm) : Tm := ⟨apB, [f, x]⟩
theorem isC_leaf (s : ByteArray) : isC ⟨s, []⟩ = true := by simp [isC, isCL, okK]
theorem isCL_cons (t : Tm) (r : List Tm) : isCL (t :: r) = (isC t && isCL r) := by
  obtain ⟨s, l⟩ := t
  simp [isC, isCL]
theorem isCL_mem {l : List Tm} : isCL l = true ↔ ∀ x ∈ l, isC x = true := by
  induction l with
  | nil => simp [isCL]
  | cons t r ih => simp [isCL_cons, ih]
theorem isC_mk (s : ByteArray) (l : List Tm) : isC ⟨s, l⟩ = (okK ⟨s, l⟩ && isCL l) := by simp [isC, isCL]
theorem isC_ap (f x : Tm) : isC (apT f x) = (isC f && isC x) := by
  simp [apT, isC_mk, okK, isCL_cons, isCL]
theorem isC_cases {t : Tm} (h : isC t = true) : (∃ s, t = ⟨s, []⟩) ∨ ∃ f x, t = apT f x ∧ isC f = true ∧ isC x = true := by
  obtain ⟨s, l⟩ := t
  rw [isC_mk] at h
  simp only [okK, Bool.and_eq_true, Bool.or_eq_true, decide_eq_true_eq] at h
  obtain ⟨h1 | ⟨h1, h2⟩, h3⟩ := h
  · exact Or.inl ⟨s, by rw [List.length_eq_zero_iff.1 h1]⟩
  · obtain ⟨f, x, rfl⟩ : ∃ f x, l = [f, x] := by
      match l, h2 with
      | [f, x], _ => exact ⟨f, x, rfl⟩
    have h1' : s = apB := h1
    have := isCL_mem.1 h3
    exact Or.inr ⟨f, x, by rw [h1']; rfl, this f (by simp), this x (by simp)⟩
theorem sizeL_one (s : ByteArray) (l : List Tm) : sizeL [⟨s, l⟩] = 1 + sizeL l := by simp [sizeL]
theorem sizeL_cons1 (t : Tm) (r : List Tm) : sizeL (t :: r) = sizeL [t] + sizeL r := by
  rw [show t :: r = [t] ++ r from rfl, sizeL_append]
theorem size_ap (f x : Tm) : sizeL [apT f x] = 1 + sizeL [f] + sizeL [x] := by
  rw [apT, sizeL_one, sizeL_cons1]; omega
theorem size_posC (t : Tm) : 0 < sizeL [t] := by obtain ⟨s, l⟩ := t; rw [sizeL_one]; omega

/-- The row that a term is: its front, and what that is applied to. -/
def rowR : Nat → Tm → Tm × List Tm
  | 0, t => (t, [])
  | n + 1, ⟨s, [f, x]⟩ => ((rowR n f).1, (rowR n f).2 ++ [x])
  | _ + 1, t => (t, [])
def rowH (t : Tm) : Tm := (rowR (sizeL [t]) t).1
def rowL (t : Tm) : List Tm := (rowR (sizeL [t]) t).2
theorem rowR_more (n : Nat) : ∀ (t : Tm) (m : Nat), sizeL [t] ≤ n → n ≤ m → rowR m t = rowR n t := by
  induction n with
  | zero => intro t m h _; have := size_posC t; omega
  | succ n ih =>
    intro t m h hm
    obtain ⟨m, rfl⟩ : ∃ k, m = k + 1 := ⟨m - 1, by omega⟩
    obtain ⟨s, l⟩ := t
    match l, h with
    | [], _ => rfl
    | [_], _ => rfl
    | [f, x], h =>
      have hs : sizeL [(⟨s, [f, x]⟩ : Tm)] = 1 + sizeL [f] + sizeL [x] := by rw [sizeL_one, sizeL_cons1]; omega
      have := size_posC x
      simp only [rowR]
      rw [ih f m (by omega) (by omega)]
    | _ :: _ :: _ :: _, _ => rfl
theorem row_leaf (s : ByteArray) : rowH ⟨s, []⟩ = ⟨s, []⟩ ∧ rowL ⟨s, []⟩ = [] := by
  simp [rowH, rowL, sizeL_one, sizeL, rowR]
theorem row_ap (f x : Tm) : rowH (apT f x) = rowH f ∧ rowL (apT f x) = rowL f ++ [x] := by
  have h := size_ap f x
  have h2 := rowR_more (sizeL [f]) f (sizeL [f] + sizeL [x]) (Nat.le_refl _) (by omega)
  rw [rowH, rowL, h, show 1 + sizeL [f] + sizeL [x] = sizeL [f] + sizeL [x] + 1 by omega]
  simp only [apT, rowR, h2, rowH, rowL]
  simp
theorem row_facts (n : Nat) : ∀ t : Tm, sizeL [t] ≤ n → isC t = true → (rowH t).args = [] ∧ isC (rowH t) = true ∧ (∀ x ∈ rowL t, isC x = true ∧ sizeL [x] < sizeL [t]) ∧ (rowL t).length < sizeL [t] := by
  induction n with
  | zero => intro t h; have := size_posC t; omega
  | succ n ih =>
    intro t h hc
    rcases isC_cases hc with ⟨s, rfl⟩ | ⟨f, x, rfl, h1, h2⟩
    · rw [(row_leaf s).1, (row_leaf s).2]
      exact ⟨rfl, hc, by simp, by simp [sizeL]⟩
    · have hs := size_ap f x
      have hx := size_posC x
      obtain ⟨a1, a2, a3, a4⟩ := ih f (by omega) h1
      rw [(row_ap f x).1, (row_ap f x).2]
      refine ⟨a1, a2, fun y hy => ?_, by simp; omega⟩
      rcases List.mem_append.1 hy with hy | hy
      · have := a3 y hy; exact ⟨this.1, by omega⟩
      · simp at hy; subst hy; exact ⟨h2, by omega⟩
def apAll (h : Tm) (l : List Tm) : Tm := l.foldl apT h
theorem isC_apAll (l : List Tm) : ∀ h, isC h = true → (∀ x ∈ l, isC x = true) → isC (apAll h l) = true := by
  induction l with
  | nil => intro h hh _; exact hh
  | cons x r ih => intro h hh hl; exact ih _ (by rw [isC_ap, hh, hl x (by simp)]; rfl) fun y hy => hl y (by simp [hy])
/-- What a row comes to by the symbol at its front. -/
def workC (s : ByteArray) : List Tm → Option Tm
  | [] => none
  | x :: l => if s = iB then some (apAll x l) else
    match l with
    | [] => none
    | y :: l => if s = kB then some (apAll x l) else
      match l with
      | [] => none
      | z :: l => if s = sB then some (apAll (apT (apT x z) (apT y z)) l) else none
theorem workC_isC {s : ByteArray} {l : List Tm} {x : Tm} (hl : ∀ y ∈ l, isC y = true) (h : workC s l = some x) : isC x = true := by
  match l with
  | [] => simp [workC] at h
  | a :: l =>
    simp only [workC] at h
    by_cases h1 : s = iB
    · rw [if_pos h1] at h; cases h; exact isC_apAll _ _ (hl a (by simp)) fun y hy => hl y (by simp [hy])
    · rw [if_neg h1] at h
      match l with
      | [] => cases h
      | b :: l =>
        dsimp only at h
        by_cases h2 : s = kB
        · rw [if_pos h2] at h; cases h; exact isC_apAll _ _ (hl a (by simp)) fun y hy => hl y (by simp [hy])
        · rw [if_neg h2] at h
          match l with
          | [] => cases h
          | c :: l =>
            dsimp only at h
            by_cases h3 : s = sB
            · rw [if_pos h3] at h; cases h
              exact isC_apAll _ _ (by simp [isC_ap, hl a, hl b, hl c]) fun y hy => hl y (by simp [hy])
            · rw [if_neg h3] at h; cases h
/-- The first of a row that a step is found in. -/
def firstC (f : Tm → Option Tm) (h : Tm) : List Tm → List Tm → Option Tm
  | _, [] => none
  | pre, x :: r => match f x with
    | some y => some (apAll h (pre ++ y :: r))
    | none => firstC f h (pre ++ [x]) r
theorem firstC_isC {f : Tm → Option Tm} {h x : Tm} (hf : ∀ y z, f y = some z → isC y = true → isC z = true) (hh : isC h = true) : ∀ (r pre : List Tm), (∀ y ∈ pre, isC y = true) → (∀ y ∈ r, isC y = true) → firstC f h pre r = some x → isC x = true := by
  intro r
  induction r with
  | nil => intro pre _ _ h; simp [firstC] at h
  | cons a r ih =>
    intro pre hp hr hx
    rw [firstC] at hx
    cases ha : f a with
    | some y =>
      rw [ha] at hx
      cases hx
      refine isC_apAll _ _ hh fun z hz => ?_
      rcases List.mem_append.1 hz with hz | hz
      · exact hp z hz
      · rcases List.mem_cons.1 hz with rfl | hz
        · exact hf a _ ha (hr a (by simp))
        · exact hr z (by simp [hz])
    | none =>
      rw [ha] at hx
      exact ih _ (fun y hy => by rcases List.mem_append.1 hy with hy | hy; exact hp y hy; simp at hy; subst hy; exact hr _ (by simp)) (fun y hy => hr y (by simp [hy])) hx
/-- One step; none: there is none. -/
def stepN : Nat → Tm → Option Tm
  | 0, _ => none
  | n + 1, t => match workC (rowH t).name (rowL t) with
    | some x => some x
    | none => firstC (stepN n) (rowH t) [] (rowL t)
theorem stepN_isC (n : Nat) : ∀ t x, stepN n t = some x → isC t = true → isC x = true := by
  induction n with
  | zero => intro t x h; simp [stepN] at h
  | succ n ih =>
    intro t x h hc
    have hr := row_facts _ t (Nat.le_refl _) hc
    rw [stepN] at h
    cases hw : workC (rowH t).name (rowL t) with
    | some y => rw [hw] at h; cases h; exact workC_isC (fun y hy => (hr.2.2.1 y hy).1) hw
    | none => rw [hw] at h; exact firstC_isC ih hr.2.1 _ [] (by simp) (fun y hy => (hr.2.2.1 y hy).1) h
/-- Where steps end: what is wrong, the term, how many steps. -/
def endC : Nat → Tm → Int × Tm × Nat
  | 0, t => match stepN 2001 t with
    | none => (0, t, 0)
    | some _ => (9, t, 0)
  | k + 1, t => match stepN 2001 t with
    | none => (0, t, 0)
    | some x => if 2000 < sizeL [x] then (8, t, 0) else ((endC k x).1, (endC k x).2.1, (endC k x).2.2 + 1)
theorem endC_fuel {t x : Tm} (h : stepN 2001 t = some x) : (endC 0 t).1 = 9 := by simp [endC, h]
theorem endC_on {k : Nat} {t x : Tm} (h : stepN 2001 t = some x) (hs : ¬2000 < sizeL [x]) : (endC (k + 1) t).1 = (endC k x).1 ∧ (endC (k + 1) t).2.1 = (endC k x).2.1 ∧ (endC (k + 1) t).2.2 = (endC k x).2.2 + 1 := by simp [endC, h, hs]
/-- So many steps of at most m are done, and t is come to. -/
def OnWay (m : Nat) (t0 : Tm) (d : Nat) (t : Tm) : Prop := d ≤ m ∧ (endC m t0).1 = (endC (m - d) t).1 ∧ (endC m t0).2.1 = (endC (m - d) t).2.1 ∧ (endC m t0).2.2 = (endC (m - d) t).2.2 + d ∧ isC t = true ∧ sizeL [t] ≤ 2000
theorem OnWay.fuel {m : Nat} {t0 t x : Tm} (h : OnWay m t0 m t) (hn : stepN 2001 t = some x) : (endC m t0).1 = 9 := by
  obtain ⟨h0, h1, _⟩ := h
  rw [h1, Nat.sub_self]; exact endC_fuel hn
theorem OnWay.on {m d : Nat} {t0 t x : Tm} (h : OnWay m t0 d t) (hd : d ≠ m) (hn : stepN 2001 t = some x) (hs : ¬2000 < sizeL [x]) : OnWay m t0 (d + 1) x := by
  obtain ⟨h0, h1, h2, h3, h4, h5⟩ := h
  rw [show m - d = (m - (d + 1)) + 1 by omega] at h1 h2 h3
  obtain ⟨e1, e2, e3⟩ := endC_on (k := m - (d + 1)) hn hs
  exact ⟨by omega, by rw [h1, e1], by rw [h2, e2], by rw [h3, e3]; omega, stepN_isC _ _ _ hn h4, by omega⟩
end Go.Proofs.YtnccaligfnmfgaaDoor

/- Plain: steps by i, k and s come together again (parallel steps; towards TopBracket). -/
namespace Go.Proofs.YtnccaligfnmfgaaDoor
set_option linter.unusedSimpArgs false
set_option linter.unusedVariables false

/-- Terms put together of i, k, s and other leaves. -/
inductive CT where
  | I
  | K
  | S
  | at (s : ByteArray)
  | ap (f x : CT)
/-- Some steps at once, none within another one's outcome. -/
inductive CPar : CT → CT → Prop
  | refl (t : CT) : CPar t t
  | ap {f f' x x' : CT} : CPar f f' → CPar x x' → CPar (.ap f x) (.ap f' x')
  | i {x x' : CT} : CPar x x' → CPar (.ap .I x) x'
  | k {x x' y : CT} : CPar x x' → CPar (.ap (.ap .K x) y) x'
  | s {x x' y y' z z' : CT} : CPar x x' → CPar y y' → CPar z z' → CPar (.ap (.ap (.ap .S x) y) z) (.ap (.ap x' z') (.ap y' z'))
theorem CPar.atom_K {t : CT} (h : CPar .K t) : t = .K := by cases h; rfl
theorem CPar.atom_S {t : CT} (h : CPar .S t) : t = .S := by cases h; rfl
theorem CPar.k1 {x t : CT} (h : CPar (.ap .K x) t) : ∃ x', t = .ap .K x' ∧ CPar x x' := by
  cases h with
  | refl => exact ⟨x, rfl, .refl _⟩
  | ap h1 h2 => rw [h1.atom_K]; exact ⟨_, rfl, h2⟩
theorem CPar.s1 {x t : CT} (h : CPar (.ap .S x) t) : ∃ x', t = .ap .S x' ∧ CPar x x' := by
  cases h with
  | refl => exact ⟨x, rfl, .refl _⟩
  | ap h1 h2 => rw [h1.atom_S]; exact ⟨_, rfl, h2⟩
theorem CPar.s2 {x y t : CT} (h : CPar (.ap (.ap .S x) y) t) : ∃ x' y', t = .ap (.ap .S x') y' ∧ CPar x x' ∧ CPar y y' := by
  cases h with
  | refl => exact ⟨x, y, rfl, .refl _, .refl _⟩
  | ap h1 h2 =>
    obtain ⟨x', rfl, hx⟩ := h1.s1
    exact ⟨x', _, rfl, hx, h2⟩
/-- Many steps. -/
inductive CStar : CT → CT → Prop
  | refl (t : CT) : CStar t t
  | step {a b c : CT} : CPar a b → CStar b c → CStar a c
end Go.Proofs.YtnccaligfnmfgaaDoor

/- Plain: the document's steps by i, k and s are steps that come together again; where it finds none, none is left (towards TopBracket). -/
namespace Go.Proofs.YtnccaligfnmfgaaDoor
set_option linter.unusedSimpArgs false
set_option linter.unusedVariables false

def leafC (s : ByteArray) : CT := if s = iB then .I else if s = kB then .K else if s = sB then .S else .at s
def toCR : Nat → Tm → CT
  | 0, t => .at t.name
  | n + 1, ⟨s, [f, x]⟩ => .ap (toCR n f) (toCR n x)
  | _ + 1, t => leafC t.name
def toC (t : Tm) : CT := toCR (sizeL [t]) t
theorem toCR_more (n : Nat) : ∀ (t : Tm) (m : Nat), isC t = true → sizeL [t] ≤ n → n ≤ m → toCR m t = toCR n t := by
  induction n with
  | zero => intro t m _ h; have := size_posC t; omega
  | succ n ih =>
    intro t m hc h hm
    obtain ⟨m, rfl⟩ : ∃ k, m = k + 1 := ⟨m - 1, by omega⟩
    rcases isC_cases hc with ⟨s, rfl⟩ | ⟨f, x, rfl, h1, h2⟩
    · rfl
    · have hs := size_ap f x
      have a1 := size_posC f
      have a2 := size_posC x
      simp only [apT, toCR]
      rw [ih f m h1 (by omega) (by omega), ih x m h2 (by omega) (by omega)]
theorem toC_leaf (s : ByteArray) : toC ⟨s, []⟩ = leafC s := by simp [toC, sizeL_one, sizeL, toCR]
theorem toC_ap {f x : Tm} (h1 : isC f = true) (h2 : isC x = true) : toC (apT f x) = .ap (toC f) (toC x) := by
  have h := size_ap f x
  have a1 := size_posC f
  have a2 := size_posC x
  rw [toC, h, show 1 + sizeL [f] + sizeL [x] = (sizeL [f] + sizeL [x]) + 1 by omega]
  simp only [apT, toCR]
  rw [toCR_more (sizeL [f]) f _ h1 (Nat.le_refl _) (by omega), toCR_more (sizeL [x]) x _ h2 (Nat.le_refl _) (by omega)]
  rfl
theorem leafC_i : leafC iB = .I := by simp [leafC]
theorem leafC_k : leafC kB = .K := by unfold leafC; rw [if_neg (by decide), if_pos rfl]
theorem leafC_s : leafC sB = .S := by unfold leafC; rw [if_neg (by decide), if_neg (by decide), if_pos rfl]
end Go.Proofs.YtnccaligfnmfgaaDoor

/- Plain: where steps by i, k and s end well, the end is the only one; a bracket's law follows from steps (towards TopBracket). -/
namespace Go.Proofs.YtnccaligfnmfgaaDoor
set_option linter.unusedSimpArgs false
set_option linter.unusedVariables false

theorem CStar.trans {a b c : CT} (h : CStar a b) (h1 : CStar b c) : CStar a c := by
  induction h with
  | refl t => exact h1
  | step h2 _ ih => exact .step h2 (ih h1)
theorem CStar.one {a b : CT} (h : CPar a b) : CStar a b := .step h (.refl _)
theorem CStar.ap {f f' x x' : CT} (h1 : CStar f f') (h2 : CStar x x') : CStar (.ap f x) (.ap f' x') := by
  have e1 : CStar (.ap f x) (.ap f' x) := by
    induction h1 with
    | refl t => exact .refl _
    | step h _ ih => exact .step (.ap h (.refl _)) ih
  have e2 : CStar (.ap f' x) (.ap f' x') := by
    clear e1
    induction h2 with
    | refl t => exact .refl _
    | step h _ ih => exact .step (.ap (.refl _) h) ih
  exact e1.trans e2
end Go.Proofs.YtnccaligfnmfgaaDoor

/- Bindings in memory. -/
namespace Go.Proofs.YtnccaligfnmfgaaDoor
open Go.RowKit
set_option linter.unusedSimpArgs false
set_option linter.unusedVariables false

/-- A variable and what stands for it. -/
structure Bd where
  nm : ByteArray
  t : Tm

/-- A list of bindings in memory. -/
def BV (w : World) (X : Nat → Prop) (v : Value) (l : List Bd) : Prop :=
  ∃ a c, v = .slice a l.length c ∧ (l.length ≤ 9223372036854775807 ∧ l.length ≤ c) ∧ (l = [] ∨ ∃ b o, a = some ⟨b, o, none⟩ ∧ X b ∧ ∀ i (h : i < l.length), w.cell? ⟨b, o + i * 3, none⟩ = some (.string l[i].nm) ∧ w.cell? ⟨b, o + i * 3 + 1, none⟩ = some (.string l[i].t.name) ∧ ∃ a' c', w.cell? ⟨b, o + i * 3 + 2, none⟩ = some (.slice a' l[i].t.args.length c') ∧ Sl w X a' l[i].t.args)

theorem BV.kept {w w' : World} {X : Nat → Prop} {v : Value} {l : List Bd} (h : BV w X v l) (hk : ∀ b, X b → w'.heap[b]? = w.heap[b]?) : BV w' X v l := by
  obtain ⟨a, c, e, hl, h⟩ := h
  refine ⟨a, c, e, hl, ?_⟩
  rcases h with h | ⟨b, o, ea, hX, h⟩
  · exact Or.inl h
  · refine Or.inr ⟨b, o, ea, hX, fun i hi => ?_⟩
    obtain ⟨h1, h2, a', c', h3, h4⟩ := h i hi
    have hb := hk b hX
    exact ⟨by simpa [World.cell?, hb] using h1, by simpa [World.cell?, hb] using h2, a', c', by simpa [World.cell?, hb] using h3, h4.kept hk⟩
theorem cell_lt {w : World} {b o : Nat} {v : Value} (h : w.cell? ⟨b, o, none⟩ = some v) : b < w.heap.size := by
  rcases Nat.lt_or_ge b w.heap.size with h' | h'
  · exact h'
  · simp [World.cell?, Array.getElem?_eq_none h'] at h
theorem BV.mono {w : World} {X Y : Nat → Prop} {v : Value} {l : List Bd} (h : BV w X v l) (hk : ∀ b, X b → b < w.heap.size → Y b) : BV w Y v l := by
  obtain ⟨a, c, e, hl, h⟩ := h
  refine ⟨a, c, e, hl, ?_⟩
  rcases h with h | ⟨b, o, ea, hX, h⟩
  · exact Or.inl h
  · by_cases h0 : l = []
    · exact Or.inl h0
    · have hp : 0 < l.length := List.length_pos_iff.2 h0
      refine Or.inr ⟨b, o, ea, hk b hX (cell_lt (h 0 hp).1), fun i hi => ?_⟩
      obtain ⟨h1, h2, a', c', h3, h4⟩ := h i hi
      exact ⟨h1, h2, a', c', h3, h4.mono hk⟩
theorem BV.later {w w' : World} {X : Nat → Prop} {v : Value} {l : List Bd} (h : BV w X v l) (hb : Below w.heap.size w w') : BV w' X v l :=
  ((h.mono (Y := fun b => X b ∧ b < w.heap.size) fun b h1 h2 => ⟨h1, h2⟩).kept fun b hx => hb.block b hx.2).mono fun b hx _ => hx.1
theorem BV.alloc {w : World} {X : Nat → Prop} {v : Value} {l : List Bd} (h : BV w X v l) (o : Obj) : BV (w.alloc o) X v l := h.later ((Below.refl _ _).alloc (Nat.le_refl _) o)
theorem BV.get {w : World} {X : Nat → Prop} {a : Option Addr} {n c : Nat} {l : List Bd} (h : BV w X (.slice a n c) l) (i : Nat) (hi : i < l.length) :
    ∃ b o a' c', a = some ⟨b, o, none⟩ ∧ w.cell? ⟨b, o + i * 3, none⟩ = some (.string l[i].nm) ∧ w.cell? ⟨b, o + i * 3 + 1, none⟩ = some (.string l[i].t.name) ∧ w.cell? ⟨b, o + i * 3 + 2, none⟩ = some (.slice a' l[i].t.args.length c') ∧ Sl w X a' l[i].t.args := by
  obtain ⟨a2, c2, e, hl, h⟩ := h
  simp at e
  obtain ⟨rfl, rfl, rfl⟩ := e
  rcases h with h | ⟨b, o, ea, hX, h⟩
  · subst h; simp at hi
  · obtain ⟨h1, h2, a', c', h3, h4⟩ := h i hi
    exact ⟨b, o, a', c', ea, h1, h2, h3, h4⟩

theorem bytes_inj {a b : ByteArray} (h : a.toList = b.toList) : a = b := by
  rw [ByteArray.toList_eq, ByteArray.toList_eq] at h
  cases a with
  | mk x =>
    cases b with
    | mk y => congr 1; exact Array.toList_inj.1 h
theorem bytes_yes {a b : ByteArray} (h : a = b) : (a.toList == b.toList) = true := by rw [h]; simp
theorem bytes_no {a b : ByteArray} (h : a ≠ b) : (a.toList == b.toList) = false := beq_eq_false_iff_ne.2 fun e => h (bytes_inj e)

/-- What stands for a variable. -/
def forT : List Bd → ByteArray → Option Tm
  | [], _ => none
  | d :: r, n => if d.nm = n then some d.t else forT r n
end Go.Proofs.YtnccaligfnmfgaaDoor

/- A term with what stands for its variables, as the document says. -/
namespace Go.Proofs.YtnccaligfnmfgaaDoor
set_option linter.unusedSimpArgs false
set_option linter.unusedVariables false

/-- A knot with what stands for it, or above what has been made of those below. -/
def onN (l : List Bd) (s : ByteArray) (es0 bs : List Tm) : Tm :=
  match forT l s with
  | some x => if es0.isEmpty = true then x else ⟨s, bs⟩
  | none => ⟨s, bs⟩
def onL (l : List Bd) : List Tm → List Tm
  | [] => []
  | ⟨s, es0⟩ :: r => onN l s es0 (onL l es0) :: onL l r
def onT (l : List Bd) (t : Tm) : Tm := onN l t.name t.args (onL l t.args)

theorem onL_cons (l : List Bd) (t : Tm) (r : List Tm) : onL l (t :: r) = onT l t :: onL l r := by
  obtain ⟨s, es0⟩ := t
  simp only [onL, onT]
theorem onT_some {l : List Bd} {s : ByteArray} {x : Tm} (h : forT l s = some x) : onT l ⟨s, []⟩ = x := by simp [onT, onN, h]
theorem onT_deep {l : List Bd} {s : ByteArray} {es0 : List Tm} (h : es0 ≠ [] ∨ forT l s = none) : onT l ⟨s, es0⟩ = ⟨s, onL l es0⟩ := by
  unfold onT onN
  rcases h with h | h
  · cases forT l s with
    | none => rfl
    | some x => simp [h]
  · rw [h]
end Go.Proofs.YtnccaligfnmfgaaDoor

/- Plain: what a bracket is, and that, applied to a thing, it comes to the term with the thing in it (towards TopBracket). -/
namespace Go.Proofs.YtnccaligfnmfgaaDoor
set_option linter.unusedSimpArgs false
set_option linter.unusedVariables false

/-- A bracket's outcome, made such a term in any case. -/
def alw (p : Tm × Bool) : Tm := if p.2 = true then p.1 else apT ⟨kB, []⟩ p.1
/-- Such a term; or the term itself, where the variable doesn't stand in it. -/
def brR (v : ByteArray) : Nat → Tm → Tm × Bool
  | 0, t => (t, false)
  | n + 1, ⟨s, l⟩ => if s = v then (⟨iB, []⟩, true) else
    match l with
    | [f, x] => if (brR v n f).2 = false ∧ (brR v n x).2 = false then (⟨s, l⟩, false) else
        if (brR v n f).2 = false ∧ x.name = v then ((brR v n f).1, true) else
        (apT (apT ⟨sB, []⟩ (alw (brR v n f))) (alw (brR v n x)), true)
    | _ => (⟨s, l⟩, false)
theorem on_leaf1 (v s : ByteArray) (x : Tm) : onT [⟨v, x⟩] ⟨s, []⟩ = if v = s then x else ⟨s, []⟩ := by
  by_cases h : v = s
  · rw [if_pos h]; exact onT_some (by simp [forT, h])
  · rw [if_neg h, onT_deep (Or.inr (by simp [forT, h]))]; simp [onL]
theorem on_ap1 {v : ByteArray} (hv : v ≠ apB) (x f y : Tm) : onT [⟨v, x⟩] (apT f y) = apT (onT [⟨v, x⟩] f) (onT [⟨v, x⟩] y) := by
  unfold apT
  rw [onT_deep (Or.inl (by simp))]
  rw [onL_cons, onL_cons]
  simp [onL]
/-- What a bracket is worth. -/
theorem br_law {v : ByteArray} (hv : v ≠ apB) {x : Tm} (hx : isC x = true) (n : Nat) : ∀ t : Tm, sizeL [t] ≤ n → isC t = true →
    isC (brR v n t).1 = true ∧ isC (onT [⟨v, x⟩] t) = true ∧ ((brR v n t).2 = false → (brR v n t).1 = t ∧ onT [⟨v, x⟩] t = t) ∧ CStar (.ap (toC (alw (brR v n t))) (toC x)) (toC (onT [⟨v, x⟩] t)) := by
  induction n with
  | zero => intro t h; have := size_posC t; omega
  | succ n ih =>
    intro t h hc
    rcases isC_cases hc with ⟨s, rfl⟩ | ⟨f, y, rfl, h1, h2⟩
    · rw [on_leaf1]
      by_cases e : s = v
      · subst e
        rw [if_pos rfl]
        have e1 : brR s (n + 1) ⟨s, []⟩ = (⟨iB, []⟩, true) := by simp [brR]
        rw [e1]
        refine ⟨isC_leaf _, hx, by simp, ?_⟩
        simp only [alw, if_true]
        rw [toC_leaf, leafC_i]
        exact .one (.i (.refl _))
      · have e1 : brR v (n + 1) ⟨s, []⟩ = (⟨s, []⟩, false) := by simp [brR, e]
        rw [e1, if_neg (fun h => e h.symm)]
        refine ⟨isC_leaf _, isC_leaf _, fun _ => ⟨rfl, rfl⟩, ?_⟩
        have e2 : alw ((⟨s, []⟩ : Tm), false) = apT ⟨kB, []⟩ ⟨s, []⟩ := by simp [alw]
        rw [e2, toC_ap (isC_leaf _) (isC_leaf _), toC_leaf kB, leafC_k]
        exact .one (.k (.refl _))
    · have hs := size_ap f y
      have a1 := size_posC f
      have a2 := size_posC y
      obtain ⟨f1, f2, f3, f4⟩ := ih f (by omega) h1
      obtain ⟨y1, y2, y3, y4⟩ := ih y (by omega) h2
      have hna : ¬ apB = v := fun h => hv h.symm
      have e0 : brR v (n + 1) (apT f y) = if (brR v n f).2 = false ∧ (brR v n y).2 = false then (apT f y, false) else
        if (brR v n f).2 = false ∧ y.name = v then ((brR v n f).1, true) else
        (apT (apT ⟨sB, []⟩ (alw (brR v n f))) (alw (brR v n y)), true) := by
        unfold apT
        rw [brR, if_neg hna]
        rfl
      have hcaf : isC (alw (brR v n f)) = true := by unfold alw; split; exact f1; rw [isC_ap, isC_leaf, f1]; rfl
      have hcay : isC (alw (brR v n y)) = true := by unfold alw; split; exact y1; rw [isC_ap, isC_leaf, y1]; rfl
      have hon : isC (apT (onT [⟨v, x⟩] f) (onT [⟨v, x⟩] y)) = true := by rw [isC_ap, f2, y2]; rfl
      rw [e0, on_ap1 hv]
      by_cases c1 : (brR v n f).2 = false ∧ (brR v n y).2 = false
      · rw [if_pos c1]
        have g1 := (f3 c1.1).2
        have g2 := (y3 c1.2).2
        refine ⟨hc, hon, fun _ => ⟨rfl, by rw [g1, g2]⟩, ?_⟩
        have e2 : alw (apT f y, false) = apT ⟨kB, []⟩ (apT f y) := by simp [alw]
        rw [e2, toC_ap (isC_leaf _) hc, toC_leaf, leafC_k, g1, g2]
        exact .one (.k (.refl _))
      · rw [if_neg c1]
        by_cases c2 : (brR v n f).2 = false ∧ y.name = v
        · rw [if_pos c2]
          have g1 := f3 c2.1
          have hy : y = ⟨v, []⟩ := by
            rcases isC_cases h2 with ⟨q, rfl⟩ | ⟨p, q, rfl, _, _⟩
            · have := c2.2; simp only at this; rw [this]
            · exact absurd c2.2 hna
          refine ⟨f1, hon, by simp, ?_⟩
          have e2 : alw ((brR v n f).1, true) = f := by simp [alw, g1.1]
          rw [e2, g1.2, hy, on_leaf1, if_pos rfl, toC_ap h1 hx]
          exact .refl _
        · rw [if_neg c2]
          refine ⟨by rw [isC_ap, isC_ap, isC_leaf, hcaf, hcay]; rfl, hon, by simp, ?_⟩
          have e2 : ∀ q : Tm, alw (q, true) = q := fun q => by simp [alw]
          rw [e2, toC_ap (by rw [isC_ap, isC_leaf, hcaf]; rfl) hcay, toC_ap (isC_leaf _) hcaf, toC_leaf, leafC_s, toC_ap f2 y2]
          exact (CStar.one (.s (.refl _) (.refl _) (.refl _))).trans (.ap f4 y4)
end Go.Proofs.YtnccaligfnmfgaaDoor


/- Walks: letters, digits, names. -/
namespace Go.Proofs.YtnccaligfnmfgaaDoor
open Go.RowKit
set_option linter.unusedSimpArgs false
set_option linter.unusedVariables false

end Go.Proofs.YtnccaligfnmfgaaDoor


/- Walks: which texts are names, and which of them are variables'. -/
namespace Go.Proofs.YtnccaligfnmfgaaDoor
open Go.RowKit
set_option linter.unusedSimpArgs false
set_option linter.unusedVariables false

end Go.Proofs.YtnccaligfnmfgaaDoor


/- Walks: counting knots with a bound; what is wrong with a term. -/
namespace Go.Proofs.YtnccaligfnmfgaaDoor
open Go.RowKit
set_option linter.unusedSimpArgs false
set_option linter.unusedVariables false

theorem argsOf_any (s : ByteArray) (a : Option Addr) (n c : Nat) (w : World) :
    Calls Tryd.prog 45 #[.agg #[.string s, .slice a n c]] w fun e w' => e = .returned (.slice a n c) ∧ w' = w.alloc (.cells #[.string s, .slice a n c] 31) := by
  go_enter Tryd.func45, Tryd.ntmps45
  go_wp2_with fail
  go_ret
  exact ⟨rfl, rfl⟩

set_option maxHeartbeats 400000 in
theorem countOn_any (M : Int) (hM0 : 0 ≤ M) (hM1 : M ≤ 1000000) (t : Tm) : ∀ (v : Value) (n : Int) (w : World) (X : Nat → Prop), TV w X v t → 0 ≤ n → n ≤ M →
    Calls Tryd.prog 51 #[v, .func (.func 45) #[] #[], .int .i64 M, .int .i64 n] w fun e w' => e = .returned (.int .i64 (min (n + sizeL [t]) (M + 1))) ∧ Below w.heap.size w w' := by
  induction t using Tm.ind with
  | h s l ih =>
    intro v n w X hv hn0 hn1
    obtain ⟨a, c, rfl, hs⟩ := hv
    have IH := hide ih
    clear ih
    have hz : Hid ((sizeL [(⟨s, l⟩ : Tm)] : Int) = 1 + sizeL l) := by simp [Hid, sizeL]
    go_enter Tryd.func51, Tryd.ntmps51
    go_wp2_with (go_at_call 45; refine (argsOf_any _ _ _ _ _).mono ?_; rintro e w' ⟨rfl, rfl⟩)
    have hB0 : Hid (Below w.heap.size w ((w.alloc (Obj.cells #[Value.string s, Value.slice a l.length c] 31)).alloc (Obj.cells #[Value.string s, Value.slice a l.length c] 31))) := ((Below.refl _ _).alloc (Nat.le_refl _) _).alloc (by simp) _
    have hZ0 : Hid (w.heap.size + 2 ≤ ((w.alloc (Obj.cells #[Value.string s, Value.slice a l.length c] 31)).alloc (Obj.cells #[Value.string s, Value.slice a l.length c] 31)).heap.size) := by simp [Hid]
    generalize ((w.alloc (Obj.cells #[Value.string s, Value.slice a l.length c] 31)).alloc (Obj.cells #[Value.string s, Value.slice a l.length c] 31)) = w0 at *
    go_loopw [9, 18] (fun m i wr => ∃ k : Nat, k ≤ l.length ∧ i = .int .i64 k ∧ m = .int .i64 (min (n + 1 + sizeL (l.take k)) (M + 1)) ∧ Below w.heap.size w wr) (fun m i wr => l.length - (intOf i).toNat)
    case atStart => exact ⟨0, Nat.zero_le _, rfl, by rw [show sizeL (l.take 0) = 0 by simp [sizeL]]; congr 1; omega, hB0.out⟩
    case round =>
      obtain ⟨k, hk, rfl, rfl, hb⟩ := hrel
      have hl := hs.1
      have hsz : w.heap.size ≤ wr.heap.size := hb.size
      by_cases hlt : k < l.length
      · obtain ⟨b, o, a', c', rfl, d0, d1, hx⟩ := hs.get hb (fun _ _ h => h) k hlt
        by_cases hle : n + 1 + (sizeL (l.take k) : Int) ≤ M
        · have hmin : min (n + 1 + (sizeL (l.take k) : Int)) (M + 1) = n + 1 + (sizeL (l.take k) : Int) := by omega
          rw [hmin]
          go_wp2_with fail
          refine (IH.out _ (List.getElem_mem hlt) _ _ _ X (hx.alloc _) (by omega) (by omega)).mono ?_
          rintro e w1 ⟨rfl, hb1⟩
          have Hst := hide (sizeL_take l k hlt)
          go_wp2_with fail
          go_roundw
          case rel => exact ⟨k + 1, by omega, by go_num, by rw [Hst.out]; congr 1; omega, (hb.alloc hsz _).trans (hb1.mono (by simp; omega))⟩
          case measure => simp [intOf]; omega
        · have hmin : min (n + 1 + (sizeL (l.take k) : Int)) (M + 1) = M + 1 := by omega
          rw [hmin]
          have hle2 : sizeL (l.take k) ≤ sizeL l := sizeL_take_le l k
          go_wp2_with fail
          go_ret
          refine ⟨ret_int (by have := hz.out; omega), ?_⟩
          exact hb.alloc (by omega) _
      · have htk : l.take k = l := List.take_of_length_le (by omega)
        rw [htk]
        go_wp2_with fail
        go_ret
        exact ⟨ret_int (by have := hz.out; omega), hb⟩

theorem countT_any (M : Int) (hM0 : 0 ≤ M) (hM1 : M ≤ 1000000) (t : Tm) (v : Value) (w : World) (X : Nat → Prop) (hv : TV w X v t) :
    Calls Tryd.prog 44 #[v, .func (.func 45) #[] #[], .int .i64 M] w fun e w' => e = .returned (.int .i64 (min (sizeL [t] : Int) (M + 1))) ∧ Below w.heap.size w w' := by
  obtain ⟨a, c, rfl, hs⟩ := hv
  have hv : TV w X (.agg #[.string t.name, .slice a t.args.length c]) t := ⟨a, c, rfl, hs⟩
  go_enter Tryd.func44, Tryd.ntmps44
  go_wp2_with fail
  refine (countOn_any M hM0 hM1 t _ _ _ X (hv.alloc _) (by omega) (by omega)).mono ?_
  rintro e w1 ⟨rfl, hb1⟩
  go_wp2_with fail
  go_ret
  exact ⟨ret_int (by omega), ((Below.refl _ _).alloc (Nat.le_refl _) _).trans (hb1.mono (by simp))⟩

theorem count_any (M : Int) (hM0 : 0 ≤ M) (hM1 : M ≤ 1000000) (t : Tm) (v : Value) (w : World) (X : Nat → Prop) (hv : TV w X v t) :
    Calls Tryd.prog 38 #[v, .int .i64 M] w fun e w' => e = .returned (.int .i64 (min (sizeL [t] : Int) (M + 1))) ∧ Below w.heap.size w w' := by
  obtain ⟨a, c, rfl, hs⟩ := hv
  have hv : TV w X (.agg #[.string t.name, .slice a t.args.length c]) t := ⟨a, c, rfl, hs⟩
  go_enter Tryd.func38, Tryd.ntmps38
  go_wp2_with fail
  refine (countT_any M hM0 hM1 t _ _ X (hv.alloc _)).mono ?_
  rintro e w1 ⟨rfl, hb1⟩
  go_wp2_with fail
  go_ret
  exact ⟨ret_int (by omega), ((Below.refl _ _).alloc (Nat.le_refl _) _).trans (hb1.mono (by simp))⟩

end Go.Proofs.YtnccaligfnmfgaaDoor

/- Walks: all knots of a term. -/
namespace Go.Proofs.YtnccaligfnmfgaaDoor
open Go.RowKit
set_option linter.unusedSimpArgs false
set_option linter.unusedVariables false

theorem Tryd.infoTerm : (Tryd.prog.info? 31).map (fun i => (i.zero, i.size, i.bytes)) = some (some (.agg #[.string ByteArray.empty, .slice none 0 0]), 2, 40) := by kernel_rfl

theorem ownsRow_base {w : World} {base base' e size : Nat} {v : Value} {n : Nat} {xs : List Value} (h : w.ownsRow base e size v n xs) (hb : base' ≤ base) : w.ownsRow base' e size v n xs := by
  obtain ⟨h0, h1⟩ := h
  refine ⟨h0, ?_⟩
  rcases h1 with h1 | ⟨g, cap, cur, hv, hg, r⟩
  · exact Or.inl h1
  · exact Or.inr ⟨g, cap, cur, hv, Nat.le_trans hb hg, r⟩

set_option maxHeartbeats 400000 in
theorem knots_any (t : Tm) : ∀ (v : Value) (w : World) (X : Nat → Prop), TV w X v t → sizeL [t] ≤ 1000000 →
    Calls Tryd.prog 27 #[v] w fun e w' => ∃ v' xs, e = .returned v' ∧ w'.ownsRow w.heap.size 31 2 v' (sizeL [t]) xs ∧ RowT w X (preL [t]) xs ∧ Below w.heap.size w w' := by
  induction t using Tm.ind with
  | h s l ih =>
    intro v w X0 hv0 hsm
    obtain ⟨X, hX, hXX, hv⟩ : ∃ X : Nat → Prop, (∀ b, X b → b < w.heap.size) ∧ (∀ b, X b → X0 b) ∧ TV w X v ⟨s, l⟩ := ⟨fun b => X0 b ∧ b < w.heap.size, fun _ h => h.2, fun _ h => h.1, hv0.mono fun b h1 h2 => ⟨h1, h2⟩⟩
    clear hv0
    obtain ⟨a, c, rfl, hs⟩ := hv
    have IH := hide ih
    clear ih
    have hl := hs.1
    have hz : sizeL [(⟨s, l⟩ : Tm)] = 1 + sizeL l := by simp [sizeL]
    rw [hz] at hsm ⊢
    clear hz
    obtain ⟨i0, hi, hz0, hz1, hz2⟩ := info_parts Tryd.infoTerm
    go_enter Tryd.func27, Tryd.ntmps27
    go_wp2_with fail
    go_loopw [3, 4] (fun v i wr => ∃ (k : Nat) (xs : List Value), k ≤ l.length ∧ i = .int .i64 k ∧ wr.ownsRow (w.heap.size + 1) 31 2 v (1 + sizeL (l.take k)) xs ∧ RowT w X (⟨s, l⟩ :: preL (l.take k)) xs ∧ Below (w.heap.size + 1) (w.alloc (Obj.cells #[Value.string s, Value.slice a l.length c] 31)) wr) (fun v i wr => l.length - (intOf i).toNat)
    case atStart =>
      refine ⟨0, [.string s, .slice a l.length c], Nat.zero_le _, rfl, ⟨by simp [sizeL], Or.inr ⟨w.heap.size + 1, 1, #[.string s, .slice a l.length c], by simp [sizeL], Nat.le_refl _, ?_, by simp [sizeL], by decide, by simp, by simp [sizeL]⟩⟩, ⟨a, c, [], rfl, hs, by simp [preL, RowT]⟩, (Below.refl _ _).alloc (by simp) _⟩
      have := heap_alloc_new (w.alloc (Obj.cells #[Value.string s, Value.slice a l.length c] 31)) (Obj.cells #[Value.string s, Value.slice a l.length c] 31)
      simpa using this
    case round =>
      obtain ⟨k, xs, hk, rfl, hown, hrow, hb⟩ := hrel
      have HROW := hide hrow
      clear hrow
      have hc := bcell hb
      have c0 : wr.cell? ⟨w.heap.size, 0, none⟩ = some (.string s) := by rw [hc.1 _ _ (by omega)]; simp
      have c1 : wr.cell? ⟨w.heap.size, 1, none⟩ = some (.slice a l.length c) := by rw [hc.1 _ _ (by omega)]; simp
      clear hc
      have hsz : w.heap.size + 1 ≤ wr.heap.size := by have := hb.size; simpa using this
      by_cases hlt : k < l.length
      · obtain ⟨b, o, a', c', rfl, d0, d1, hx⟩ := hs.get (below_box hb) (fun _ _ h => h) k hlt
        have Hst := hide (sizeL_take l k hlt)
        have hle := sizeL_take_le l (k + 1)
        have hle1 : sizeL (l.take k) + sizeL [l[k]] ≤ sizeL l := by rw [← Hst.out]; exact hle
        have hpos : 0 < sizeL [l[k]] := by generalize l[k] = t; obtain ⟨s', l'⟩ := t; simp [sizeL]; omega
        clear hle
        go_wp2_with fail
        refine (IH.out _ (List.getElem_mem hlt) _ _ X hx (by omega)).mono ?_
        rintro e w1 ⟨v1, ys, rfl, hown1, hrow1, hb1⟩
        have HROW1 : Hid (RowT w X (preL [l[k]]) ys) := hrow1.imp fun a l h => h.back (below_box hb) hX
        have hlen1 := hide hown1.1
        have hcells := hide (owned_val hown1 hpos)
        obtain ⟨g1, cap1, rfl, hg1, hg1', hcel⟩ := hcells.out
        have hownw1 : w1.ownsRow (w.heap.size + 1) 31 2 _ (1 + sizeL (l.take k)) xs := hown.kept (w' := w1) (row := none) ⟨hb1.os, hb1.tape, hb1.output, hb1.size, fun j hj _ => hb1.block j hj⟩ (by rcases Option.eq_none_or_eq_some (Value.ownBlock _) with h | ⟨x, h⟩; exact Or.inl h; exact Or.inr (by rw [h]; simp))
        have hyl : ys.length = sizeL [l[k]] * 2 := hlen1.out
        obtain ⟨v2, w2, hr2, hown2, hgr2, hnil2⟩ := run_append_own (P := Tryd.prog) w1 (w.heap.size + 1) 29 29 31 i0 _ 2 40 Tryd.underlying29 hi hz0 hz1 hz2 rfl (by decide) _ _ xs hownw1
          ⟨g1, 0, none⟩ (sizeL [l[k]]) cap1 ys hyl (fun j u hj => by
            have := hcel j u hj
            by_cases h0 : j = 0
            · subst h0; simpa [Addr.add] using this
            · simpa [Addr.add, h0] using this) HROW1.out.one (by unfold maxLen; omega) (by omega) (by have := hb1.size; omega)
        clear hnil2
        have hb2 : Hid (Below (w.heap.size + 1) (w.alloc (Obj.cells #[Value.string s, Value.slice (some ⟨b, o, none⟩) l.length c] 31)) w2) :=
          (hb.trans (hb1.mono hsz)).grown hgr2 (by have := hb1.size; omega) (fun j hj => (hownw1.lt j hj).1)
        have HR2 : Hid (RowT w X (⟨s, l⟩ :: preL (l.take (k + 1))) (xs ++ ys)) := by
          have := HROW.out.append HROW1.out
          unfold Hid
          rw [preL_take l k hlt]
          simpa using this
        have hown3 := hide hown2
        clear hown1 hownw1 hown2 hgr2 hcel hyl
        have HA := hide hr2
        clear hr2
        go_wp2_with (at_builtin; refine wpList_append_eq rfl _ _ _ _ rfl rfl rfl HA.out ?_)
        go_roundw
        case rel => exact ⟨k + 1, xs ++ ys, by omega, by go_num, by have := hown3.out; rw [Hst.out, ← Nat.add_assoc]; exact this, HR2.out, hb2.out⟩
        case measure => simp [intOf]; omega
      · have htk : l.take k = l := List.take_of_length_le (by omega)
        rw [htk] at hown
        have hown3 := hide hown
        have hr3 : Hid (RowT w X0 (preL [(⟨s, l⟩ : Tm)]) xs) := by
          have := HROW.out
          rw [htk] at this
          have h2 : RowT w X0 (⟨s, l⟩ :: preL l) xs := this.imp fun a l h => h.mono fun b hb _ => hXX b hb
          unfold Hid
          simpa [preL] using h2
        clear hown
        go_wp2_with fail
        go_ret
        exact ⟨_, xs, rfl, ownsRow_base hown3.out (by omega), hr3.out, below_box hb⟩
end Go.Proofs.YtnccaligfnmfgaaDoor


/- Walks: what the document says of a term. -/
namespace Go.Proofs.YtnccaligfnmfgaaDoor
open Go.RowKit
set_option linter.unusedSimpArgs false
set_option linter.unusedVariables false

end Go.Proofs.YtnccaligfnmfgaaDoor


/- Walks: what stands at a place. -/
namespace Go.Proofs.YtnccaligfnmfgaaDoor
open Go.RowKit
set_option linter.unusedSimpArgs false
set_option linter.unusedVariables false

/-- A list of numbers in memory. -/
def PV (w : World) (X : Nat → Prop) (v : Value) (zs : List Int) : Prop :=
  ∃ a c, v = .slice a zs.length c ∧ (zs.length ≤ 9223372036854775807 ∧ zs.length ≤ c) ∧ (zs = [] ∨ ∃ b o, a = some ⟨b, o, none⟩ ∧ X b ∧ ∀ i (h : i < zs.length), w.cell? ⟨b, o + i, none⟩ = some (.int .i64 zs[i]))

theorem PV.kept {w w' : World} {X : Nat → Prop} {v : Value} {zs : List Int} (h : PV w X v zs) (hk : ∀ b, X b → w'.heap[b]? = w.heap[b]?) : PV w' X v zs := by
  obtain ⟨a, c, e, hl, h⟩ := h
  refine ⟨a, c, e, hl, ?_⟩
  rcases h with h | ⟨b, o, e, hx, h⟩
  · exact Or.inl h
  · exact Or.inr ⟨b, o, e, hx, fun i hi => by rw [World.cell?_of_block (hk b hx)]; exact h i hi⟩

theorem PV.mono {w : World} {X Y : Nat → Prop} {v : Value} {zs : List Int} (h : PV w X v zs) (hk : ∀ b, X b → b < w.heap.size → Y b) : PV w Y v zs := by
  obtain ⟨a, c, e, hl, h⟩ := h
  refine ⟨a, c, e, hl, ?_⟩
  rcases h with h | ⟨b, o, e, hx, h⟩
  · exact Or.inl h
  · by_cases h0 : zs = []
    · exact Or.inl h0
    · have hp : 0 < zs.length := List.length_pos_iff.2 h0
      exact Or.inr ⟨b, o, e, hk b hx (World.block_lt_of_cell? w _ (h 0 hp)), h⟩

theorem PV.below {w w' : World} {X : Nat → Prop} {v : Value} {zs : List Int} {B : Nat} (h : PV w X v zs) (hb : Below B w w') (hX : ∀ b, X b → b < w.heap.size → b < B) : PV w' X v zs := by
  have h1 : PV w (fun b => X b ∧ b < B) v zs := h.mono fun b hx hs => ⟨hx, hX b hx hs⟩
  have h2 : PV w' (fun b => X b ∧ b < B) v zs := h1.kept fun b hx => hb.block b hx.2
  exact h2.mono fun b hx _ => hx.1

theorem PV.later {w w' : World} {X : Nat → Prop} {v : Value} {zs : List Int} (h : PV w X v zs) (hb : Below w.heap.size w w') : PV w' X v zs := h.below hb (fun _ _ h => h)
theorem PV.alloc {w : World} {X : Nat → Prop} {v : Value} {zs : List Int} (h : PV w X v zs) (o : Obj) : PV (w.alloc o) X v zs := h.later ((Below.refl _ _).alloc (Nat.le_refl _) o)

/-- The empty term's value. -/
def zeroT : Value := .agg #[.string ⟨#[]⟩, .slice none 0 0]

theorem below2 {w : World} (o1 o2 : Obj) : Below w.heap.size w ((w.alloc o1).alloc o2) := ((Below.refl _ _).alloc (Nat.le_refl _) _).alloc (by simp) _

end Go.Proofs.YtnccaligfnmfgaaDoor


/- Walks: what stands at a place, as the document says. -/
namespace Go.Proofs.YtnccaligfnmfgaaDoor
open Go.RowKit
set_option linter.unusedSimpArgs false
set_option linter.unusedVariables false

theorem TV.back {w w' : World} {X : Nat → Prop} {v : Value} {t : Tm} {B : Nat} (h : TV w' X v t) (hb : Below B w w') (hX : ∀ b, X b → b < B) : TV w X v t := by
  obtain ⟨a, c, e, h⟩ := h
  exact ⟨a, c, e, h.back hb hX⟩

end Go.Proofs.YtnccaligfnmfgaaDoor

/- Walks: two terms that are the same. -/
namespace Go.Proofs.YtnccaligfnmfgaaDoor
open Go.RowKit
set_option linter.unusedSimpArgs false
set_option linter.unusedVariables false

theorem same_cells {w w1 : World} {n : Nat} {p1 p2 p3 p4 p5 p6 : Addr} {v1 v2 v3 v4 v5 v6 : Value} (hb : Below (w.drewN n).heap.size (w.drewN n) w1)
    (h : w.cell? p1 = some v1 ∧ w.cell? p2 = some v2 ∧ w.cell? p3 = some v3 ∧ w.cell? p4 = some v4 ∧ w.cell? p5 = some v5 ∧ w.cell? p6 = some v6) :
    w1.cell? p1 = some v1 ∧ w1.cell? p2 = some v2 ∧ w1.cell? p3 = some v3 ∧ w1.cell? p4 = some v4 ∧ w1.cell? p5 = some v5 ∧ w1.cell? p6 = some v6 := by
  have hb' : Below w.heap.size w w1 := (below_drewN (Below.refl _ _) n).trans (hb.mono (by simp))
  exact ⟨cell_later hb' h.1, cell_later hb' h.2.1, cell_later hb' h.2.2.1, cell_later hb' h.2.2.2.1, cell_later hb' h.2.2.2.2.1, cell_later hb' h.2.2.2.2.2⟩

set_option maxHeartbeats 1000000 in
theorem same_any (t : Tm) : ∀ (v u : Value) (w : World) (X Y : Nat → Prop), TV w X v t → TV w Y u t →
    Calls Tryd.prog 18 #[v, u] w fun e w' => e = .returned (.bool true) ∧ Below w.heap.size w w' := by
  induction t using Tm.ind with
  | h s l ih =>
    intro v u w X Y hv hu
    have IH := hide ih
    clear ih
    obtain ⟨a, c, rfl, hs⟩ := hv
    obtain ⟨a2, c2, rfl, hs2⟩ := hu
    have hl := hs.1
    go_enter Tryd.func18, Tryd.ntmps18
    go_wp2_with fail
    go_loopw [5] (fun i wr => ∃ (k : Nat), k ≤ l.length ∧ i = .int .i64 k ∧ Below w.heap.size w wr ∧ wr.cell? ⟨w.heap.size, 1, none⟩ = some (.slice a l.length c) ∧ wr.cell? ⟨w.heap.size + 1, 1, none⟩ = some (.slice a2 l.length c2) ∧ w.heap.size + 2 ≤ wr.heap.size) (fun i wr => l.length - (intOf i).toNat)
    case atStart => exact ⟨0, Nat.zero_le _, rfl, below2 _ _, by simp, by simp, by simp⟩
    case round =>
      obtain ⟨k, hk, rfl, hb, hc1, hc2, hsz⟩ := hrel
      by_cases hlt : k < l.length
      · obtain ⟨b, o, a', c', rfl, d0, d1, hx⟩ := hs.get hb (fun _ _ h => h) k hlt
        obtain ⟨b2, o2, a2', c2', rfl, e0, e1, hx2⟩ := hs2.get hb (fun _ _ h => h) k hlt
        have HX := hide hx
        have HX2 := hide hx2
        have HB := hide hb
        have HS0 := hide (And.intro hc1 (And.intro hc2 (And.intro d0 (And.intro d1 (And.intro e0 e1)))))
        clear hx hx2 hb
        go_wp2_with fail
        go_region_held3 (fun w' => w'.cell? ⟨w.heap.size, 1, none⟩ = some (.slice (some ⟨b, o, none⟩) l.length c) ∧ w'.cell? ⟨w.heap.size + 1, 1, none⟩ = some (.slice (some ⟨b2, o2, none⟩) l.length c2) ∧ w'.cell? ⟨b, o + k * 2, none⟩ = some (.string l[k].name) ∧ w'.cell? ⟨b, o + k * 2 + 1, none⟩ = some (.slice a' l[k].args.length c') ∧ w'.cell? ⟨b2, o2 + k * 2, none⟩ = some (.string l[k].name) ∧ w'.cell? ⟨b2, o2 + k * 2 + 1, none⟩ = some (.slice a2' l[k].args.length c2')) (first | exact HS0.out | exact hS1)
          ((go_at_call 18; refine (IH.out _ (List.getElem_mem hlt) _ _ _ X Y (by exact HX.out.later (below_drewN (Below.refl _ _) 1)) (by exact HX2.out.later (below_drewN (Below.refl _ _) 1))).mono ?_; rintro e w1 ⟨rfl, hb1⟩; have hS1 := same_cells (n := 1) hb1 HS0.out))
        go_wp2_with fail
        go_roundw
        case rel => exact ⟨k + 1, by omega, by go_num, (HB.out.trans (below_drewN (Below.refl _ _) 1)).trans (hb1.mono (by simp; omega)), hS1.1, hS1.2.1, by have := hb1.size; simp at this; omega⟩
        case measure => simp [intOf]; omega
      · go_wp2_with fail
        go_ret
        exact ⟨rfl, hb⟩
end Go.Proofs.YtnccaligfnmfgaaDoor

/- Walks: whether two terms are the same. -/
namespace Go.Proofs.YtnccaligfnmfgaaDoor
open Go.RowKit
set_option linter.unusedSimpArgs false
set_option linter.unusedVariables false
set_option maxRecDepth 8000

end Go.Proofs.YtnccaligfnmfgaaDoor

/- Small facts on blocks, and what a round that appends a term does to a row of terms. -/
namespace Go.Proofs.YtnccaligfnmfgaaDoor
open Go.RowKit
set_option linter.unusedSimpArgs false
set_option linter.unusedVariables false

/-- A block of plain cells. -/
def Blk (w : World) (b : Nat) (cs : Array Value) (T : Nat) : Prop := w.heap[b]? = some (.cells cs T (0, 0))

theorem Blk.lt {w : World} {b : Nat} {cs : Array Value} {T : Nat} (h : Blk w b cs T) : b < w.heap.size := by
  apply Classical.byContradiction
  intro hn
  have e : w.heap[b]? = none := Array.getElem?_eq_none (by omega)
  rw [Blk, e] at h; cases h

theorem Blk.cell {w : World} {b : Nat} {cs : Array Value} {T : Nat} (h : Blk w b cs T) (i : Nat) : w.cell? ⟨b, i, none⟩ = cs[i]? := by
  unfold Blk at h; simp [World.cell?, h]

theorem Blk.frozen {w : World} {b : Nat} {cs : Array Value} {T : Nat} (h : Blk w b cs T) (i : Nat) : w.frozen? ⟨b, i, none⟩ = false := by
  unfold Blk at h; simp [World.frozen?, h]

theorem Blk.new (w : World) (cs : Array Value) (T : Nat) : Blk (w.alloc (.cells cs T)) w.heap.size cs T := heap_alloc_new w _

theorem Blk.alloc {w : World} {b : Nat} {cs : Array Value} {T : Nat} (h : Blk w b cs T) (o : Obj) : Blk (w.alloc o) b cs T := by
  unfold Blk at *; rw [Below.heap_alloc w o b (Blk.lt h)]; exact h

theorem Blk.below {w w' : World} {b B : Nat} {cs : Array Value} {T : Nat} (h : Blk w b cs T) (hb : Below B w w') (hB : b < B) : Blk w' b cs T := by
  unfold Blk at *; rw [hb.block b hB]; exact h

theorem Blk.drewN {w : World} {b : Nat} {cs : Array Value} {T : Nat} (h : Blk w b cs T) (n : Nat) : Blk (w.drewN n) b cs T := h

theorem Blk.grown {w w' : World} {b : Nat} {cs : Array Value} {T : Nat} {row : Option Nat} (h : Blk w b cs T) (hg : w.grownBy w' row) (hr : some b ≠ row) : Blk w' b cs T := by
  unfold Blk at *; rw [hg.block b (Blk.lt h) hr]; exact h

theorem Blk.set {w : World} {b : Nat} {cs : Array Value} {T : Nat} (h : Blk w b cs T) (i : Nat) (v : Value) : Blk (w.setCell ⟨b, i, none⟩ v) b (cs.setIfInBounds i v) T := by
  unfold Blk at *
  simp [World.setCell, Array.getElem?_modify, h]

theorem Blk.setOther {w : World} {b b' : Nat} {cs : Array Value} {T : Nat} (h : Blk w b cs T) (i : Nat) (v : Value) (hne : b ≠ b') : Blk (w.setCell ⟨b', i, none⟩ v) b cs T := by
  unfold Blk at *; rw [Below.heap_setCell _ _ _ _ (by simpa using hne)]; exact h

/-- The row so far, apart from what its terms are made of: old memory that Y lets, and new memory. -/
structure Row (w : World) (N : Nat) (T : Nat) (Y : Nat → Prop) (v : Value) (l : List Tm) (xs : List Value) : Prop where
  own : w.ownsRow N T 2 v l.length xs
  row : RowT w (fun b => Y b ∨ (N ≤ b ∧ some b ≠ v.ownBlock)) l xs

theorem Row.below {w w' : World} {N T : Nat} {Y : Nat → Prop} {v : Value} {l : List Tm} {xs : List Value} (h : Row w N T Y v l xs) (hb : Below w.heap.size w w') : Row w' N T Y v l xs :=
  ⟨h.own.kept (w' := w') (row := none) ⟨hb.os, hb.tape, hb.output, hb.size, fun j hj _ => hb.block j hj⟩ (by rcases Option.eq_none_or_eq_some (Value.ownBlock v) with h | ⟨x, h⟩; exact Or.inl h; exact Or.inr (by rw [h]; simp)),
   h.row.imp fun a l h => h.later hb⟩

/-- A store into a block that is none of the row's. -/
theorem Row.setCell {w : World} {N T : Nat} {Y : Nat → Prop} {v : Value} {l : List Tm} {xs : List Value} (h : Row w N T Y v l xs) {b i : Nat} (hb : b < N) (hY : ¬ Y b) (u : Value) : Row (w.setCell ⟨b, i, none⟩ u) N T Y v l xs :=
  ⟨ownsRow_setCell_below h.own (by simpa using hb) u, h.row.imp fun a k hs => hs.kept fun c hc => Below.heap_setCell _ _ _ _ (by
    simp
    rcases hc with hc | hc
    · intro e; subst e; exact hY hc
    · omega)⟩

end Go.Proofs.YtnccaligfnmfgaaDoor


/- Rows of bindings that a call makes. -/
namespace Go.Proofs.YtnccaligfnmfgaaDoor
open Go.RowKit
set_option linter.unusedSimpArgs false
set_option linter.unusedVariables false

/-- A binding, and where those below its term's first knot lie. -/
abbrev Bc := Bd × Option Addr × Nat
instance : Inhabited Bc := ⟨(⟨⟨#[]⟩, ⟨⟨#[]⟩, []⟩⟩, none, 0)⟩
end Go.Proofs.YtnccaligfnmfgaaDoor
