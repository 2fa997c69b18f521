/- Several texts in one. -/
import Derived.WalkKit
import Derived.WalkSpells
import Derived.WalkLawsBesides
import Derived.Test.YtfkjejpfhflanaaGreatDoorRows
import Derived.Deep.AppendLies
import Derived.BigQuiet
/- The tree that a term is, and how it lies in memory: plain mathematics of terms, and what stays where it was. -/
namespace Go.Proofs.YtfkjejpfhflanaaGreatDoor
open Go.RowKit

/-- Kept from the walk. -/
theorem hide {p : Prop} (h : p) : Hid p := h

/-- A term as a tree. -/
structure Tm where
  name : ByteArray
  args : List Tm

theorem Tm.ind {P : Tm → Prop} (h : ∀ s l, (∀ x ∈ l, P x) → P ⟨s, l⟩) (t : Tm) : P t :=
  Tm.rec (motive_1 := P) (motive_2 := fun l => ∀ x ∈ l, P x) (fun s l ih => h s l ih) (fun x hx => by cases hx)
    (fun a l ha hl x hx => by
      rcases List.mem_cons.1 hx with e | e
      · subst e; exact ha
      · exact hl x e) t

theorem Tm.indL {P : List Tm → Prop} (h0 : P []) (h : ∀ s l r, P l → P r → P (⟨s, l⟩ :: r)) (l : List Tm) : P l :=
  Tm.rec_1 (motive_1 := fun t => P t.args) (motive_2 := P) (fun _ _ ih => ih) h0 (fun a l ha hl => by obtain ⟨s, k⟩ := a; exact h s k l ha hl) l

/-- The knots of a list of terms. -/
def sizeL : List Tm → Nat
  | [] => 0
  | ⟨_, l⟩ :: r => 1 + sizeL l + sizeL r

theorem sizeL_append (a b : List Tm) : sizeL (a ++ b) = sizeL a + sizeL b := by
  induction a with
  | nil => simp [sizeL]
  | cons t r ih => obtain ⟨s, l⟩ := t; simp only [List.cons_append, sizeL, ih]; omega

/-- A list of terms lies in a row of cells, two a term, in blocks that X lets. -/
def Lies (w : World) (X : Nat → Prop) : Nat → Nat → List Tm → Prop
  | _, _, [] => True
  | b, o, ⟨s, l⟩ :: r => X b ∧ w.cell? ⟨b, o, none⟩ = some (.string s) ∧
      (∃ a c, w.cell? ⟨b, o + 1, none⟩ = some (.slice a l.length c) ∧ l.length ≤ 9223372036854775807 ∧ (l = [] ∨ ∃ b' o', a = some ⟨b', o', none⟩ ∧ Lies w X b' o' l)) ∧ Lies w X b (o + 2) r

/-- What a slice of terms holds. -/
def Sl (w : World) (X : Nat → Prop) (a : Option Addr) (l : List Tm) : Prop := l.length ≤ 9223372036854775807 ∧ (l = [] ∨ ∃ b o, a = some ⟨b, o, none⟩ ∧ Lies w X b o l)

/-- What a term's value holds. -/
def TV (w : World) (X : Nat → Prop) (v : Value) (t : Tm) : Prop := ∃ a c, v = .agg #[.string t.name, .slice a t.args.length c] ∧ Sl w X a t.args

theorem lies_kept {w w' : World} {X : Nat → Prop} (h : ∀ b, X b → w'.heap[b]? = w.heap[b]?) (l : List Tm) : ∀ b o, Lies w X b o l → Lies w' X b o l := by
  induction l using Tm.indL with
  | h0 => intro b o _; simp [Lies]
  | h s l r ihl ihr =>
    intro b o hl
    simp only [Lies] at hl ⊢
    obtain ⟨hx, h1, ⟨a, c, h2, h2', h3⟩, h4⟩ := hl
    refine ⟨hx, by rw [World.cell?_of_block (h b hx)]; exact h1, ⟨a, c, by rw [World.cell?_of_block (h b hx)]; exact h2, h2', ?_⟩, ihr _ _ h4⟩
    rcases h3 with h3 | ⟨b', o', h3, h5⟩
    · exact Or.inl h3
    · exact Or.inr ⟨b', o', h3, ihl _ _ h5⟩

theorem lies_mono {w : World} {X Y : Nat → Prop} (h : ∀ b, X b → b < w.heap.size → Y b) (l : List Tm) : ∀ b o, Lies w X b o l → Lies w Y b o l := by
  induction l using Tm.indL with
  | h0 => intro b o _; simp [Lies]
  | h s l r ihl ihr =>
    intro b o hl
    simp only [Lies] at hl ⊢
    obtain ⟨hx, h1, ⟨a, c, h2, h2', h3⟩, h4⟩ := hl
    have hb : b < w.heap.size := by
      apply Classical.byContradiction
      intro hn
      have e : w.heap[b]? = none := Array.getElem?_eq_none (by omega)
      simp [World.cell?, e] at h1
    refine ⟨h b hx hb, h1, ⟨a, c, h2, h2', ?_⟩, ihr _ _ h4⟩
    rcases h3 with h3 | ⟨b', o', h3, h5⟩
    · exact Or.inl h3
    · exact Or.inr ⟨b', o', h3, ihl _ _ h5⟩

theorem Sl.kept {w w' : World} {X : Nat → Prop} {a : Option Addr} {l : List Tm} (h : Sl w X a l) (hk : ∀ b, X b → w'.heap[b]? = w.heap[b]?) : Sl w' X a l := by
  obtain ⟨hl, h⟩ := h
  refine ⟨hl, ?_⟩
  rcases h with h | ⟨b, o, e, h⟩
  · exact Or.inl h
  · exact Or.inr ⟨b, o, e, lies_kept hk _ _ _ h⟩

theorem Sl.mono {w : World} {X Y : Nat → Prop} {a : Option Addr} {l : List Tm} (h : Sl w X a l) (hk : ∀ b, X b → b < w.heap.size → Y b) : Sl w Y a l := by
  obtain ⟨hl, h⟩ := h
  refine ⟨hl, ?_⟩
  rcases h with h | ⟨b, o, e, h⟩
  · exact Or.inl h
  · exact Or.inr ⟨b, o, e, lies_mono hk _ _ _ h⟩

theorem Sl.below {w w' : World} {X : Nat → Prop} {a : Option Addr} {l : List Tm} {B : Nat} (h : Sl w X a l) (hb : Below B w w') (hX : ∀ b, X b → b < w.heap.size → b < B) : Sl w' X a l := by
  have h1 : Sl w (fun b => X b ∧ b < B) a l := h.mono fun b hx hs => ⟨hx, hX b hx hs⟩
  have h2 : Sl w' (fun b => X b ∧ b < B) a l := h1.kept fun b hx => hb.block b hx.2
  exact h2.mono fun b hx _ => hx.1

theorem TV.kept {w w' : World} {X : Nat → Prop} {v : Value} {t : Tm} (h : TV w X v t) (hk : ∀ b, X b → w'.heap[b]? = w.heap[b]?) : TV w' X v t := by
  obtain ⟨a, c, e, h⟩ := h
  exact ⟨a, c, e, h.kept hk⟩

theorem TV.mono {w : World} {X Y : Nat → Prop} {v : Value} {t : Tm} (h : TV w X v t) (hk : ∀ b, X b → b < w.heap.size → Y b) : TV w Y v t := by
  obtain ⟨a, c, e, h⟩ := h
  exact ⟨a, c, e, h.mono hk⟩

theorem TV.below {w w' : World} {X : Nat → Prop} {v : Value} {t : Tm} {B : Nat} (h : TV w X v t) (hb : Below B w w') (hX : ∀ b, X b → b < w.heap.size → b < B) : TV w' X v t := by
  obtain ⟨a, c, e, h⟩ := h
  exact ⟨a, c, e, h.below hb hX⟩

theorem TV.alloc {w : World} {X : Nat → Prop} {v : Value} {t : Tm} (h : TV w X v t) (o : Obj) : TV (w.alloc o) X v t :=
  h.below ((Below.refl _ _).alloc (Nat.le_refl _) o) (fun _ _ h => h)

theorem TV.later {w w' : World} {X : Nat → Prop} {v : Value} {t : Tm} (h : TV w X v t) (hb : Below w.heap.size w w') : TV w' X v t := h.below hb (fun _ _ h => h)

theorem Sl.later {w w' : World} {X : Nat → Prop} {a : Option Addr} {l : List Tm} (h : Sl w X a l) (hb : Below w.heap.size w w') : Sl w' X a l := h.below hb (fun _ _ h => h)

/-- One of a row. -/
theorem lies_get {w : World} {X : Nat → Prop} : ∀ (l : List Tm) (b o : Nat), Lies w X b o l → ∀ i (h : i < l.length),
    X b ∧ w.cell? ⟨b, o + i * 2, none⟩ = some (.string l[i].name) ∧ ∃ a c, w.cell? ⟨b, o + i * 2 + 1, none⟩ = some (.slice a l[i].args.length c) ∧ Sl w X a l[i].args := by
  intro l
  induction l with
  | nil => intro b o _ i h; simp at h
  | cons t r ih =>
    intro b o hl i h
    obtain ⟨s, k⟩ := t
    simp only [Lies] at hl
    obtain ⟨hx, h1, ⟨a, c, h2, h3⟩, h4⟩ := hl
    cases i with
    | zero => exact ⟨hx, h1, a, c, h2, h3⟩
    | succ i =>
      have := ih b (o + 2) h4 i (by simpa using h)
      simp only [List.getElem_cons_succ]
      rw [show o + (i + 1) * 2 = o + 2 + i * 2 by omega]
      exact this

/-- One of a slice, in a later world. -/
theorem Sl.get {w wr : World} {X : Nat → Prop} {a : Option Addr} {l : List Tm} {B : Nat} (h : Sl w X a l) (hb : Below B w wr) (hX : ∀ b, X b → b < w.heap.size → b < B) (k : Nat) (hk : k < l.length) :
    ∃ b o a' c', a = some ⟨b, o, none⟩ ∧ wr.cell? ⟨b, o + k * 2, none⟩ = some (.string l[k].name) ∧ wr.cell? ⟨b, o + k * 2 + 1, none⟩ = some (.slice a' l[k].args.length c') ∧ TV wr X (.agg #[.string l[k].name, .slice a' l[k].args.length c']) l[k] := by
  have h' := h.below hb hX
  obtain ⟨_, h1⟩ := h'
  rcases h1 with h1 | ⟨b, o, e, h1⟩
  · subst h1; simp at hk
  · obtain ⟨_, h2, a', c', h3, h4⟩ := lies_get _ _ _ h1 k hk
    exact ⟨b, o, a', c', e, h2, h3, a', c', rfl, h4⟩

end Go.Proofs.YtfkjejpfhflanaaGreatDoor

/- Walks: how many knots a term has. -/
namespace Go.Proofs.YtfkjejpfhflanaaGreatDoor
open Go.RowKit

/-- Behind a call that makes memory: old cells and marks read as before. -/
theorem bcell {W w1 : World} {B : Nat} (hb : Below B W w1) : (∀ b o, b < B → w1.cell? ⟨b, o, none⟩ = W.cell? ⟨b, o, none⟩) ∧ (∀ b o, b < B → w1.frozen? ⟨b, o, none⟩ = W.frozen? ⟨b, o, none⟩) :=
  ⟨fun b o h => hb.cell (p := ⟨b, o, none⟩) h, fun b o h => hb.frozen (p := ⟨b, o, none⟩) h⟩

theorem sizeL_take (l : List Tm) (k : Nat) (h : k < l.length) : sizeL (l.take (k + 1)) = sizeL (l.take k) + sizeL [l[k]] := by
  rw [List.take_succ_eq_append_getElem h, sizeL_append]

theorem sizeL_take_le (l : List Tm) (k : Nat) : sizeL (l.take k) ≤ sizeL l := by
  have := sizeL_append (l.take k) (l.drop k)
  rw [List.take_append_drop] at this
  omega

theorem ret_int {k : IntKind} {a b : Int} (h : a = b) : Ending.returned (.int k a) = .returned (.int k b) := by rw [h]

/-- Behind a call whose first deed was to lay its parameter down. -/
theorem below_box {w wr : World} {o : Obj} (hb : Below (w.heap.size + 1) (w.alloc o) wr) : Below w.heap.size w wr :=
  ((Below.refl _ _).alloc (Nat.le_refl _) _).trans (hb.mono (Nat.le_succ _))

set_option maxHeartbeats 400000 in
theorem size_any (t : Tm) : ∀ (v : Value) (most : Int) (w : World) (X : Nat → Prop), TV w X v t → 0 ≤ most → most ≤ 1000000 →
    Calls Tryz.prog 8 #[v, .int .i64 most] w fun e w' => e = .returned (.int .i64 (min (sizeL [t]) (most + 1))) ∧ Below w.heap.size w w' := by
  induction t using Tm.ind with
  | h s l ih =>
    intro v most w X hv hm0 hm1
    obtain ⟨a, c, rfl, hs⟩ := hv
    have IH := hide ih
    clear ih
    go_enter Tryz.func8, Tryz.ntmps8
    go_wp2_with fail
    go_loopw [5, 6] (fun n i wr => ∃ k : Nat, k ≤ l.length ∧ i = .int .i64 k ∧ n = .int .i64 (min (1 + sizeL (l.take k)) (most + 1)) ∧ Below (w.heap.size + 1) (w.alloc (Obj.cells #[Value.string s, Value.slice a l.length c] 30)) wr) (fun n i wr => l.length - (intOf i).toNat)
    case atStart => exact ⟨0, Nat.zero_le _, rfl, by simp [sizeL]; omega, Below.refl _ _⟩
    case round =>
      obtain ⟨k, hk, rfl, rfl, hb⟩ := hrel
      have hc := bcell hb
      have c0 : wr.cell? ⟨w.heap.size, 0, none⟩ = some (.string s) := by rw [hc.1 _ _ (by omega)]; simp
      have c1 : wr.cell? ⟨w.heap.size, 1, none⟩ = some (.slice a l.length c) := by rw [hc.1 _ _ (by omega)]; simp
      have hl := hs.1
      have hn : 0 ≤ ((1 : Int) + sizeL (l.take k)) := by omega
      by_cases hlt : k < l.length
      · obtain ⟨b, o, a', c', rfl, d0, d1, hx⟩ := hs.get (((Below.refl _ _).alloc (Nat.le_refl _) _).trans (hb.mono (Nat.le_succ _))) (fun _ _ h => h) k hlt
        by_cases hle : 1 + (sizeL (l.take k) : Int) ≤ most
        · have hmin : min (1 + (sizeL (l.take k) : Int)) (most + 1) = 1 + (sizeL (l.take k) : Int) := by omega
          rw [hmin]
          go_wp2_with fail
          refine (IH.out _ (List.getElem_mem hlt) _ _ _ X hx (by omega) (by omega)).mono ?_
          rintro e w1 ⟨rfl, hb1⟩
          have hsz : w.heap.size + 1 ≤ wr.heap.size := by have := hb.size; simpa using this
          have Hst := hide (sizeL_take l k hlt)
          have hm2 : 0 ≤ min ((sizeL [l[k]] : Int)) (most - (1 + (sizeL (l.take k) : Int)) + 1) := by omega
          have hm3 : min ((sizeL [l[k]] : Int)) (most - (1 + (sizeL (l.take k) : Int)) + 1) ≤ 1000001 := by omega
          go_wp2_with fail
          go_roundw
          case rel => exact ⟨k + 1, by omega, by go_num, by rw [Hst.out]; congr 1; omega, hb.trans (hb1.mono hsz)⟩
          case measure => simp [intOf]; omega
        · have hmin : min (1 + (sizeL (l.take k) : Int)) (most + 1) = most + 1 := by omega
          rw [hmin]
          have hz : (sizeL [(⟨s, l⟩ : Tm)] : Int) = 1 + sizeL l := by simp [sizeL]
          have hle2 : sizeL (l.take k) ≤ sizeL l := sizeL_take_le l k
          have HF := hide (show (most + 1 : Int) = min (sizeL [(⟨s, l⟩ : Tm)] : Int) (most + 1) by omega)
          clear hz
          go_wp2_with fail
          go_ret
          exact ⟨ret_int HF.out, below_box hb⟩
      · have htk : l.take k = l := List.take_of_length_le (by omega)
        rw [htk]
        have hz : (sizeL [(⟨s, l⟩ : Tm)] : Int) = 1 + sizeL l := by simp [sizeL]
        have HZ := hide hz
        clear hz
        go_wp2_with fail
        · go_ret
          exact ⟨ret_int (by have := HZ.out; omega), below_box hb⟩
        · go_ret
          exact ⟨ret_int (by have := HZ.out; omega), below_box hb⟩

end Go.Proofs.YtfkjejpfhflanaaGreatDoor

/- Rows of terms that a call makes. -/
namespace Go.Proofs.YtfkjejpfhflanaaGreatDoor
open Go.RowKit
set_option linter.unusedSimpArgs false
set_option linter.unusedVariables false

/-- These cells are these terms. -/
def RowT (w : World) (X : Nat → Prop) : List Tm → List Value → Prop
  | [], xs => xs = []
  | t :: l, xs => ∃ a c r, xs = .string t.name :: .slice a t.args.length c :: r ∧ Sl w X a t.args ∧ RowT w X l r

theorem RowT.len {w : World} {X : Nat → Prop} : ∀ {l : List Tm} {xs : List Value}, RowT w X l xs → xs.length = l.length * 2
  | [], xs, h => by simp [RowT] at h; simp [h]
  | t :: l, xs, h => by
    obtain ⟨a, c, r, rfl, _, h⟩ := h
    simp only [List.length_cons]
    rw [RowT.len h]; omega

theorem RowT.append {w : World} {X : Nat → Prop} : ∀ {l k : List Tm} {xs ys : List Value}, RowT w X l xs → RowT w X k ys → RowT w X (l ++ k) (xs ++ ys)
  | [], k, xs, ys, h, h' => by simp [RowT] at h; subst h; simpa using h'
  | t :: l, k, xs, ys, h, h' => by
    obtain ⟨a, c, r, rfl, hs, h⟩ := h
    exact ⟨a, c, r ++ ys, rfl, hs, RowT.append h h'⟩

theorem RowT.one {w : World} {X : Nat → Prop} : ∀ {l : List Tm} {xs : List Value}, RowT w X l xs → ∀ u ∈ xs, u.oneCell' = true
  | [], xs, h, u, hu => by simp [RowT] at h; subst h; cases hu
  | t :: l, xs, h, u, hu => by
    obtain ⟨a, c, r, rfl, _, h⟩ := h
    rcases List.mem_cons.1 hu with e | hu
    · subst e; rfl
    · rcases List.mem_cons.1 hu with e | hu
      · subst e; rfl
      · exact RowT.one h u hu

theorem RowT.imp {w w' : World} {X Y : Nat → Prop} (hs : ∀ a l, Sl w X a l → Sl w' Y a l) : ∀ {l : List Tm} {xs : List Value}, RowT w X l xs → RowT w' Y l xs
  | [], xs, h => h
  | t :: l, xs, h => by
    obtain ⟨a, c, r, e, h1, h⟩ := h
    exact ⟨a, c, r, e, hs _ _ h1, RowT.imp hs h⟩

theorem RowT.get {w : World} {X : Nat → Prop} : ∀ {l : List Tm} {xs : List Value}, RowT w X l xs → ∀ i (h : i < l.length),
    xs[i * 2]? = some (.string l[i].name) ∧ ∃ a c, xs[i * 2 + 1]? = some (.slice a l[i].args.length c) ∧ Sl w X a l[i].args
  | [], xs, h, i, hi => by simp at hi
  | t :: l, xs, h, i, hi => by
    obtain ⟨a, c, r, rfl, h1, h⟩ := h
    cases i with
    | zero => exact ⟨rfl, a, c, rfl, h1⟩
    | succ i =>
      have := RowT.get h i (by simpa using hi)
      rw [show (i + 1) * 2 = i * 2 + 2 by omega, show i * 2 + 2 + 1 = (i * 2 + 1) + 2 by omega]
      simpa using this

theorem lies_of_rowT {w w' : World} {X Y : Nat → Prop} (b : Nat) (hb : Y b) : ∀ (l : List Tm) (xs : List Value) (o : Nat), RowT w X l xs → (∀ a k, Sl w X a k → Sl w' Y a k) → (∀ j u, xs[j]? = some u → w'.cell? ⟨b, o + j, none⟩ = some u) → Lies w' Y b o l := by
  intro l
  induction l with
  | nil => intro xs o _ _ _; simp [Lies]
  | cons t r ih =>
    intro xs o h hs hc
    obtain ⟨s, k⟩ := t
    obtain ⟨a, c, r', rfl, h1, h2⟩ := h
    simp only [Lies]
    obtain ⟨h3, h4⟩ := hs _ _ h1
    refine ⟨hb, hc 0 _ rfl, ⟨a, c, hc 1 _ rfl, h3, h4⟩, ih r' (o + 2) h2 hs fun j u hj => ?_⟩
    have := hc (j + 2) u (by simpa using hj)
    rwa [show o + (j + 2) = o + 2 + j by omega] at this

/-- Old memory, told by the world that was. -/
theorem Sl.back {w w' : World} {X : Nat → Prop} {a : Option Addr} {l : List Tm} {B : Nat} (h : Sl w' X a l) (hb : Below B w w') (hX : ∀ b, X b → b < B) : Sl w X a l :=
  h.kept fun b hx => (hb.block b (hX b hx)).symm

/-- What a row that is owned says of the slice. -/
theorem owned_val {w : World} {base e size : Nat} {v : Value} {n : Nat} {xs : List Value} (h : w.ownsRow base e size v n xs) (hn : 0 < n) :
    ∃ g cap, v = .slice (some ⟨g, 0, none⟩) n cap ∧ base ≤ g ∧ g < w.heap.size ∧ ∀ j u, xs[j]? = some u → w.cell? ⟨g, j, none⟩ = some u := by
  have h' := h
  obtain ⟨hl, h1⟩ := h
  rcases h1 with ⟨_, h0⟩ | ⟨g, cap, cur, hv, hg, hh, _⟩
  · omega
  · subst hv
    have hlt := (h'.lt g rfl).2
    refine ⟨g, cap, rfl, hg, hlt, fun j u hj => ?_⟩
    have := h'.cells (g := g) rfl j u hj
    by_cases h0 : j = 0
    · subst h0; simpa [Addr.add] using this
    · simpa [Addr.add, h0] using this

/-- An append whose outcome is known. -/
theorem wpList_append_eq {P : Program} {ops : Array Oper} {rest : List Oper} {o : Oper} {a : Act} {Q : Exit → Act → World → Prop} {w w' : World} {v u v' : Value} (hgd : o.guard = none) (s x : Operand) (t t' : TypeId)
    (ho : o.op = .call { callee := .builtin .append, args := #[s, x], argTypes := #[t, t'] }) (hs : a.eval s = v) (hx : a.eval x = u)
    (hr : (Builtin.append_ #[t, t'] o.type #[v, u]).run P w = .ok v' w') (h : wpList P ops Q rest (a.put o.dst v') w') : wpList P ops Q (o :: rest) a w :=
  wpList_plain hgd fun K hK => by
    unfold Oper.wp execOp
    simp only [ho, resolve, invoke, builtin, Sem.run_bind, Sem.run_pure, Result.andThen_ok, List.map_toArray, List.map_cons, List.map_nil, hs, hx, hr]
    exact hK _ _ h

end Go.Proofs.YtfkjejpfhflanaaGreatDoor

/- Small facts on blocks, and what a round that appends a term does to a row of terms. -/
namespace Go.Proofs.YtfkjejpfhflanaaGreatDoor
open Go.RowKit
set_option linter.unusedSimpArgs false
set_option linter.unusedVariables false

/-- A block of plain cells. -/
def Blk (w : World) (b : Nat) (cs : Array Value) (T : Nat) : Prop := w.heap[b]? = some (.cells cs T (0, 0))

theorem Blk.lt {w : World} {b : Nat} {cs : Array Value} {T : Nat} (h : Blk w b cs T) : b < w.heap.size := by
  apply Classical.byContradiction
  intro hn
  have e : w.heap[b]? = none := Array.getElem?_eq_none (by omega)
  rw [Blk, e] at h; cases h

theorem Blk.cell {w : World} {b : Nat} {cs : Array Value} {T : Nat} (h : Blk w b cs T) (i : Nat) : w.cell? ⟨b, i, none⟩ = cs[i]? := by
  unfold Blk at h; simp [World.cell?, h]

theorem Blk.frozen {w : World} {b : Nat} {cs : Array Value} {T : Nat} (h : Blk w b cs T) (i : Nat) : w.frozen? ⟨b, i, none⟩ = false := by
  unfold Blk at h; simp [World.frozen?, h]

theorem Blk.new (w : World) (cs : Array Value) (T : Nat) : Blk (w.alloc (.cells cs T)) w.heap.size cs T := heap_alloc_new w _

theorem Blk.alloc {w : World} {b : Nat} {cs : Array Value} {T : Nat} (h : Blk w b cs T) (o : Obj) : Blk (w.alloc o) b cs T := by
  unfold Blk at *; rw [Below.heap_alloc w o b (Blk.lt h)]; exact h

theorem Blk.below {w w' : World} {b B : Nat} {cs : Array Value} {T : Nat} (h : Blk w b cs T) (hb : Below B w w') (hB : b < B) : Blk w' b cs T := by
  unfold Blk at *; rw [hb.block b hB]; exact h

theorem Blk.drewN {w : World} {b : Nat} {cs : Array Value} {T : Nat} (h : Blk w b cs T) (n : Nat) : Blk (w.drewN n) b cs T := h

theorem Blk.grown {w w' : World} {b : Nat} {cs : Array Value} {T : Nat} {row : Option Nat} (h : Blk w b cs T) (hg : w.grownBy w' row) (hr : some b ≠ row) : Blk w' b cs T := by
  unfold Blk at *; rw [hg.block b (Blk.lt h) hr]; exact h

theorem Blk.set {w : World} {b : Nat} {cs : Array Value} {T : Nat} (h : Blk w b cs T) (i : Nat) (v : Value) : Blk (w.setCell ⟨b, i, none⟩ v) b (cs.setIfInBounds i v) T := by
  unfold Blk at *
  simp [World.setCell, Array.getElem?_modify, h]

theorem Blk.setOther {w : World} {b b' : Nat} {cs : Array Value} {T : Nat} (h : Blk w b cs T) (i : Nat) (v : Value) (hne : b ≠ b') : Blk (w.setCell ⟨b', i, none⟩ v) b cs T := by
  unfold Blk at *; rw [Below.heap_setCell _ _ _ _ (by simpa using hne)]; exact h

/-- The row so far, apart from what its terms are made of: old memory that Y lets, and new memory. -/
structure Row (w : World) (N : Nat) (T : Nat) (Y : Nat → Prop) (v : Value) (l : List Tm) (xs : List Value) : Prop where
  own : w.ownsRow N T 2 v l.length xs
  row : RowT w (fun b => Y b ∨ (N ≤ b ∧ some b ≠ v.ownBlock)) l xs

theorem Row.start (w : World) (N T : Nat) (Y : Nat → Prop) : Row w N T Y (.slice none 0 0) [] [] := ⟨World.ownsRow_nil w N T 2, rfl⟩

theorem Row.below {w w' : World} {N T : Nat} {Y : Nat → Prop} {v : Value} {l : List Tm} {xs : List Value} (h : Row w N T Y v l xs) (hb : Below w.heap.size w w') : Row w' N T Y v l xs :=
  ⟨h.own.kept (w' := w') (row := none) ⟨hb.os, hb.tape, hb.output, hb.size, fun j hj _ => hb.block j hj⟩ (by rcases Option.eq_none_or_eq_some (Value.ownBlock v) with h | ⟨x, h⟩; exact Or.inl h; exact Or.inr (by rw [h]; simp)),
   h.row.imp fun a l h => h.later hb⟩

theorem Row.ne {w : World} {N T : Nat} {Y : Nat → Prop} {v : Value} {l : List Tm} {xs : List Value} (h : Row w N T Y v l xs) {b : Nat} (hb : b < N) : some b ≠ v.ownBlock := fun e => by
  have := (h.own.lt b e.symm).1; omega

/-- One more: the term's cells have been laid into a block of their own, and appended. -/
theorem Row.push {w w1 w2 w3 : World} {N T : Nat} {Y : Nat → Prop} {v : Value} {l : List Tm} {xs : List Value} (h : Row w N T Y v l xs) (hN : N ≤ w.heap.size) (hY : ∀ b, Y b → b < N) (hb : Below w.heap.size w w1) {s : ByteArray} {a : Option Addr} {n c : Nat} {t : Tm}
    (ht : TV w1 (fun b => Y b ∨ w.heap.size ≤ b) (.agg #[.string s, .slice a n c]) t) (o : Obj) (hw2 : w2 = w1.alloc o) {g cap : Nat}
    (hown : w3.ownsRow N T 2 (.slice (some ⟨g, 0, none⟩) (l.length + 1) cap) (l.length + 1) (xs ++ [.string s, .slice a n c])) (hg : w2.grownBy w3 v.ownBlock) (hg1 : v.ownBlock = some g ∨ g = w2.heap.size) :
    Row w3 N T Y (.slice (some ⟨g, 0, none⟩) (l.length + 1) cap) (l ++ [t]) (xs ++ [.string s, .slice a n c]) := by
  subst hw2
  have hlt := h.own.lt
  refine ⟨by simpa using hown, ?_⟩
  have hsz : w1.heap.size ≤ (w1.alloc o).heap.size := by simp
  have hbs := hb.size
  have hgN : N ≤ g := by
    rcases hg1 with e | e
    · exact (hlt g e).1
    · simp at e; omega
  refine RowT.append (h.row.imp fun a' k' hs => ?_) ?_
  · have h1 : Sl w (fun b => (Y b ∨ (N ≤ b ∧ some b ≠ v.ownBlock)) ∧ b < w.heap.size) a' k' := hs.mono fun b h1 h2 => ⟨h1, h2⟩
    have h2 : Sl w3 (fun b => (Y b ∨ (N ≤ b ∧ some b ≠ v.ownBlock)) ∧ b < w.heap.size) a' k' := h1.kept fun b hx => by
      have hne : some b ≠ v.ownBlock := by
        rcases hx.1 with hy | hy
        · exact h.ne (hY b hy)
        · exact hy.2
      rw [hg.block b (by simp; omega) hne, Below.heap_alloc _ _ _ (by omega), hb.block b hx.2]
    refine h2.mono fun b hx _ => ?_
    rcases hx.1 with hy | hy
    · exact Or.inl hy
    · refine Or.inr ⟨hy.1, fun e => ?_⟩
      simp [Value.ownBlock] at e
      rcases hg1 with e' | e'
      · exact hy.2 (by rw [e', e])
      · simp at e'; omega
  · obtain ⟨a2, c2, e, hs⟩ := ht
    simp at e
    obtain ⟨rfl, rfl, rfl, rfl⟩ := e
    refine ⟨a, c, [], rfl, ?_, rfl⟩
    have h1 : Sl w1 (fun b => (Y b ∨ w.heap.size ≤ b) ∧ b < w1.heap.size) a t.args := hs.mono fun b h1 h2 => ⟨h1, h2⟩
    have h2 : Sl w3 (fun b => (Y b ∨ w.heap.size ≤ b) ∧ b < w1.heap.size) a t.args := h1.kept fun b hx => by
      have hne : some b ≠ v.ownBlock := by
        rcases hx.1 with hy | hy
        · exact h.ne (hY b hy)
        · intro e; have := (hlt b e.symm).2; omega
      rw [hg.block b (by simp; omega) hne, Below.heap_alloc _ _ _ hx.2]
    refine h2.mono fun b hx _ => ?_
    rcases hx.1 with hy | hy
    · exact Or.inl hy
    · refine Or.inr ⟨by omega, fun e => ?_⟩
      simp [Value.ownBlock] at e
      rcases hg1 with e' | e'
      · have := (hlt g e').2; omega
      · simp at e'; omega

/-- A store into a block that is none of the row's. -/
theorem Row.setCell {w : World} {N T : Nat} {Y : Nat → Prop} {v : Value} {l : List Tm} {xs : List Value} (h : Row w N T Y v l xs) {b i : Nat} (hb : b < N) (hY : ¬ Y b) (u : Value) : Row (w.setCell ⟨b, i, none⟩ u) N T Y v l xs :=
  ⟨ownsRow_setCell_below h.own (by simpa using hb) u, h.row.imp fun a k hs => hs.kept fun c hc => Below.heap_setCell _ _ _ _ (by
    simp
    rcases hc with hc | hc
    · intro e; subst e; exact hY hc
    · omega)⟩

theorem Row.sl {w : World} {N T : Nat} {Y : Nat → Prop} {v : Value} {l : List Tm} {xs : List Value} (h : Row w N T Y v l xs) : ∃ a c, v = .slice a l.length c ∧ Sl w (fun b => Y b ∨ N ≤ b) a l := by
  have hml : l.length ≤ 9223372036854775807 := by
    rcases h.own.2 with ⟨_, h0⟩ | ⟨g, cap, cur, _, _, _, h1, h2, _⟩
    · omega
    · unfold maxLen at h2; omega
  by_cases h0 : 0 < l.length
  · obtain ⟨g, cap, rfl, hg, hlt, hc⟩ := owned_val h.own h0
    exact ⟨_, _, rfl, hml, Or.inr ⟨g, 0, rfl, lies_of_rowT g (Or.inr hg) l xs 0 h.row (fun a k hs => hs.mono fun b hb _ => hb.imp id (fun h => h.1)) (fun j u hj => by simpa using hc j u hj)⟩⟩
  · have e : l = [] := List.length_eq_zero_iff.1 (by omega)
    subst e
    rcases h.own.2 with ⟨hv, _⟩ | ⟨g, cap, cur, hv, _⟩
    · exact ⟨none, 0, hv, hml, Or.inl rfl⟩
    · exact ⟨_, _, hv, hml, Or.inl rfl⟩

end Go.Proofs.YtfkjejpfhflanaaGreatDoor

/- Lists of things of one cell each. -/
namespace Go.Proofs.YtfkjejpfhflanaaGreatDoor
open Go.RowKit
set_option linter.unusedSimpArgs false
set_option linter.unusedVariables false

/-- A list in memory, a cell each. -/
def LV {α : Type} (f : α → Value) (w : World) (X : Nat → Prop) (v : Value) (l : List α) : Prop :=
  ∃ a c, v = .slice a l.length c ∧ (l.length ≤ 9223372036854775807 ∧ l.length ≤ c) ∧ (l = [] ∨ ∃ b o, a = some ⟨b, o, none⟩ ∧ X b ∧ ∀ i (h : i < l.length), w.cell? ⟨b, o + i, none⟩ = some (f l[i]))

theorem LV.kept {α : Type} {f : α → Value} {w w' : World} {X : Nat → Prop} {v : Value} {l : List α} (h : LV f w X v l) (hk : ∀ b, X b → w'.heap[b]? = w.heap[b]?) : LV f w' X v l := by
  obtain ⟨a, c, e, hl, h⟩ := h
  refine ⟨a, c, e, hl, ?_⟩
  rcases h with h | ⟨b, o, e, hx, h⟩
  · exact Or.inl h
  · exact Or.inr ⟨b, o, e, hx, fun i hi => by rw [World.cell?_of_block (hk b hx)]; exact h i hi⟩

theorem LV.mono {α : Type} {f : α → Value} {w : World} {X Y : Nat → Prop} {v : Value} {l : List α} (h : LV f w X v l) (hk : ∀ b, X b → b < w.heap.size → Y b) : LV f w Y v l := by
  obtain ⟨a, c, e, hl, h⟩ := h
  refine ⟨a, c, e, hl, ?_⟩
  rcases h with h | ⟨b, o, e, hx, h⟩
  · exact Or.inl h
  · by_cases h0 : l = []
    · exact Or.inl h0
    · have hp : 0 < l.length := List.length_pos_iff.2 h0
      exact Or.inr ⟨b, o, e, hk b hx (World.block_lt_of_cell? w _ (h 0 hp)), h⟩

theorem LV.below {α : Type} {f : α → Value} {w w' : World} {X : Nat → Prop} {v : Value} {l : List α} {B : Nat} (h : LV f w X v l) (hb : Below B w w') (hX : ∀ b, X b → b < w.heap.size → b < B) : LV f w' X v l := by
  have h1 : LV f w (fun b => X b ∧ b < B) v l := h.mono fun b hx hs => ⟨hx, hX b hx hs⟩
  have h2 : LV f w' (fun b => X b ∧ b < B) v l := h1.kept fun b hx => hb.block b hx.2
  exact h2.mono fun b hx _ => hx.1

theorem LV.later {α : Type} {f : α → Value} {w w' : World} {X : Nat → Prop} {v : Value} {l : List α} (h : LV f w X v l) (hb : Below w.heap.size w w') : LV f w' X v l := h.below hb (fun _ _ h => h)
theorem LV.alloc {α : Type} {f : α → Value} {w : World} {X : Nat → Prop} {v : Value} {l : List α} (h : LV f w X v l) (o : Obj) : LV f (w.alloc o) X v l := h.later ((Below.refl _ _).alloc (Nat.le_refl _) o)

/-- Out of a row that a call owns. -/
theorem LV.of_own {α : Type} {f : α → Value} {w : World} {N T : Nat} {v : Value} {l : List α} (h : w.ownsRow N T 1 v l.length (l.map f)) : LV f w (fun b => N ≤ b) v l := by
  have h' := h
  obtain ⟨_, h1⟩ := h
  rcases h1 with ⟨rfl, h0⟩ | ⟨g, cap, cur, hv, hg, hh, hnc, hcm, _⟩
  · have e : l = [] := List.length_eq_zero_iff.1 h0
    subst e
    exact ⟨none, 0, rfl, by simp, Or.inl rfl⟩
  · unfold maxLen at hcm
    refine ⟨some ⟨g, 0, none⟩, cap, hv, ⟨by omega, hnc⟩, ?_⟩
    by_cases h0 : l = []
    · exact Or.inl h0
    · have hp : 0 < l.length := List.length_pos_iff.2 h0
      obtain ⟨g2, cap2, hv2, _, _, hc⟩ := owned_val h' hp
      rw [hv] at hv2
      simp at hv2
      obtain ⟨rfl, rfl⟩ := hv2
      exact Or.inr ⟨g, 0, rfl, hg, fun i hi => by rw [Nat.zero_add]; exact hc i _ (by simp [hi])⟩
end Go.Proofs.YtfkjejpfhflanaaGreatDoor


/- Walks: letters, digits, names. -/
namespace Go.Proofs.YtfkjejpfhflanaaGreatDoor
open Go.RowKit
set_option linter.unusedSimpArgs false
set_option linter.unusedVariables false

def digB (n : Int) : Bool := decide (48 ≤ n) && decide (n ≤ 57)
def capB (n : Int) : Bool := decide (65 ≤ n) && decide (n ≤ 90)
def lowB (n : Int) : Bool := decide (97 ≤ n) && decide (n ≤ 122)
def letB (n : Int) : Bool := lowB n || capB n
def alnB (n : Int) : Bool := letB n || digB n

theorem ret_bool {a b : Bool} (h : a = b) : Ending.returned (.bool a) = .returned (.bool b) := by rw [h]

set_option maxHeartbeats 400000 in
theorem isDigit_any (n : Int) (w : World) : Calls Tryz.prog 81 #[.int .u8 n] w fun e w' => e = .returned (.bool (digB n)) ∧ w' = w := by
  go_enter Tryz.func81, Tryz.ntmps81
  go_wp2_with fail
  all_goals (go_ret; refine ⟨ret_bool ?_, rfl⟩; rw [Bool.eq_iff_iff]; simp [alnB, letB, lowB, capB, digB] <;> omega)

set_option maxHeartbeats 400000 in
theorem isCapital_any (n : Int) (w : World) : Calls Tryz.prog 93 #[.int .u8 n] w fun e w' => e = .returned (.bool (capB n)) ∧ w' = w := by
  go_enter Tryz.func93, Tryz.ntmps93
  go_wp2_with fail
  all_goals (go_ret; refine ⟨ret_bool ?_, rfl⟩; rw [Bool.eq_iff_iff]; simp [alnB, letB, lowB, capB, digB] <;> omega)

set_option maxHeartbeats 400000 in
theorem isLetter_any (n : Int) (w : World) : Calls Tryz.prog 82 #[.int .u8 n] w fun e w' => e = .returned (.bool (letB n)) ∧ w' = w := by
  go_enter Tryz.func82, Tryz.ntmps82
  go_wp2_with (go_at_call 93; refine (isCapital_any _ _).mono ?_; rintro e w' ⟨rfl, rfl⟩)
  all_goals (go_ret; refine ⟨ret_bool ?_, rfl⟩; rw [Bool.eq_iff_iff]; simp [alnB, letB, lowB, capB, digB] <;> omega)

end Go.Proofs.YtfkjejpfhflanaaGreatDoor


/- Walks: lists that are the same; whether a text is in a list. -/
namespace Go.Proofs.YtfkjejpfhflanaaGreatDoor
open Go.RowKit
set_option linter.unusedSimpArgs false
set_option linter.unusedVariables false

/-- Is a text in a list? -/
def inB (x : ByteArray) (l : List ByteArray) : Bool := l.any fun y => y.toList == x.toList
theorem inB_take {x : ByteArray} {l : List ByteArray} {k : Nat} (h : k < l.length) (h0 : inB x (l.take k) = false) (h1 : (l[k].toList == x.toList) = false) : inB x (l.take (k + 1)) = false := by
  unfold inB at *
  rw [List.take_succ_eq_append_getElem h, List.any_append, h0]
  simpa using h1
theorem inB_yes {x : ByteArray} {l : List ByteArray} {k : Nat} (h : k < l.length) (h1 : (l[k].toList == x.toList) = true) : inB x l = true := by
  unfold inB
  rw [List.any_eq_true]
  exact ⟨l[k], List.getElem_mem h, h1⟩

end Go.Proofs.YtfkjejpfhflanaaGreatDoor


/- Walks: which texts are names, and which of them are variables'. -/
namespace Go.Proofs.YtfkjejpfhflanaaGreatDoor
open Go.RowKit
set_option linter.unusedSimpArgs false
set_option linter.unusedVariables false

def byteAt (s : ByteArray) (i : Nat) : Int := if h : i < s.size then (s[i].toNat : Int) else 0
theorem byteAt_of {s : ByteArray} {i : Nat} (h : i < s.size) : (s[i].toNat : Int) = byteAt s i := by simp [byteAt, h]
def varB (s : ByteArray) : Bool := capB (byteAt s 0)
def alnTo (s : ByteArray) (k : Nat) : Bool := (List.range k).all fun i => alnB (byteAt s i)
def nameB (s : ByteArray) : Bool := decide (1 ≤ s.size) && decide (s.size ≤ 8) && !digB (byteAt s 0) && alnTo s s.size

theorem isEmpty_pos {s : ByteArray} (h : 0 < s.size) : s.toList.isEmpty = false := by
  rw [ByteArray.toList_eq, List.isEmpty_eq_false_iff, ← List.length_pos_iff]
  simpa using h
theorem isEmpty_zero {s : ByteArray} (h : ¬ 0 < s.size) : s.toList.isEmpty = true := by
  rw [ByteArray.toList_eq, List.isEmpty_iff, ← List.length_eq_zero_iff]
  have : s.size = 0 := by omega
  simpa using this
theorem alnTo_succ (s : ByteArray) (k : Nat) : alnTo s (k + 1) = (alnTo s k && alnB (byteAt s k)) := by
  simp [alnTo, List.range_succ, List.all_append]
theorem alnTo_false {s : ByteArray} {k n : Nat} (h : k ≤ n) (hf : alnTo s k = false) : alnTo s n = false := by
  cases hn : alnTo s n with
  | false => rfl
  | true =>
    rw [← hf]; symm
    unfold alnTo at hn ⊢
    rw [List.all_eq_true] at hn ⊢
    intro x hx; exact hn x (by rw [List.mem_range] at hx ⊢; omega)
theorem byte_bd (s : ByteArray) (k : Nat) : 0 ≤ byteAt s k ∧ byteAt s k ≤ 255 := by
  unfold byteAt
  split
  · have := (s[k]).toNat_lt; omega
  · omega

set_option maxHeartbeats 400000 in
theorem isVariable_all (s : ByteArray) (w : World) : Calls Tryz.prog 70 #[.string s] w fun e w' => e = .returned (.bool (varB s)) ∧ w' = w := by
  by_cases h : 0 < s.size
  · have hb := hide (byteAt_of h)
    have he := isEmpty_pos h
    go_enter Tryz.func70, Tryz.ntmps70
    go_wp2_with (go_at_call 93; refine (isCapital_any _ _).mono ?_; rintro e w' ⟨rfl, rfl⟩)
    go_ret
    refine ⟨ret_bool ?_, rfl⟩
    rw [hb.out]; rfl
  · have he := isEmpty_zero h
    have hv : Hid (false = varB s) := by simp [Hid, varB, byteAt, h, capB]
    go_enter Tryz.func70, Tryz.ntmps70
    go_wp2_with fail
    go_ret
    exact ⟨ret_bool hv.out, rfl⟩
theorem isVariable_any (s : ByteArray) (w : World) (h : 0 < s.size) : Calls Tryz.prog 70 #[.string s] w fun e w' => e = .returned (.bool (varB s)) ∧ w' = w := isVariable_all s w

theorem nameB_no {s : ByteArray} {k : Nat} (hk : k < s.size) (h : alnB (byteAt s k) = false) : nameB s = false := by
  have h1 : alnTo s (k + 1) = false := by rw [alnTo_succ, h]; simp
  have h2 := alnTo_false (n := s.size) (by omega) h1
  simp [nameB, h2]

set_option maxHeartbeats 400000 in
theorem isName_any (s : ByteArray) (w : World) : Calls Tryz.prog 59 #[.string s] w fun e w' => e = .returned (.bool (nameB s)) ∧ w' = w := by
  by_cases h0 : s.size < 1
  · have hn : Hid (false = nameB s) := by simp [Hid, nameB]; omega
    go_enter Tryz.func59, Tryz.ntmps59
    go_wp2_with fail
    go_ret
    exact ⟨ret_bool hn.out, rfl⟩
  · by_cases h8 : 8 < s.size
    · have hn : Hid (false = nameB s) := by simp [Hid, nameB]; omega
      go_enter Tryz.func59, Tryz.ntmps59
      go_wp2_with fail
      all_goals (go_ret; exact ⟨ret_bool hn.out, rfl⟩)
    · have hb := hide (byteAt_of (s := s) (i := 0) (by omega))
      by_cases hd : digB (byteAt s 0) = true
      · have hn : Hid (false = nameB s) := by simp [Hid, nameB, hd]
        have hd' := hide hd
        clear hd
        go_enter Tryz.func59, Tryz.ntmps59
        go_wp2_with (go_at_call 81; refine (isDigit_any _ _).mono ?_; rintro e w' ⟨rfl, rfl⟩; rw [hb.out, hd'.out])
        all_goals (go_ret; exact ⟨ret_bool hn.out, rfl⟩)
      · have hd' : Hid (digB (byteAt s 0) = false) := by simpa [Hid] using hd
        clear hd
        go_enter Tryz.func59, Tryz.ntmps59
        go_wp2_with (go_at_call 81; refine (isDigit_any _ _).mono ?_; rintro e w' ⟨rfl, rfl⟩; rw [hb.out, hd'.out])
        go_loop [19] (fun i => ∃ k : Nat, k ≤ s.size ∧ i = .int .i64 k ∧ alnTo s k = true) (fun i => s.size - (intOf i).toNat)
        case atStart => exact ⟨0, Nat.zero_le _, rfl, rfl⟩
        case round =>
          obtain ⟨k, hk, rfl, ha⟩ := hrel
          have HA := hide ha
          clear ha
          by_cases hlt : k < s.size
          · have hbk := hide (byteAt_of hlt)
            have hsuc := hide (alnTo_succ s k)
            cases hl : letB (byteAt s k) with
            | true =>
              have HL := hide hl
              clear hl
              go_wp2_with (go_at_call 82; refine (isLetter_any _ _).mono ?_; rintro e w' ⟨rfl, rfl⟩; rw [hbk.out, HL.out])
              go_round
              case rel => exact ⟨k + 1, by omega, by go_num, by rw [hsuc.out, HA.out, alnB, HL.out]; rfl⟩
              case measure => simp [intOf]; omega
            | false =>
              have HL := hide hl
              clear hl
              cases hg : digB (byteAt s k) with
              | true =>
                have HG := hide hg
                clear hg
                go_wp2_with (first | (go_at_call 82; refine (isLetter_any _ _).mono ?_; rintro e w' ⟨rfl, rfl⟩; rw [hbk.out, HL.out]) | (go_at_call 81; refine (isDigit_any _ _).mono ?_; rintro e w' ⟨rfl, rfl⟩; rw [hbk.out, HG.out]))
                go_round
                case rel => exact ⟨k + 1, by omega, by go_num, by rw [hsuc.out, HA.out, alnB, HL.out, HG.out]; rfl⟩
                case measure => simp [intOf]; omega
              | false =>
                have HG := hide hg
                clear hg
                go_wp2_with (first | (go_at_call 82; refine (isLetter_any _ _).mono ?_; rintro e w' ⟨rfl, rfl⟩; rw [hbk.out, HL.out]) | (go_at_call 81; refine (isDigit_any _ _).mono ?_; rintro e w' ⟨rfl, rfl⟩; rw [hbk.out, HG.out]))
                go_ret
                exact ⟨ret_bool (nameB_no hlt (by rw [alnB, HL.out, HG.out]; rfl)).symm, rfl⟩
          · have hn : Hid (true = nameB s) := by
              have e : k = s.size := by omega
              have := HA.out
              rw [e] at this
              simp [Hid, nameB, this, hd'.out]; omega
            go_wp2_with fail
            go_ret
            exact ⟨ret_bool hn.out, rfl⟩

end Go.Proofs.YtfkjejpfhflanaaGreatDoor

/- Walks: counting knots with a bound; what is wrong with a term. -/
namespace Go.Proofs.YtfkjejpfhflanaaGreatDoor
open Go.RowKit
set_option linter.unusedSimpArgs false
set_option linter.unusedVariables false

theorem argsOf_any (s : ByteArray) (a : Option Addr) (n c : Nat) (w : World) :
    Calls Tryz.prog 92 #[.agg #[.string s, .slice a n c]] w fun e w' => e = .returned (.slice a n c) ∧ w' = w.alloc (.cells #[.string s, .slice a n c] 30) := by
  go_enter Tryz.func92, Tryz.ntmps92
  go_wp2_with fail
  go_ret
  exact ⟨rfl, rfl⟩

set_option maxHeartbeats 400000 in
theorem countOn_any (M : Int) (hM0 : 0 ≤ M) (hM1 : M ≤ 1000000) (t : Tm) : ∀ (v : Value) (n : Int) (w : World) (X : Nat → Prop), TV w X v t → 0 ≤ n → n ≤ M →
    Calls Tryz.prog 110 #[v, .func (.func 92) #[] #[], .int .i64 M, .int .i64 n] w fun e w' => e = .returned (.int .i64 (min (n + sizeL [t]) (M + 1))) ∧ Below w.heap.size w w' := by
  induction t using Tm.ind with
  | h s l ih =>
    intro v n w X hv hn0 hn1
    obtain ⟨a, c, rfl, hs⟩ := hv
    have IH := hide ih
    clear ih
    have hz : Hid ((sizeL [(⟨s, l⟩ : Tm)] : Int) = 1 + sizeL l) := by simp [Hid, sizeL]
    go_enter Tryz.func110, Tryz.ntmps110
    go_wp2_with (go_at_call 92; refine (argsOf_any _ _ _ _ _).mono ?_; rintro e w' ⟨rfl, rfl⟩)
    have hB0 : Hid (Below w.heap.size w ((w.alloc (Obj.cells #[Value.string s, Value.slice a l.length c] 30)).alloc (Obj.cells #[Value.string s, Value.slice a l.length c] 30))) := ((Below.refl _ _).alloc (Nat.le_refl _) _).alloc (by simp) _
    have hZ0 : Hid (w.heap.size + 2 ≤ ((w.alloc (Obj.cells #[Value.string s, Value.slice a l.length c] 30)).alloc (Obj.cells #[Value.string s, Value.slice a l.length c] 30)).heap.size) := by simp [Hid]
    generalize ((w.alloc (Obj.cells #[Value.string s, Value.slice a l.length c] 30)).alloc (Obj.cells #[Value.string s, Value.slice a l.length c] 30)) = w0 at *
    go_loopw [9, 18] (fun m i wr => ∃ k : Nat, k ≤ l.length ∧ i = .int .i64 k ∧ m = .int .i64 (min (n + 1 + sizeL (l.take k)) (M + 1)) ∧ Below w.heap.size w wr) (fun m i wr => l.length - (intOf i).toNat)
    case atStart => exact ⟨0, Nat.zero_le _, rfl, by rw [show sizeL (l.take 0) = 0 by simp [sizeL]]; congr 1; omega, hB0.out⟩
    case round =>
      obtain ⟨k, hk, rfl, rfl, hb⟩ := hrel
      have hl := hs.1
      have hsz : w.heap.size ≤ wr.heap.size := hb.size
      by_cases hlt : k < l.length
      · obtain ⟨b, o, a', c', rfl, d0, d1, hx⟩ := hs.get hb (fun _ _ h => h) k hlt
        by_cases hle : n + 1 + (sizeL (l.take k) : Int) ≤ M
        · have hmin : min (n + 1 + (sizeL (l.take k) : Int)) (M + 1) = n + 1 + (sizeL (l.take k) : Int) := by omega
          rw [hmin]
          go_wp2_with fail
          refine (IH.out _ (List.getElem_mem hlt) _ _ _ X (hx.alloc _) (by omega) (by omega)).mono ?_
          rintro e w1 ⟨rfl, hb1⟩
          have Hst := hide (sizeL_take l k hlt)
          go_wp2_with fail
          go_roundw
          case rel => exact ⟨k + 1, by omega, by go_num, by rw [Hst.out]; congr 1; omega, (hb.alloc hsz _).trans (hb1.mono (by simp; omega))⟩
          case measure => simp [intOf]; omega
        · have hmin : min (n + 1 + (sizeL (l.take k) : Int)) (M + 1) = M + 1 := by omega
          rw [hmin]
          have hle2 : sizeL (l.take k) ≤ sizeL l := sizeL_take_le l k
          go_wp2_with fail
          go_ret
          refine ⟨ret_int (by have := hz.out; omega), ?_⟩
          exact hb.alloc (by omega) _
      · have htk : l.take k = l := List.take_of_length_le (by omega)
        rw [htk]
        go_wp2_with fail
        go_ret
        exact ⟨ret_int (by have := hz.out; omega), hb⟩

theorem countT_any (M : Int) (hM0 : 0 ≤ M) (hM1 : M ≤ 1000000) (t : Tm) (v : Value) (w : World) (X : Nat → Prop) (hv : TV w X v t) :
    Calls Tryz.prog 91 #[v, .func (.func 92) #[] #[], .int .i64 M] w fun e w' => e = .returned (.int .i64 (min (sizeL [t] : Int) (M + 1))) ∧ Below w.heap.size w w' := by
  obtain ⟨a, c, rfl, hs⟩ := hv
  have hv : TV w X (.agg #[.string t.name, .slice a t.args.length c]) t := ⟨a, c, rfl, hs⟩
  go_enter Tryz.func91, Tryz.ntmps91
  go_wp2_with fail
  refine (countOn_any M hM0 hM1 t _ _ _ X (hv.alloc _) (by omega) (by omega)).mono ?_
  rintro e w1 ⟨rfl, hb1⟩
  go_wp2_with fail
  go_ret
  exact ⟨ret_int (by omega), ((Below.refl _ _).alloc (Nat.le_refl _) _).trans (hb1.mono (by simp))⟩

theorem count_any (M : Int) (hM0 : 0 ≤ M) (hM1 : M ≤ 1000000) (t : Tm) (v : Value) (w : World) (X : Nat → Prop) (hv : TV w X v t) :
    Calls Tryz.prog 68 #[v, .int .i64 M] w fun e w' => e = .returned (.int .i64 (min (sizeL [t] : Int) (M + 1))) ∧ Below w.heap.size w w' := by
  obtain ⟨a, c, rfl, hs⟩ := hv
  have hv : TV w X (.agg #[.string t.name, .slice a t.args.length c]) t := ⟨a, c, rfl, hs⟩
  go_enter Tryz.func68, Tryz.ntmps68
  go_wp2_with fail
  refine (countT_any M hM0 hM1 t _ _ X (hv.alloc _)).mono ?_
  rintro e w1 ⟨rfl, hb1⟩
  go_wp2_with fail
  go_ret
  exact ⟨ret_int (by omega), ((Below.refl _ _).alloc (Nat.le_refl _) _).trans (hb1.mono (by simp))⟩

/-- What is wrong, knot by knot: 0 nothing, 1 no name, 2 a variable with terms below it. -/
def errL : List Tm → Int
  | [] => 0
  | ⟨s, l⟩ :: r => if nameB s = true then (if (varB s && decide (0 < l.length)) = true then 2 else if errL l = 0 then errL r else errL l) else 1

theorem errL_cons (t : Tm) (r : List Tm) : errL (t :: r) = if errL [t] = 0 then errL r else errL [t] := by
  obtain ⟨s, l⟩ := t
  simp only [errL]
  split
  · split
    · simp
    · split <;> simp_all
  · simp

theorem errL_append (a b : List Tm) : errL (a ++ b) = if errL a = 0 then errL b else errL a := by
  induction a with
  | nil => simp [errL]
  | cons t r ih =>
    rw [List.cons_append, errL_cons, errL_cons t r, ih]
    by_cases h : errL [t] = 0 <;> simp [h]

theorem errL_take (l : List Tm) (k : Nat) (h : k < l.length) : errL (l.take (k + 1)) = if errL (l.take k) = 0 then errL [l[k]] else errL (l.take k) := by
  rw [List.take_succ_eq_append_getElem h, errL_append]

theorem errL_of_take {l : List Tm} {k : Nat} (h : errL (l.take k) ≠ 0) : errL l = errL (l.take k) := by
  have := errL_append (l.take k) (l.drop k)
  rw [List.take_append_drop, if_neg h] at this
  exact this

theorem name_pos {s : ByteArray} (h : nameB s = true) : 0 < s.size := by
  simp [nameB] at h; omega

set_option maxHeartbeats 400000 in
theorem checkKnots_any (t : Tm) : ∀ (v : Value) (w : World) (X : Nat → Prop), TV w X v t →
    Calls Tryz.prog 69 #[v] w fun e w' => e = .returned (.int .i64 (errL [t])) ∧ Below w.heap.size w w' := by
  induction t using Tm.ind with
  | h s l ih =>
    intro v w X hv
    obtain ⟨a, c, rfl, hs⟩ := hv
    have IH := hide ih
    clear ih
    have hl := hs.1
    cases hn : nameB s with
    | false =>
      have hz : Hid (1 = errL [(⟨s, l⟩ : Tm)]) := by simp [Hid, errL, hn]
      have HN := hide hn
      clear hn
      go_enter Tryz.func69, Tryz.ntmps69
      go_wp2_with (go_at_call 59; refine (isName_any _ _).mono ?_; rintro e w' ⟨rfl, rfl⟩; rw [HN.out])
      go_ret
      exact ⟨ret_int hz.out, (Below.refl _ _).alloc (Nat.le_refl _) _⟩
    | true =>
      have HN := hide hn
      have hpos := name_pos hn
      by_cases hvl : varB s = true ∧ 0 < l.length
      · obtain ⟨hv, hlp⟩ := hvl
        have hz : Hid (2 = errL [(⟨s, l⟩ : Tm)]) := by simp [Hid, errL, hn, hv, hlp]
        have HV := hide hv
        clear hn hv
        go_enter Tryz.func69, Tryz.ntmps69
        go_wp2_with (first | (go_at_call 59; refine (isName_any _ _).mono ?_; rintro e w' ⟨rfl, rfl⟩; rw [HN.out]) | (go_at_call 70; refine (isVariable_any _ _ hpos).mono ?_; rintro e w' ⟨rfl, rfl⟩; rw [HV.out]))
        go_ret
        exact ⟨ret_int hz.out, (Below.refl _ _).alloc (Nat.le_refl _) _⟩
      · have hz : Hid (errL [(⟨s, l⟩ : Tm)] = errL l) := by
          have : (varB s && decide (0 < l.length)) = false := by
            rw [Bool.eq_false_iff]; intro h; simp at h; exact hvl ⟨h.1, by omega⟩
          simp only [Hid, errL, hn, this]
          by_cases h0 : errL l = 0 <;> simp [h0]
        have hcase : (varB s = true ∧ l.length < 1) ∨ varB s = false := by
          cases hv : varB s with
          | true => exact Or.inl ⟨rfl, by apply Classical.byContradiction; intro h; exact hvl ⟨hv, by omega⟩⟩
          | false => exact Or.inr rfl
        clear hn hvl
        rcases hcase with ⟨hv, hl0⟩ | hv
        · have e0 : l = [] := List.length_eq_zero_iff.1 (by omega)
          subst e0
          have HV := hide hv
          clear hv
          go_enter Tryz.func69, Tryz.ntmps69
          go_wp2_with (first | (go_at_call 59; refine (isName_any _ _).mono ?_; rintro e w' ⟨rfl, rfl⟩; rw [HN.out]) | (go_at_call 70; refine (isVariable_any _ _ hpos).mono ?_; rintro e w' ⟨rfl, rfl⟩; rw [HV.out]))
          go_loop [22] (fun i => i = .int .i64 0) (fun i => 0)
          case atStart => rfl
          case round =>
            subst hrel
            have HZ : Hid (0 = errL [(⟨s, []⟩ : Tm)]) := by unfold Hid; rw [hz.out]; simp [errL]
            go_wp2_with fail
            go_ret
            exact ⟨ret_int HZ.out, (Below.refl _ _).alloc (Nat.le_refl _) _⟩
        · have HV := hide hv
          clear hv
          go_enter Tryz.func69, Tryz.ntmps69
          go_wp2_with (first | (go_at_call 59; refine (isName_any _ _).mono ?_; rintro e w' ⟨rfl, rfl⟩; rw [HN.out]) | (go_at_call 70; refine (isVariable_any _ _ hpos).mono ?_; rintro e w' ⟨rfl, rfl⟩; rw [HV.out]))
          go_loopw [22] (fun i wr => ∃ k : Nat, k ≤ l.length ∧ i = .int .i64 k ∧ errL (l.take k) = 0 ∧ Below (w.heap.size + 1) (w.alloc (Obj.cells #[Value.string s, Value.slice a l.length c] 30)) wr) (fun i wr => l.length - (intOf i).toNat)
          case atStart => exact ⟨0, Nat.zero_le _, rfl, by simp [errL], Below.refl _ _⟩
          case round =>
            obtain ⟨k, hk, rfl, he, hb⟩ := hrel
            have HE := hide he
            clear he
            have hsz : w.heap.size + 1 ≤ wr.heap.size := by have := hb.size; simpa using this
            by_cases hlt : k < l.length
            · obtain ⟨b, o, a', c', rfl, d0, d1, hx⟩ := hs.get (below_box hb) (fun _ _ h => h) k hlt
              have HT := hide (errL_take l k hlt)
              go_wp2_with fail
              refine (IH.out _ (List.getElem_mem hlt) _ _ X (hx.alloc _)).mono ?_
              rintro e w1 ⟨rfl, hb1⟩
              by_cases hez : errL [l[k]] = 0
              · have HZ := hide hez
                rw [hez]
                clear hez
                go_wp2_with fail
                go_roundw
                case rel => exact ⟨k + 1, by omega, by go_num, by rw [HT.out, HE.out, HZ.out]; rfl, (hb.alloc hsz _).trans (hb1.mono (by simp; omega))⟩
                case measure => simp [intOf]; omega
              · have hez' : (errL [l[k]] == 0) = false := by simpa using hez
                have HZ : Hid (errL [l[k]] = errL [(⟨s, l⟩ : Tm)]) := by
                  have h1 : errL (l.take (k + 1)) = errL [l[k]] := by rw [HT.out, HE.out]; rfl
                  unfold Hid
                  rw [hz.out, errL_of_take (l := l) (k := k + 1) (by rw [h1]; exact hez), h1]
                go_wp2_with fail
                go_ret
                exact ⟨ret_int HZ.out, ((below_box hb).alloc (by omega) _).trans (hb1.mono (by simp; omega))⟩
            · have htk : l.take k = l := List.take_of_length_le (by omega)
              have HZ : Hid (0 = errL [(⟨s, l⟩ : Tm)]) := by unfold Hid; rw [hz.out, ← htk, HE.out]
              go_wp2_with fail
              go_ret
              exact ⟨ret_int HZ.out, below_box hb⟩

/-- What is wrong with a term. -/
def mayE (t : Tm) : Int := if 200 < sizeL [t] then 3 else errL [t]

set_option maxHeartbeats 400000 in
theorem check_any (t : Tm) (v : Value) (w : World) (X : Nat → Prop) (hv : TV w X v t) :
    Calls Tryz.prog 44 #[v] w fun e w' => e = .returned (.int .i64 (mayE t)) ∧ Below w.heap.size w w' := by
  obtain ⟨a, c, rfl, hs⟩ := hv
  have hv : TV w X (.agg #[.string t.name, .slice a t.args.length c]) t := ⟨a, c, rfl, hs⟩
  go_enter Tryz.func44, Tryz.ntmps44
  go_wp2_with fail
  refine (count_any 200 (by omega) (by omega) t _ _ X (hv.alloc _)).mono ?_
  rintro e w1 ⟨rfl, hb1⟩
  have c0 : w1.cell? ⟨w.heap.size, 0, none⟩ = some (.string t.name) := by rw [hb1.cell (p := ⟨_, _, none⟩) (by simp)]; simp
  have c1 : w1.cell? ⟨w.heap.size, 1, none⟩ = some (.slice a t.args.length c) := by rw [hb1.cell (p := ⟨_, _, none⟩) (by simp)]; simp
  have hb2 : Below w.heap.size w w1 := ((Below.refl _ _).alloc (Nat.le_refl _) _).trans (hb1.mono (by simp))
  by_cases h : 200 < sizeL [t]
  · have hm : Hid (3 = mayE t) := by simp [Hid, mayE, h]
    have e : min (sizeL [t] : Int) (200 + 1) = 201 := by omega
    rw [e]
    go_wp2_with fail
    go_ret
    exact ⟨ret_int hm.out, hb2⟩
  · have hm : Hid (errL [t] = mayE t) := by simp [Hid, mayE, h]
    have e : min (sizeL [t] : Int) (200 + 1) = sizeL [t] := by omega
    rw [e]
    go_wp2_with fail
    refine (checkKnots_any t _ _ X (hv.later hb2)).mono ?_
    rintro e w2 ⟨rfl, hb3⟩
    go_wp2_with fail
    go_ret
    exact ⟨ret_int hm.out, hb2.trans (hb3.mono hb2.size)⟩
end Go.Proofs.YtfkjejpfhflanaaGreatDoor


/- Walks: all knots of a term. -/
namespace Go.Proofs.YtfkjejpfhflanaaGreatDoor
open Go.RowKit
set_option linter.unusedSimpArgs false
set_option linter.unusedVariables false

theorem ownsRow_base {w : World} {base base' e size : Nat} {v : Value} {n : Nat} {xs : List Value} (h : w.ownsRow base e size v n xs) (hb : base' ≤ base) : w.ownsRow base' e size v n xs := by
  obtain ⟨h0, h1⟩ := h
  refine ⟨h0, ?_⟩
  rcases h1 with h1 | ⟨g, cap, cur, hv, hg, r⟩
  · exact Or.inl h1
  · exact Or.inr ⟨g, cap, cur, hv, Nat.le_trans hb hg, r⟩

end Go.Proofs.YtfkjejpfhflanaaGreatDoor


/- Walks: what the document says of a term. -/
namespace Go.Proofs.YtfkjejpfhflanaaGreatDoor
open Go.RowKit
set_option linter.unusedSimpArgs false
set_option linter.unusedVariables false

end Go.Proofs.YtfkjejpfhflanaaGreatDoor


/- Walks: the variables of a term, each once. -/
namespace Go.Proofs.YtfkjejpfhflanaaGreatDoor
open Go.RowKit
set_option linter.unusedSimpArgs false
set_option linter.unusedVariables false

theorem Tryz.infoStr : (Tryz.prog.info? 9).map (fun i => (i.zero, i.size, i.bytes)) = some (some (.string ByteArray.empty), 1, 16) := by kernel_rfl

theorem beq_comm' (a b : ByteArray) : (a.toList == b.toList) = (b.toList == a.toList) := by
  rw [Bool.eq_iff_iff]; simp; exact eq_comm

set_option maxHeartbeats 400000 in
theorem index_any (x : ByteArray) (l : List ByteArray) (v : Value) (w : World) (X : Nat → Prop) (hv : LV Value.string w X v l) :
    Calls Tryz.prog 83 #[v, .string x] w fun e w' => (∃ n : Int, e = .returned (.int .i64 n) ∧ decide (0 ≤ n) = inB x l) ∧ w' = w := by
  obtain ⟨a, c, rfl, ⟨hl, _⟩, h1⟩ := hv
  go_enter Tryz.func83, Tryz.ntmps83
  go_wp2_with fail
  go_loop [8] (fun i => ∃ k : Nat, k ≤ l.length ∧ i = .int .i64 k ∧ inB x (l.take k) = false) (fun i => l.length - (intOf i).toNat)
  case atStart => exact ⟨0, Nat.zero_le _, rfl, by simp [inB]⟩
  case round =>
    obtain ⟨k, hk, rfl, ha⟩ := hrel
    have HA := hide ha
    clear ha
    by_cases hlt : k < l.length
    · obtain ⟨b, o, rfl, _, hc⟩ := h1.resolve_left (fun h => by rw [h] at hlt; simp at hlt)
      have d1 := hc k hlt
      clear hc h1
      cases hq : (x.toList == l[k].toList) with
      | true =>
        have HQ := hide (inB_yes hlt (by rw [beq_comm']; exact hq))
        go_wp2_with fail
        go_ret
        exact ⟨⟨k, rfl, by rw [HQ.out]; simp⟩, rfl⟩
      | false =>
        have HQ := hide (inB_take hlt HA.out (by rw [beq_comm']; exact hq))
        go_wp2_with fail
        go_round
        case rel => exact ⟨k + 1, by omega, by go_num, HQ.out⟩
        case measure => simp [intOf]; omega
    · have htk : l.take k = l := List.take_of_length_le (by omega)
      have HF : Hid (false = inB x l) := by unfold Hid; rw [← HA.out, htk]
      go_wp2_with fail
      go_ret
      exact ⟨⟨-1, rfl, by rw [← HF.out]; decide⟩, rfl⟩

set_option maxHeartbeats 400000 in
theorem contains_any (x : ByteArray) (l : List ByteArray) (v : Value) (w : World) (X : Nat → Prop) (hv : LV Value.string w X v l) :
    Calls Tryz.prog 60 #[v, .string x] w fun e w' => e = .returned (.bool (inB x l)) ∧ w' = w := by
  have HV := hide hv
  clear hv
  go_enter Tryz.func60, Tryz.ntmps60
  go_wp2_with fail
  refine (index_any x l _ _ X HV.out).mono ?_
  rintro e w1 ⟨⟨n, rfl, hn⟩, rfl⟩
  have HN := hide hn
  clear hn
  go_wp2_with fail
  go_ret
  exact ⟨ret_bool HN.out, rfl⟩

theorem grown_trans {w w1 w2 : World} {r r1 : Option Nat} (h : w.grownBy w1 r) (h1 : w1.grownBy w2 r1) (hr : ∀ k, r1 = some k → r = some k ∨ w.heap.size ≤ k) : w.grownBy w2 r :=
  ⟨h1.os.trans h.os, h1.tape.trans h.tape, h1.output.trans h.output, Nat.le_trans h.size h1.size, fun k hk hne => (h1.block k (Nat.lt_of_lt_of_le hk h.size) (fun e => by
    rcases hr k e.symm with h2 | h2
    · exact hne h2.symm
    · omega)).trans (h.block k hk hne)⟩

theorem grown_of_below {w w' : World} (hb : Below w.heap.size w w') (r : Option Nat) : w.grownBy w' r := ⟨hb.os, hb.tape, hb.output, hb.size, fun k hk _ => hb.block k hk⟩

theorem TV.grown {w w' : World} {X : Nat → Prop} {v : Value} {t : Tm} {r : Option Nat} (h : TV w X v t) (hg : w.grownBy w' r) (hX : ∀ b, X b → some b ≠ r) : TV w' X v t := by
  have h1 : TV w (fun b => X b ∧ b < w.heap.size) v t := h.mono fun b h1 h2 => ⟨h1, h2⟩
  have h2 : TV w' (fun b => X b ∧ b < w.heap.size) v t := h1.kept fun b hx => hg.block b hx.2 (hX b hx.1)
  exact h2.mono fun b hx _ => hx.1

/-- What stays true of a row of texts while it is added to. -/
def NamesAt (w0 : World) (B : Nat) (q0 : Value) (acc : List ByteArray) (q : Value) (wr : World) : Prop :=
  wr.ownsRow B 9 1 q acc.length (acc.map Value.string) ∧ w0.grownBy wr q0.ownBlock ∧ (∀ k, q.ownBlock = some k → q0.ownBlock = some k ∨ w0.heap.size ≤ k)

theorem NamesAt.step {w0 w1 w2 : World} {B : Nat} {q0 q1 q2 : Value} {acc1 acc2 : List ByteArray} (h1 : NamesAt w0 B q0 acc1 q1 w1) (h2 : NamesAt w1 B q1 acc2 q2 w2) : NamesAt w0 B q0 acc2 q2 w2 := by
  refine ⟨h2.1, grown_trans h1.2.1 h2.2.1 h1.2.2, fun k hk => ?_⟩
  rcases h2.2.2 k hk with h | h
  · exact h1.2.2 k h
  · exact Or.inr (Nat.le_trans h1.2.1.size h)

theorem NamesAt.below {w0 w1 w2 : World} {B : Nat} {q0 q1 : Value} {acc1 : List ByteArray} (h1 : NamesAt w0 B q0 acc1 q1 w1) (hb : Below w1.heap.size w1 w2) : NamesAt w0 B q0 acc1 q1 w2 :=
  ⟨h1.1.kept (w' := w2) (row := none) ⟨hb.os, hb.tape, hb.output, hb.size, fun j hj _ => hb.block j hj⟩ (by rcases Option.eq_none_or_eq_some (Value.ownBlock q1) with h | ⟨x, h⟩; exact Or.inl h; exact Or.inr (by rw [h]; simp)),
   grown_trans h1.2.1 (grown_of_below hb q1.ownBlock) h1.2.2, h1.2.2⟩
end Go.Proofs.YtfkjejpfhflanaaGreatDoor

/- Texts read as terms: what both readers do. -/
namespace Go.Proofs.YtfkjejpfhflanaaGreatDoor
open Go.RowKit
set_option linter.unusedSimpArgs false
set_option linter.unusedVariables false

/-- Where the letters and digits from i on end. -/
def stopF (s : ByteArray) : Nat → Nat → Nat
  | 0, i => i
  | f + 1, i => if i < s.size ∧ alnB (byteAt s i) = true then stopF s f (i + 1) else i
def stopAt (s : ByteArray) (i : Nat) : Nat := stopF s (s.size - i) i

theorem stopF_ge (s : ByteArray) : ∀ f i, i ≤ stopF s f i
  | 0, i => Nat.le_refl _
  | f + 1, i => by
    unfold stopF; split
    · have := stopF_ge s f (i + 1); omega
    · exact Nat.le_refl _
theorem stopF_le (s : ByteArray) : ∀ f i, i ≤ s.size → stopF s f i ≤ s.size
  | 0, i, h => h
  | f + 1, i, h => by
    unfold stopF; split
    · rename_i hc; exact stopF_le s f (i + 1) hc.1
    · exact h
theorem stopAt_ge (s : ByteArray) (i : Nat) : i ≤ stopAt s i := stopF_ge s _ i
theorem stopAt_le (s : ByteArray) {i : Nat} (h : i ≤ s.size) : stopAt s i ≤ s.size := stopF_le s _ i h
theorem stopAt_go {s : ByteArray} {i : Nat} (h : i < s.size) (ha : alnB (byteAt s i) = true) : stopAt s i = stopAt s (i + 1) := by
  have e : s.size - i = (s.size - (i + 1)) + 1 := by omega
  unfold stopAt
  rw [e, stopF, if_pos ⟨h, ha⟩]
theorem stopAt_end {s : ByteArray} {i : Nat} (h : ¬ (i < s.size ∧ alnB (byteAt s i) = true)) : stopAt s i = i := by
  unfold stopAt
  cases hf : s.size - i with
  | zero => rfl
  | succ f => rw [stopF, if_neg h]

/-- What reading gives: an error (0: none), a term, where it ended, how many knots there were. -/
structure Rd where
  err : Int
  t : Tm
  pos : Nat
  k : Nat
def noRd (e : Int) : Rd := ⟨e, ⟨⟨#[]⟩, []⟩, 0, 0⟩

/-- A term from i on; or, behind a name and some terms below it, the next one from behind i on. -/
def rd (s : ByteArray) : Nat → Option (ByteArray × List Tm) → Nat → Nat → Rd
  | 0, _, _, _ => noRd 99
  | f + 1, none, i, k =>
    if stopAt s i = i then noRd (if i = s.size then 13 else 12)
    else if nameB (s.extract i (stopAt s i)) = false then noRd 1
    else if 200 < k + 1 then noRd 3
    else if stopAt s i < s.size ∧ byteAt s (stopAt s i) = 40 then
      if varB (s.extract i (stopAt s i)) = true then noRd 2 else rd s f (some (s.extract i (stopAt s i), [])) (stopAt s i) (k + 1)
    else ⟨0, ⟨s.extract i (stopAt s i), []⟩, stopAt s i, k + 1⟩
  | f + 1, some (nm, acc), i, k =>
    if (rd s f none (i + 1) k).err ≠ 0 then noRd (rd s f none (i + 1) k).err
    else if (rd s f none (i + 1) k).pos = s.size then noRd 13
    else if byteAt s (rd s f none (i + 1) k).pos = 41 then ⟨0, ⟨nm, acc ++ [(rd s f none (i + 1) k).t]⟩, (rd s f none (i + 1) k).pos + 1, (rd s f none (i + 1) k).k⟩
    else if byteAt s (rd s f none (i + 1) k).pos = 44 then rd s f (some (nm, acc ++ [(rd s f none (i + 1) k).t])) (rd s f none (i + 1) k).pos (rd s f none (i + 1) k).k
    else noRd 12

end Go.Proofs.YtfkjejpfhflanaaGreatDoor
