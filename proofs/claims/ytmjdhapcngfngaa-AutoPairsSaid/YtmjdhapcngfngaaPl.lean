/- The places of a term, and rows of lists of numbers. -/
import Derived.Test.YtmjdhapcngfngaaW17
import Derived.Test.YtmjdhapcngfngaaW7
import Derived.Deep.AppendSrc
namespace Go.Proofs.Ytmjdhapcngfngaa
open Go.RowKit
set_option linter.unusedSimpArgs false
set_option linter.unusedVariables false

/-- The places of a list of terms, counted from j on. -/
def plcL : Nat → List Tm → List (List Int)
  | _, [] => []
  | j, ⟨_, l⟩ :: r => ((([] : List Int) :: plcL 0 l).map fun p => (j : Int) :: p) ++ plcL (j + 1) r

/-- The places of a term. -/
def plcT (t : Tm) : List (List Int) := [] :: plcL 0 t.args

theorem plcL_cons (j : Nat) (t : Tm) (r : List Tm) : plcL j (t :: r) = ((plcT t).map fun p => (j : Int) :: p) ++ plcL (j + 1) r := by
  obtain ⟨s, l⟩ := t
  simp only [plcL, plcT]

theorem plcL_append (a b : List Tm) : ∀ j, plcL j (a ++ b) = plcL j a ++ plcL (j + a.length) b := by
  induction a with
  | nil => intro j; simp [plcL]
  | cons t r ih => intro j; rw [List.cons_append, plcL_cons, plcL_cons, ih]; simp [Nat.add_assoc, Nat.add_comm 1]

theorem plcL_take (l : List Tm) (k : Nat) (h : k < l.length) : plcL 0 (l.take (k + 1)) = plcL 0 (l.take k) ++ (plcT l[k]).map fun p => (k : Int) :: p := by
  rw [List.take_succ_eq_append_getElem h, plcL_append, plcL_cons]
  have : (l.take k).length = k := by rw [List.length_take]; omega
  simp [this, plcL]

theorem plcL_len (l : List Tm) : ∀ j, (plcL j l).length = sizeL l := by
  induction l using Tm.indL with
  | h0 => intro j; simp [plcL, sizeL]
  | h s l r ihl ihr => intro j; simp [plcL, sizeL, ihl, ihr]; omega

theorem plcT_len (t : Tm) : (plcT t).length = sizeL [t] := by
  obtain ⟨s, l⟩ := t
  simp [plcT, plcL_len, sizeL]; omega

/-- No place is longer than the term has knots. -/
theorem plc_deep (l : List Tm) : ∀ j, ∀ p ∈ plcL j l, p.length ≤ sizeL l := by
  induction l using Tm.indL with
  | h0 => intro j p hp; simp [plcL] at hp
  | h s l r ihl ihr =>
    intro j p hp
    simp only [plcL, List.mem_append, List.mem_map, List.mem_cons] at hp
    simp only [sizeL]
    rcases hp with ⟨p', h1, rfl⟩ | hp
    · rcases h1 with rfl | h1
      · simp; omega
      · have := ihl 0 p' h1; simp; omega
    · have := ihr _ p hp; omega

/-- These cells are these lists. -/
def RowP (w : World) (Z : Nat → Prop) : List (List Int) → List Value → Prop
  | [], xs => xs = []
  | z :: r, xs => ∃ u xs', xs = u :: xs' ∧ PV w Z u z ∧ RowP w Z r xs'

theorem RowP.len {w : World} {Z : Nat → Prop} : ∀ {l : List (List Int)} {xs : List Value}, RowP w Z l xs → xs.length = l.length
  | [], xs, h => by simp [RowP] at h; simp [h]
  | z :: l, xs, h => by obtain ⟨u, xs', rfl, _, h⟩ := h; simp [RowP.len h]
theorem RowP.append {w : World} {Z : Nat → Prop} : ∀ {l k : List (List Int)} {xs ys : List Value}, RowP w Z l xs → RowP w Z k ys → RowP w Z (l ++ k) (xs ++ ys)
  | [], k, xs, ys, h, h' => by simp [RowP] at h; subst h; simpa using h'
  | z :: l, k, xs, ys, h, h' => by obtain ⟨u, xs', rfl, hp, h⟩ := h; exact ⟨u, xs' ++ ys, rfl, hp, RowP.append h h'⟩
theorem RowP.imp {w w' : World} {Z Z' : Nat → Prop} (hs : ∀ u z, PV w Z u z → PV w' Z' u z) : ∀ {l : List (List Int)} {xs : List Value}, RowP w Z l xs → RowP w' Z' l xs
  | [], xs, h => h
  | z :: l, xs, h => by obtain ⟨u, xs', e, hp, h⟩ := h; exact ⟨u, xs', e, hs _ _ hp, RowP.imp hs h⟩
theorem RowP.get {w : World} {Z : Nat → Prop} : ∀ {l : List (List Int)} {xs : List Value}, RowP w Z l xs → ∀ i (h : i < l.length), ∃ u, xs[i]? = some u ∧ PV w Z u l[i]
  | [], xs, h, i, hi => by simp at hi
  | z :: l, xs, h, i, hi => by
    obtain ⟨u, xs', rfl, hp, h⟩ := h
    cases i with
    | zero => exact ⟨u, rfl, hp⟩
    | succ i => obtain ⟨u', h1, h2⟩ := RowP.get h i (by simpa using hi); exact ⟨u', by simpa using h1, h2⟩
theorem PV.one {w : World} {Z : Nat → Prop} {u : Value} {z : List Int} (h : PV w Z u z) : u.oneCell' = true := by obtain ⟨a, c, rfl, _⟩ := h; rfl

theorem Try.infoInt : (Try.prog.info? 3).map (fun i => (i.zero, i.size, i.bytes)) = some (some (.int .i64 0), 1, 8) := by kernel_rfl
theorem Try.infoInts : (Try.prog.info? 23).map (fun i => (i.zero, i.size, i.bytes)) = some (some (.slice none 0 0), 1, 24) := by kernel_rfl

/-- Out of a row that a call owns. -/
theorem pv_of_own {w : World} {N T : Nat} {v : Value} {l : List Int} (h : w.ownsRow N T 1 v l.length (l.map fun z => .int .i64 z)) : PV w (fun b => N ≤ b ∧ v.ownBlock = some b) v l := by
  have h' := h
  obtain ⟨_, h1⟩ := h
  rcases h1 with ⟨rfl, h0⟩ | ⟨g, cap, cur, hv, hg, hh, hnc, hcm, _⟩
  · have e : l = [] := List.length_eq_zero_iff.1 h0
    subst e
    exact ⟨none, 0, rfl, by simp, Or.inl rfl⟩
  · unfold maxLen at hcm
    refine ⟨some ⟨g, 0, none⟩, cap, hv, ⟨by omega, hnc⟩, ?_⟩
    by_cases h0 : l = []
    · exact Or.inl h0
    · have hp : 0 < l.length := List.length_pos_iff.2 h0
      obtain ⟨g2, cap2, hv2, _, _, hc⟩ := owned_val h' hp
      rw [hv] at hv2
      simp at hv2
      obtain ⟨rfl, rfl⟩ := hv2
      exact Or.inr ⟨g, 0, rfl, ⟨hg, by rw [hv]; rfl⟩, fun i hi => by rw [Nat.zero_add]; exact hc i _ (by simp [hi])⟩

/-- What a list yields to an append. -/
theorem pv_src {w : World} {Z : Nat → Prop} {u : Value} {z : List Int} (h : PV w Z u z) : Src Try.prog 1 23 u z.length (z.map fun x => .int .i64 x) w := by
  obtain ⟨a, c, rfl, _, h⟩ := h
  have one : ∀ v ∈ (z.map fun x => Value.int .i64 x), v.oneCell' = true := fun v hv => by obtain ⟨x, _, rfl⟩ := List.mem_map.1 hv; rfl
  rcases h with rfl | ⟨b, o, rfl, _, hc⟩
  · cases a with
    | none => simpa using Src.ofNil w Try.underlying23 c
    | some a => exact Src.ofSlice w Try.underlying23 a _ c _ (by simp) (by simp) one
  · refine Src.ofSlice w Try.underlying23 ⟨b, o, none⟩ _ c _ (by simp) (fun j v hj => ?_) one
    rw [List.getElem?_map] at hj
    cases hz : z[j]? with
    | none => rw [hz] at hj; cases hj
    | some x =>
      rw [hz] at hj
      simp at hj
      subst hj
      obtain ⟨hlt, rfl⟩ := List.getElem?_eq_some_iff.1 hz
      have := hc j hlt
      by_cases h0 : j = 0
      · subst h0; first | (simp [Addr.add]; done) | simpa [Addr.add] using this
      · first | (simp [Addr.add, h0]; done) | simpa [Addr.add, h0] using this
#print axioms pv_src
#print axioms pv_of_own
end Go.Proofs.Ytmjdhapcngfngaa
