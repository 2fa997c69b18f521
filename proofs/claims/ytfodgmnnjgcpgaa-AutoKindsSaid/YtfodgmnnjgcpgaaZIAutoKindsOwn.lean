/- Several texts in one. -/
import Derived.Test.YtfodgmnnjgcpgaaAv1
import Derived.Test.YtfodgmnnjgcpgaaAw1
/- Plain: how many kinds there are in a row does not hang on its order. -/
namespace Go.Proofs.Ytfodgmnnjgcpgaa
open Go.RowKit
set_option linter.unusedSimpArgs false
set_option linter.unusedVariables false
set_option maxRecDepth 8000

/-- Those that are alike none ahead of them, the last one ahead. -/
def repR {α : Type} (E : α → α → Bool) : List α → List α
  | [] => []
  | x :: r => if r.any (E x) then repR E r else x :: repR E r
/-- How many kinds there are. -/
def cntK {α : Type} (E : α → α → Bool) (l : List α) : Nat := (repR E l.reverse).length
theorem cntK_nil {α : Type} (E : α → α → Bool) : cntK E [] = 0 := rfl
theorem cntK_snoc {α : Type} (E : α → α → Bool) (l : List α) (x : α) : cntK E (l ++ [x]) = cntK E l + (if l.any (E x) then 0 else 1) := by
  unfold cntK
  rw [List.reverse_append]
  show (repR E (x :: l.reverse)).length = _
  rw [repR, List.any_reverse]
  cases l.any (E x) <;> simp
theorem repR_mem {α : Type} {E : α → α → Bool} : ∀ {l : List α} {x : α}, x ∈ repR E l → x ∈ l
  | [], x, h => by cases h
  | y :: r, x, h => by
    rw [repR] at h
    split at h
    · exact List.mem_cons_of_mem _ (repR_mem h)
    · rcases List.mem_cons.1 h with rfl | h
      · simp
      · exact List.mem_cons_of_mem _ (repR_mem h)
theorem repR_apart {α : Type} {E : α → α → Bool} : ∀ l : List α, (repR E l).Pairwise fun a b => E a b = false
  | [] => List.Pairwise.nil
  | y :: r => by
    rw [repR]
    split
    · exact repR_apart r
    · rename_i h
      refine List.Pairwise.cons (fun b hb => ?_) (repR_apart r)
      cases hE : E y b with
      | false => rfl
      | true => exact absurd (List.any_eq_true.2 ⟨b, repR_mem hb, hE⟩) h
/-- As one asks of `alike`. -/
structure Eqv {α : Type} (E : α → α → Bool) (l : List α) : Prop where
  refl : ∀ x ∈ l, E x x = true
  symm : ∀ x ∈ l, ∀ y ∈ l, E x y = true → E y x = true
  trans : ∀ x ∈ l, ∀ y ∈ l, ∀ z ∈ l, E x y = true → E y z = true → E x z = true
theorem Eqv.sub {α : Type} {E : α → α → Bool} {l k : List α} (h : Eqv E l) (hs : ∀ x ∈ k, x ∈ l) : Eqv E k :=
  ⟨fun x hx => h.refl x (hs x hx), fun x hx y hy => h.symm x (hs x hx) y (hs y hy), fun x hx y hy z hz => h.trans x (hs x hx) y (hs y hy) z (hs z hz)⟩
theorem repR_of {α : Type} {E : α → α → Bool} : ∀ {l : List α}, Eqv E l → ∀ x ∈ l, ∃ y ∈ repR E l, E x y = true
  | [], _, x, h => by cases h
  | y :: r, he, x, h => by
    have ih := fun (z : α) (hz : z ∈ r) => repR_of (he.sub fun w hw => List.mem_cons_of_mem y hw) z hz
    rw [repR]
    split
    · rename_i ha
      rcases List.mem_cons.1 h with rfl | h
      · obtain ⟨z, hz, h1⟩ := List.any_eq_true.1 ha
        obtain ⟨u, hu, h2⟩ := ih z hz
        exact ⟨u, hu, he.trans x (by simp) z (by simp [hz]) u (by simp [repR_mem hu]) h1 h2⟩
      · exact ih x h
    · rcases List.mem_cons.1 h with rfl | h
      · exact ⟨x, by simp, he.refl x (by simp)⟩
      · obtain ⟨u, hu, h2⟩ := ih x h
        exact ⟨u, by simp [hu], h2⟩
theorem inj_len {α β : Type} {Q : α → β → Prop} : ∀ {l1 : List α} {l2 : List β}, l1.Pairwise (fun a a' => ∀ b, Q a b → Q a' b → False) → (∀ a ∈ l1, ∃ b ∈ l2, Q a b) → l1.length ≤ l2.length
  | [], l2, _, _ => Nat.zero_le _
  | a :: r, l2, hp, h => by
    obtain ⟨b, hb, hq⟩ := h a (by simp)
    obtain ⟨s, t, rfl⟩ := List.append_of_mem hb
    rw [List.pairwise_cons] at hp
    have := inj_len (l1 := r) (l2 := s ++ t) hp.2 fun a' ha' => by
      obtain ⟨b', hb', hq'⟩ := h a' (by simp [ha'])
      refine ⟨b', ?_, hq'⟩
      rcases List.mem_append.1 hb' with g | g
      · exact List.mem_append.2 (Or.inl g)
      · rcases List.mem_cons.1 g with e | g
        · subst e
          exact (hp.1 a' ha' b' hq hq').elim
        · exact List.mem_append.2 (Or.inr g)
    simp at this ⊢
    omega
theorem kinds_le {α β : Type} {E : α → α → Bool} {F : β → β → Bool} {l : List α} {k : List β} (hE : Eqv E l) (hF : Eqv F k) (R : α → β → Prop) (hl : ∀ a ∈ l, ∃ b ∈ k, R a b) (hR : ∀ a ∈ l, ∀ a' ∈ l, ∀ b ∈ k, ∀ b' ∈ k, R a b → R a' b' → F b b' = true → E a a' = true) : cntK E l ≤ cntK F k := by
  unfold cntK
  have hE' : Eqv E l.reverse := hE.sub fun x hx => by simpa using hx
  have hF' : Eqv F k.reverse := hF.sub fun x hx => by simpa using hx
  refine inj_len (Q := fun a b => b ∈ k ∧ ∃ b' ∈ k, R a b' ∧ F b' b = true) ?_ ?_
  · have hap := repR_apart (E := E) l.reverse
    have hm : ∀ a ∈ repR E l.reverse, a ∈ l := fun a ha => by simpa using repR_mem ha
    refine List.Pairwise.imp_of_mem (R := fun a b => E a b = false) ?_ hap
    intro a a' ha ha' he b h1 h2
    obtain ⟨hb, b1, hb1, r1, f1⟩ := h1
    obtain ⟨_, b2, hb2, r2, f2⟩ := h2
    have f3 := hF.trans b1 hb1 b hb b2 hb2 f1 (hF.symm b2 hb2 b hb f2)
    rw [hR a (hm a ha) a' (hm a' ha') b1 hb1 b2 hb2 r1 r2 f3] at he
    cases he
  · intro a ha
    have ha' : a ∈ l := by simpa using repR_mem ha
    obtain ⟨b', hb', hr⟩ := hl a ha'
    obtain ⟨b, hb, hf⟩ := repR_of hF' b' (by simpa using hb')
    exact ⟨b, hb, by simpa using repR_mem hb, b', hb', hr, hf⟩
/-- Rows of the same kinds have as many. -/
theorem kinds_eq {α β : Type} {E : α → α → Bool} {F : β → β → Bool} {l : List α} {k : List β} (hE : Eqv E l) (hF : Eqv F k) (R : α → β → Prop) (hl : ∀ a ∈ l, ∃ b ∈ k, R a b) (hk : ∀ b ∈ k, ∃ a ∈ l, R a b) (hR : ∀ a ∈ l, ∀ a' ∈ l, ∀ b ∈ k, ∀ b' ∈ k, R a b → R a' b' → (E a a' = true ↔ F b b' = true)) : cntK E l = cntK F k :=
  Nat.le_antisymm (kinds_le hE hF R hl fun a ha a' ha' b hb b' hb' r r' => (hR a ha a' ha' b hb b' hb' r r').2)
    (kinds_le hF hE (fun b a => R a b) hk fun b hb b' hb' a ha a' ha' r r' => (hR a ha a' ha' b hb b' hb' r r').1)
end Go.Proofs.Ytfodgmnnjgcpgaa

/- Plain: which sets of states are told apart; automata that accept the same have as many kinds. -/
namespace Go.Proofs.Ytfodgmnnjgcpgaa
open Go.RowKit
set_option linter.unusedSimpArgs false
set_option linter.unusedVariables false
set_option maxRecDepth 8000

/-- Where a move's symbol goes. -/
def endM (ms : List Mv) (m : Mv) (xs : List Nat) : Nat := endN (grp ms (m.name, m.frm.length)) (xs.map bitsN)
/-- Is it a last one? -/
def inL (la x : Nat) : Bool := decide (x &&& la ≠ 0)
/-- Told apart. -/
inductive ApS (ms : List Mv) (la : Nat) (all : List Nat) : Nat → Nat → Prop
  | last {s r : Nat} (hs : s ∈ all) (hr : r ∈ all) (h : inL la s ≠ inL la r) : ApS ms la all s r
  | step {a s : Nat} (m : Mv) (xs : List Nat) (i : Nat) (hm : m ∈ ms) (hl : xs.length = m.frm.length) (hx : ∀ x ∈ xs, x ∈ all) (hi : xs[i]? = some a) (hs : s ∈ all) (h : ApS ms la all (endM ms m xs) (endM ms m (xs.set i s))) : ApS ms la all a s
theorem set_in {all xs : List Nat} {i s : Nat} (hx : ∀ x ∈ xs, x ∈ all) (hs : s ∈ all) : ∀ x ∈ xs.set i s, x ∈ all := fun x hxx => by
  rcases List.mem_or_eq_of_mem_set hxx with h | h
  · exact hx x h
  · rw [h]; exact hs
theorem ApS.irrefl {ms : List Mv} {la : Nat} {all : List Nat} {s r : Nat} (h : ApS ms la all s r) : s ≠ r := by
  induction h with
  | last hs hr h => intro e; subst e; exact h rfl
  | step m xs i hm hl hx hi hs h0 ih =>
    rintro rfl
    apply ih
    obtain ⟨h1, h2⟩ := List.getElem?_eq_some_iff.1 hi
    rw [← h2, List.set_getElem_self]
theorem ApS.symm {ms : List Mv} {la : Nat} {all : List Nat} {s r : Nat} (h : ApS ms la all s r) : ApS ms la all r s := by
  induction h with
  | last hs hr h => exact .last hr hs h.symm
  | step m xs i hm hl hx hi hs h0 ih =>
    rename_i a s
    obtain ⟨h1, h2⟩ := List.getElem?_eq_some_iff.1 hi
    refine .step m (xs.set i s) i hm (by simpa using hl) (set_in hx hs) (by simp [h1]) (hx a (List.mem_of_getElem? hi)) ?_
    have e : (xs.set i s).set i a = xs := by rw [List.set_set, ← h2, List.set_getElem_self]
    rw [e]
    exact ih
theorem ApS.either {ms : List Mv} {la : Nat} {all : List Nat} (hcl : ∀ m ∈ ms, ∀ xs : List Nat, xs.length = m.frm.length → (∀ x ∈ xs, x ∈ all) → endM ms m xs ∈ all) {s r : Nat} (h : ApS ms la all s r) : ∀ u ∈ all, ApS ms la all s u ∨ ApS ms la all u r := by
  induction h with
  | last hs hr h =>
    rename_i s r
    intro u hu
    by_cases e : inL la s = inL la u
    · exact Or.inr (.last hu hr (by rw [← e]; exact h))
    · exact Or.inl (.last hs hu e)
  | step m xs i hm hl hx hi hs h0 ih =>
    rename_i a s
    intro u hu
    obtain ⟨h1, h2⟩ := List.getElem?_eq_some_iff.1 hi
    rcases ih (endM ms m (xs.set i u)) (hcl m hm _ (by simpa using hl) (set_in hx hu)) with g | g
    · exact Or.inl (.step m xs i hm hl hx hi hu g)
    · refine Or.inr (.step m (xs.set i u) i hm (by simpa using hl) (set_in hx hu) (by simp [h1]) hs ?_)
      rw [List.set_set]
      exact g
open Classical in
/-- Alike: not told apart. -/
noncomputable def alkS (ms : List Mv) (la : Nat) (all : List Nat) (s r : Nat) : Bool := !decide (ApS ms la all s r)
theorem alkS_iff {ms : List Mv} {la : Nat} {all : List Nat} {s r : Nat} : alkS ms la all s r = true ↔ ¬ ApS ms la all s r := by unfold alkS; simp
theorem alkS_eqv {ms : List Mv} {n la : Nat} {all : List Nat} (h : EndsOk ms n all) : Eqv (alkS ms la all) all :=
  ⟨fun x _ => alkS_iff.2 fun g => g.irrefl rfl, fun x _ y _ g => alkS_iff.2 fun k => alkS_iff.1 g k.symm, fun x hx y hy z hz g1 g2 => alkS_iff.2 fun k => by
    rcases k.either h.cl y hy with k | k
    · exact alkS_iff.1 g1 k
    · exact alkS_iff.1 g2 k⟩
theorem sym_sub {ms ks : List Mv} (hsy : ∀ m ∈ ms, ∃ m' ∈ ks, m'.name = m.name ∧ m'.frm.length = m.frm.length) {t : Tm} (h : SymT ms t) : SymT ks t := by
  induction h with
  | mk m hm e1 e2 h0 ih =>
    obtain ⟨m', hm', g1, g2⟩ := hsy m hm
    exact .mk m' hm' (by rw [g1, e1]) (by omega) ih
end Go.Proofs.Ytfodgmnnjgcpgaa
