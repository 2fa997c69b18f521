/- Several texts in one. -/
import Derived.Test.YtdmaijmglblccaaGreatDoorZClosureMadeOwn
import Derived.Lib.ItoaNum
import Derived.Laws.IdiomCopy
import Derived.Laws.IdiomStrings
import Derived.Lib.AppendStr
import Derived.Lib.UnsafeStr
import Derived.Below
import Derived.Deep.RegionHeld
import Derived.Test.YtdmaijmglblccaaGreatDoorShelf
import Derived.Laws.OwnMore
import Derived.Lib.AppendIntMem
import Derived.Lib.ItoaWalk
import Derived.Lib.Slices
import Derived.BigGuard
import Derived.Deep.RegionHeld3
import Derived.Deep.AppendSrc
import Derived.Deep.DeepCutAuto
/- Texts read as terms: what both readers do. -/
namespace Go.Proofs.YtdmaijmglblccaaGreatDoor
open Go.RowKit
set_option linter.unusedSimpArgs false
set_option linter.unusedVariables false

/-- What reading gives: an error (0: none), a term, where it ended, how many knots there were. -/
structure Rd where
  err : Int
  t : Tm
  pos : Nat
  k : Nat
end Go.Proofs.YtdmaijmglblccaaGreatDoor

/- What was written is read again. -/
namespace Go.Proofs.YtdmaijmglblccaaGreatDoor
open Go.RowKit
set_option linter.unusedSimpArgs false
set_option linter.unusedVariables false

theorem byteAt_list (s : ByteArray) (j : Nat) (c : UInt8) (h : s.data.toList[j]? = some c) : byteAt s j = (c.toNat : Int) := by
  have hj : j < s.data.toList.length := by
    rcases Nat.lt_or_ge j s.data.toList.length with h' | h'
    · exact h'
    · rw [List.getElem?_eq_none h'] at h; cases h
  have hs : j < s.size := by simpa using hj
  unfold byteAt
  rw [dif_pos hs]
  have : s.data.toList[j]? = some s[j] := by
    rw [List.getElem?_eq_getElem hj]; rfl
  rw [this] at h
  cases h
  rfl

theorem size_list (s : ByteArray) : s.size = s.data.toList.length := by simp

/-- The letters of a name are letters or digits. -/
theorem name_aln {nm : ByteArray} (h : nameB nm = true) : ∀ c ∈ nm.data.toList, alnB (c.toNat : Int) = true := by
  intro c hc
  obtain ⟨j, hj, hjc⟩ := List.getElem_of_mem hc
  have h2 : alnTo nm nm.size = true := by
    unfold nameB at h
    simp only [Bool.and_eq_true] at h
    exact h.2
  unfold alnTo at h2
  rw [List.all_eq_true] at h2
  have h3 := h2 j (by rw [List.mem_range, size_list]; exact hj)
  rw [byteAt_list nm j c (by rw [List.getElem?_eq_getElem hj, hjc])] at h3
  exact h3
/-- What may stand behind a term. -/
def Behind (post : List UInt8) : Prop := post = [] ∨ ∃ c r, post = c :: r ∧ (c = 41 ∨ c = 44)

end Go.Proofs.YtdmaijmglblccaaGreatDoor

/- No two terms have one text, nor two pairs of terms, with a sign between them: plain. -/
namespace Go.Proofs.YtdmaijmglblccaaGreatDoor
open Go.RowKit
set_option linter.unusedSimpArgs false
set_option linter.unusedVariables false

/-- What may stand behind a term. -/
def Beh (x : List UInt8) : Prop := x = [] ∨ ∃ c r, x = c :: r ∧ (c = 41 ∨ c = 44 ∨ c = 61)
/-- What ends a name. -/
def Ends (x : List UInt8) : Prop := x = [] ∨ ∃ c r, x = c :: r ∧ alnB (c.toNat : Int) = false
theorem Beh.ends {x : List UInt8} (h : Beh x) : Ends x := by
  rcases h with h | ⟨c, r, e, h⟩
  · exact Or.inl h
  · refine Or.inr ⟨c, r, e, ?_⟩
    rcases h with rfl | rfl | rfl <;> decide
theorem name_split : ∀ (n m : List UInt8) {x y : List UInt8}, (∀ c ∈ n, alnB (c.toNat : Int) = true) → (∀ c ∈ m, alnB (c.toNat : Int) = true) → Ends x → Ends y → n ++ x = m ++ y → n = m ∧ x = y
  | [], [], x, y, _, _, _, _, h => ⟨rfl, by simpa using h⟩
  | [], c :: m, x, y, _, hm, hx, _, h => by
    exfalso
    have h : x = c :: (m ++ y) := by simpa using h
    have h1 := hm c (by simp)
    rcases hx with hx | ⟨d, r, e, h2⟩
    · rw [hx] at h; cases h
    · rw [e] at h
      injection h with h3 h4
      rw [← h3, h2] at h1
      cases h1
  | c :: n, [], x, y, hn, _, _, hy, h => by
    exfalso
    have h : c :: (n ++ x) = y := by simpa using h
    have h1 := hn c (by simp)
    rcases hy with hy | ⟨d, r, e, h2⟩
    · rw [hy] at h; cases h
    · rw [e] at h
      injection h with h3 h4
      rw [h3, h2] at h1
      cases h1
  | c :: n, d :: m, x, y, hn, hm, hx, hy, h => by
    have h : c :: (n ++ x) = d :: (m ++ y) := by simpa using h
    injection h with h1 h2
    obtain ⟨e1, e2⟩ := name_split n m (fun z hz => hn z (by simp [hz])) (fun z hz => hm z (by simp [hz])) hx hy h2
    exact ⟨by rw [h1, e1], e2⟩
theorem errL_parts0 {s : ByteArray} {l : List Tm} (h : errL [(⟨s, l⟩ : Tm)] = 0) : errL l = 0 := by
  simp only [errL] at h
  repeat' split at h
  all_goals first | (cases h; done) | assumption | simp_all
theorem errL_name0 {s : ByteArray} {l : List Tm} (h : errL [(⟨s, l⟩ : Tm)] = 0) : nameB s = true := by
  simp only [errL] at h
  repeat' split at h
  all_goals first | (cases h; done) | assumption | simp_all
def OneT (t : Tm) : Prop := ∀ (u : Tm) (x y : List UInt8), errL [t] = 0 → errL [u] = 0 → Beh x → Beh y → txtL [t] ++ x = txtL [u] ++ y → t = u ∧ x = y
theorem oneL : ∀ (l : List Tm), (∀ t ∈ l, OneT t) → ∀ (k : List Tm) (x y : List UInt8), l ≠ [] → k ≠ [] → errL l = 0 → errL k = 0 → txtL l ++ 41 :: x = txtL k ++ 41 :: y → l = k ∧ x = y
  | [], _, k, x, y, h, _, _, _, _ => absurd rfl h
  | t :: r, hT, [], x, y, _, h, _, _, _ => absurd rfl h
  | t :: r, hT, u :: q, x, y, _, _, he, hf, hh => by
    have e1 : errL [t] = 0 ∧ errL r = 0 := by
      rw [errL_cons] at he
      split at he
      · rename_i h; exact ⟨h, he⟩
      · rename_i h; exact absurd he h
    have e2 : errL [u] = 0 ∧ errL q = 0 := by
      rw [errL_cons] at hf
      split at hf
      · rename_i h; exact ⟨h, hf⟩
      · rename_i h; exact absurd hf h
    have T := hT t (by simp)
    by_cases hr : r = []
    · subst hr
      by_cases hq : q = []
      · subst hq
        obtain ⟨h1, h2⟩ := T u _ _ e1.1 e2.1 (Or.inr ⟨41, x, rfl, by simp⟩) (Or.inr ⟨41, y, rfl, by simp⟩) hh
        injection h2 with _ h2
        exact ⟨by rw [h1], h2⟩
      · rw [txtL_cons u q hq, List.append_assoc, List.cons_append] at hh
        obtain ⟨_, h2⟩ := T u _ _ e1.1 e2.1 (Or.inr ⟨41, x, rfl, by simp⟩) (Or.inr ⟨44, _, rfl, by simp⟩) hh
        injection h2 with h2 _
        cases h2
    · rw [txtL_cons t r hr, List.append_assoc, List.cons_append] at hh
      by_cases hq : q = []
      · subst hq
        obtain ⟨_, h2⟩ := T u _ _ e1.1 e2.1 (Or.inr ⟨44, _, rfl, by simp⟩) (Or.inr ⟨41, y, rfl, by simp⟩) hh
        injection h2 with h2 _
        cases h2
      · rw [txtL_cons u q hq, List.append_assoc, List.cons_append] at hh
        obtain ⟨h1, h2⟩ := T u _ _ e1.1 e2.1 (Or.inr ⟨44, _, rfl, by simp⟩) (Or.inr ⟨44, _, rfl, by simp⟩) hh
        injection h2 with _ h2
        obtain ⟨h3, h4⟩ := oneL r (fun t ht => hT t (by simp [ht])) q x y hr hq e1.2 e2.2 h2
        exact ⟨by rw [h1, h3], h4⟩
/-- No two terms have one text. -/
theorem oneT (t : Tm) : OneT t := by
  induction t using Tm.ind with
  | h s l ih =>
    rintro ⟨s', k⟩ x y he hf hx hy hh
    have nm : nameB s = true := errL_name0 he
    have nm' : nameB s' = true := errL_name0 hf
    rw [txtL_one, txtL_one, List.append_assoc, List.append_assoc] at hh
    have ends : ∀ (l : List Tm) (x : List UInt8), Beh x → Ends ((if l.isEmpty = true then [] else 40 :: (txtL l ++ [41])) ++ x) := fun l x hx => by
      by_cases hl : l.isEmpty = true
      · rw [if_pos hl]; exact hx.ends
      · rw [if_neg hl]; exact Or.inr ⟨40, _, rfl, by decide⟩
    obtain ⟨h1, h2⟩ := name_split _ _ (name_aln nm) (name_aln nm') (ends l x hx) (ends k y hy) hh
    have hs : s = s' := by
      obtain ⟨⟨a⟩⟩ := s
      obtain ⟨⟨b⟩⟩ := s'
      have : a = b := h1
      rw [this]
    have no40 : ∀ {x z : List UInt8}, Beh x → x ≠ 40 :: z := fun {x z} hx h => by
      rcases hx with hx | ⟨c, r, e, hc⟩
      · rw [hx] at h; cases h
      · rw [e] at h
        injection h with h _
        rw [h] at hc
        revert hc
        decide
    have e1 : errL l = 0 := (errL_parts0 he)
    have e2 : errL k = 0 := (errL_parts0 hf)
    cases l with
    | nil =>
      cases k with
      | nil => exact ⟨by rw [hs], by simpa using h2⟩
      | cons u k => exact absurd (by simpa using h2) (no40 (z := txtL (u :: k) ++ 41 :: y) hx)
    | cons t l =>
      cases k with
      | nil => exact absurd (by simpa using h2.symm) (no40 (z := txtL (t :: l) ++ 41 :: x) hy)
      | cons u k =>
        have h3 : txtL (t :: l) ++ 41 :: x = txtL (u :: k) ++ 41 :: y := by simpa using h2
        obtain ⟨h4, h5⟩ := oneL (t :: l) ih (u :: k) x y (by simp) (by simp) e1 e2 h3
        exact ⟨by rw [hs, h4], h5⟩
theorem txt_inj {t u : Tm} (ht : errL [t] = 0) (hu : errL [u] = 0) (h : txtL [t] = txtL [u]) : t = u := (oneT t u [] [] ht hu (Or.inl rfl) (Or.inl rfl) (by rw [h])).1
end Go.Proofs.YtdmaijmglblccaaGreatDoor

/- Pairs of terms in memory; what is wrong with them. -/
namespace Go.Proofs.YtdmaijmglblccaaGreatDoor
open Go.RowKit
set_option linter.unusedSimpArgs false
set_option linter.unusedVariables false

/-- Two terms. -/
structure Pr where
  l : Tm
  r : Tm

/-- A list of pairs in memory. -/
def QV (w : World) (X : Nat → Prop) (v : Value) (l : List Pr) : Prop :=
  ∃ a c, v = .slice a l.length c ∧ (l.length ≤ 9223372036854775807 ∧ l.length ≤ c) ∧ (l = [] ∨ ∃ b o, a = some ⟨b, o, none⟩ ∧ X b ∧ ∀ i (h : i < l.length), ∃ a1 c1 a2 c2, w.cell? ⟨b, o + i * 4, none⟩ = some (.string l[i].l.name) ∧ w.cell? ⟨b, o + i * 4 + 1, none⟩ = some (.slice a1 l[i].l.args.length c1) ∧ w.cell? ⟨b, o + i * 4 + 2, none⟩ = some (.string l[i].r.name) ∧ w.cell? ⟨b, o + i * 4 + 3, none⟩ = some (.slice a2 l[i].r.args.length c2) ∧ Sl w X a1 l[i].l.args ∧ Sl w X a2 l[i].r.args)

theorem QV.kept {w w' : World} {X : Nat → Prop} {v : Value} {l : List Pr} (h : QV w X v l) (hk : ∀ b, X b → w'.heap[b]? = w.heap[b]?) : QV w' X v l := by
  obtain ⟨a, c, e, hl, h⟩ := h
  refine ⟨a, c, e, hl, ?_⟩
  rcases h with h | ⟨b, o, ea, hX, h⟩
  · exact Or.inl h
  · refine Or.inr ⟨b, o, ea, hX, fun i hi => ?_⟩
    obtain ⟨a1, c1, a2, c2, h1, h2, h3, h4, h5, h6⟩ := h i hi
    have hb := hk b hX
    exact ⟨a1, c1, a2, c2, by simpa [World.cell?, hb] using h1, by simpa [World.cell?, hb] using h2, by simpa [World.cell?, hb] using h3, by simpa [World.cell?, hb] using h4, h5.kept hk, h6.kept hk⟩
theorem QV.mono {w : World} {X Y : Nat → Prop} {v : Value} {l : List Pr} (h : QV w X v l) (hk : ∀ b, X b → b < w.heap.size → Y b) : QV w Y v l := by
  obtain ⟨a, c, e, hl, h⟩ := h
  refine ⟨a, c, e, hl, ?_⟩
  rcases h with h | ⟨b, o, ea, hX, h⟩
  · exact Or.inl h
  · by_cases h0 : l = []
    · exact Or.inl h0
    · have hp : 0 < l.length := List.length_pos_iff.2 h0
      obtain ⟨_, _, _, _, g, _⟩ := h 0 hp
      refine Or.inr ⟨b, o, ea, hk b hX (cell_lt g), fun i hi => ?_⟩
      obtain ⟨a1, c1, a2, c2, h1, h2, h3, h4, h5, h6⟩ := h i hi
      exact ⟨a1, c1, a2, c2, h1, h2, h3, h4, h5.mono hk, h6.mono hk⟩
theorem QV.later {w w' : World} {X : Nat → Prop} {v : Value} {l : List Pr} (h : QV w X v l) (hb : Below w.heap.size w w') : QV w' X v l :=
  ((h.mono (Y := fun b => X b ∧ b < w.heap.size) fun b h1 h2 => ⟨h1, h2⟩).kept fun b hx => hb.block b hx.2).mono fun b hx _ => hx.1
theorem QV.alloc {w : World} {X : Nat → Prop} {v : Value} {l : List Pr} (h : QV w X v l) (o : Obj) : QV (w.alloc o) X v l := h.later ((Below.refl _ _).alloc (Nat.le_refl _) o)
theorem QV.get {w : World} {X : Nat → Prop} {a : Option Addr} {n c : Nat} {l : List Pr} (h : QV w X (.slice a n c) l) (i : Nat) (hi : i < l.length) :
    ∃ b o a1 c1 a2 c2, a = some ⟨b, o, none⟩ ∧ w.cell? ⟨b, o + i * 4, none⟩ = some (.string l[i].l.name) ∧ w.cell? ⟨b, o + i * 4 + 1, none⟩ = some (.slice a1 l[i].l.args.length c1) ∧ w.cell? ⟨b, o + i * 4 + 2, none⟩ = some (.string l[i].r.name) ∧ w.cell? ⟨b, o + i * 4 + 3, none⟩ = some (.slice a2 l[i].r.args.length c2) ∧ Sl w X a1 l[i].l.args ∧ Sl w X a2 l[i].r.args := by
  obtain ⟨a2, c2, e, hl, h⟩ := h
  simp at e
  obtain ⟨rfl, rfl, rfl⟩ := e
  rcases h with h | ⟨b, o, ea, hX, h⟩
  · subst h; simp at hi
  · obtain ⟨a1, c1, a2, c2, h1, h2, h3, h4, h5, h6⟩ := h i hi
    exact ⟨b, o, a1, c1, a2, c2, ea, h1, h2, h3, h4, h5, h6⟩

/-- What is wrong with the first that is wrong. -/
def pmT (ls : List Pr) : Nat → Int
  | 0 => 0
  | k + 1 => if pmT ls k = 0 then (match ls[k]? with | some p => twoE p.l p.r | none => 0) else pmT ls k
def pairsE (ls : List Pr) : Int := if 40 < ls.length then 3 else pmT ls ls.length
theorem pmT_stays {ls : List Pr} {k : Nat} (h : pmT ls k ≠ 0) : ∀ n, k ≤ n → pmT ls n = pmT ls k
  | 0, hn => by
    have : k = 0 := by omega
    subst this; rfl
  | n + 1, hn => by
    by_cases e : k = n + 1
    · subst e; rfl
    · have ih := pmT_stays h n (by omega)
      rw [pmT, if_neg (by rw [ih]; exact h)]
      exact ih
theorem pmT_next {ls : List Pr} {k : Nat} (hk : k < ls.length) (h0 : pmT ls k = 0) : pmT ls (k + 1) = twoE ls[k].l ls[k].r := by rw [pmT, if_pos h0, List.getElem?_eq_getElem hk]
theorem pmT_err {ls : List Pr} {k : Nat} (hk : k < ls.length) (h40 : ¬ 40 < ls.length) (h0 : pmT ls k = 0) (hne : twoE ls[k].l ls[k].r ≠ 0) : pairsE ls = twoE ls[k].l ls[k].r := by
  unfold pairsE
  rw [if_neg h40]
  have h1 := pmT_next hk h0
  rw [← h1]
  exact pmT_stays (by rw [h1]; exact hne) _ (by omega)
theorem pairsE_len {ls : List Pr} (h : pairsE ls = 0) : ls.length ≤ 40 := by
  unfold pairsE at h
  split at h
  · cases h
  · omega
theorem pairsE_all {ls : List Pr} (h : pairsE ls = 0) : ∀ p ∈ ls, mayE p.l = 0 ∧ mayE p.r = 0 := by
  intro p hp
  obtain ⟨k, hk, rfl⟩ := List.getElem_of_mem hp
  have h40 := pairsE_len h
  unfold pairsE at h
  rw [if_neg (by omega)] at h
  have h0 : ∀ n, n ≤ ls.length → pmT ls n = 0 := fun n hn => by
    by_cases e : pmT ls n = 0
    · exact e
    · have := pmT_stays e _ hn
      rw [this] at h
      exact absurd h e
  have h1 := pmT_next hk (h0 k (by omega))
  rw [h0 (k + 1) (by omega)] at h1
  have h2 := h1.symm
  unfold twoE at h2
  by_cases e : mayE ls[k].l = 0
  · rw [if_pos e] at h2; exact ⟨e, h2⟩
  · rw [if_neg e] at h2; exact absurd h2 e
end Go.Proofs.YtdmaijmglblccaaGreatDoor

/- Plain: what equations without variables make the same, among the terms that are there. -/
namespace Go.Proofs.YtdmaijmglblccaaGreatDoor
open Go.RowKit
set_option linter.unusedSimpArgs false
set_option linter.unusedVariables false
set_option maxRecDepth 8000

/-- What a number's digits are worth. -/
def decK (l : List UInt8) : Nat := l.foldl (fun a b => 10 * a + (b.toNat - 48)) 0
theorem decK_snoc (l : List UInt8) (b : UInt8) : decK (l ++ [b]) = 10 * decK l + (b.toNat - 48) := by simp [decK]
theorem digK {n : Nat} (h : n < 10) : (UInt8.ofNat (48 + n)).toNat - 48 = n := by
  rw [UInt8.toNat_ofNat']
  omega
theorem decK_dec (n : Nat) : decK (Lib.decDigits n) = n := by
  induction n using Nat.strongRecOn with
  | ind n ih =>
    by_cases h : n < 10
    · rw [Lib.decDigits, dif_pos h]
      have := decK_snoc [] (UInt8.ofNat (48 + n))
      simp only [List.nil_append] at this
      rw [this, digK h]
      simp [decK]
    · have e : Lib.decDigits n = Lib.decDigits (n / 10) ++ [UInt8.ofNat (48 + n % 10)] := by
        conv => lhs; rw [Lib.decDigits, dif_neg h]
      rw [e, decK_snoc, ih (n / 10) (by omega), digK (by omega)]
      omega
theorem aln_dig {n : Nat} (h : n < 10) : alnB ((UInt8.ofNat (48 + n)).toNat : Int) = true := by
  have : ∀ k : Fin 10, alnB ((UInt8.ofNat (48 + k.val)).toNat : Int) = true := by decide
  exact this ⟨n, h⟩
theorem aln_dec (n : Nat) : ∀ c ∈ Lib.decDigits n, alnB (c.toNat : Int) = true := by
  induction n using Nat.strongRecOn with
  | ind n ih =>
    by_cases h : n < 10
    · rw [Lib.decDigits, dif_pos h]
      intro c hc
      rw [List.mem_singleton.1 hc]
      exact aln_dig h
    · have e : Lib.decDigits n = Lib.decDigits (n / 10) ++ [UInt8.ofNat (48 + n % 10)] := by
        conv => lhs; rw [Lib.decDigits, dif_neg h]
      rw [e]
      intro c hc
      rcases List.mem_append.1 hc with hc | hc
      · exact ih (n / 10) (by omega) c hc
      · rw [List.mem_singleton.1 hc]
        exact aln_dig (by omega)
/-- Numbers, a blank ahead of each. -/
def sgW : List Nat → List UInt8
  | [] => []
  | c :: r => 32 :: (Lib.decDigits c ++ sgW r)
theorem sgW_app : ∀ a b : List Nat, sgW (a ++ b) = sgW a ++ sgW b
  | [], b => rfl
  | c :: r, b => by rw [List.cons_append, sgW, sgW, sgW_app r b]; simp
/-- A term's sign: its symbol, and numbers for those right below it. -/
def sgn (n : ByteArray) (cs : List Nat) : ByteArray := ⟨(n.data.toList ++ sgW cs).toArray⟩
theorem sgW_ends : ∀ cs : List Nat, Ends (sgW cs)
  | [] => Or.inl rfl
  | c :: r => Or.inr ⟨32, _, rfl, by decide⟩
theorem sgW_inj : ∀ a b : List Nat, sgW a = sgW b → a = b
  | [], [], _ => rfl
  | [], c :: r, h => by cases h
  | c :: r, [], h => by cases h
  | c :: r, d :: q, h => by
    rw [sgW, sgW] at h
    injection h with _ h
    obtain ⟨h1, h2⟩ := name_split _ _ (aln_dec c) (aln_dec d) (sgW_ends r) (sgW_ends q) h
    have h3 : c = d := by rw [← decK_dec c, h1, decK_dec]
    rw [h3, sgW_inj r q h2]
theorem sgn_inj {n m : ByteArray} {a b : List Nat} (hn : nameB n = true) (hm : nameB m = true) (h : sgn n a = sgn m b) : n = m ∧ a = b := by
  unfold sgn at h
  have h1 := congrArg (fun x : ByteArray => x.data.toList) h
  simp only [List.toList_toArray] at h1
  obtain ⟨h2, h3⟩ := name_split _ _ (name_aln hn) (name_aln hm) (sgW_ends a) (sgW_ends b) h1
  refine ⟨?_, sgW_inj _ _ h3⟩
  obtain ⟨⟨x⟩⟩ := n
  obtain ⟨⟨y⟩⟩ := m
  have : x = y := h2
  rw [this]

/-- What equations make the same, among those of S. -/
inductive Cg (E : List Pr) (S : Tm → Prop) : Tm → Tm → Prop
  | refl (t : Tm) : Cg E S t t
  | sym {a b : Tm} : Cg E S a b → Cg E S b a
  | trans {a b c : Tm} : Cg E S a b → Cg E S b c → Cg E S a c
  | eq {p : Pr} : p ∈ E → Cg E S p.l p.r
  | cong {n : ByteArray} {l k : List Tm} : S ⟨n, l⟩ → S ⟨n, k⟩ → l.length = k.length → (∀ (i : Nat) (h1 : i < l.length) (h2 : i < k.length), Cg E S l[i] k[i]) → Cg E S ⟨n, l⟩ ⟨n, k⟩
theorem Cg.mono {E : List Pr} {S T : Tm → Prop} (h : ∀ t, S t → T t) {a b : Tm} (g : Cg E S a b) : Cg E T a b := by
  induction g with
  | refl t => exact .refl t
  | sym _ ih => exact .sym ih
  | trans _ _ i1 i2 => exact .trans i1 i2
  | eq hp => exact .eq hp
  | cong h1 h2 hl _ ih => exact .cong (h _ h1) (h _ h2) hl ih
theorem Cg.iff {E : List Pr} {S T : Tm → Prop} (h : ∀ t, S t ↔ T t) {a b : Tm} : Cg E S a b ↔ Cg E T a b := ⟨fun g => g.mono fun t ht => (h t).1 ht, fun g => g.mono fun t ht => (h t).2 ht⟩
/-- Terms by numbers, and a number of each for what is the same. -/
structure Num (E : List Pr) (L : List Tm) (K : List Nat) : Prop where
  nd : L.Nodup
  len : K.length = L.length
  below : ∀ t ∈ L, ∀ x ∈ t.args, x ∈ L
  eqs : ∀ p ∈ E, p.l ∈ L ∧ p.r ∈ L
/-- What is done when nothing more becomes the same. -/
structure Done (E : List Pr) (L : List Tm) (K : List Nat) : Prop where
  sound : ∀ (i k : Nat) (h1 : i < L.length) (h2 : k < L.length) (g1 : i < K.length) (g2 : k < K.length), K[i] = K[k] → Cg E (· ∈ L) L[i] L[k]
  given : ∀ p ∈ E, ∃ (i k : Nat) (h1 : i < L.length) (h2 : k < L.length) (g1 : i < K.length) (g2 : k < K.length), L[i] = p.l ∧ L[k] = p.r ∧ K[i] = K[k]
  closed : ∀ (i k : Nat) (h1 : i < L.length) (h2 : k < L.length) (g1 : i < K.length) (g2 : k < K.length), L[i].name = L[k].name → L[i].args.length = L[k].args.length →
    (∀ (j : Nat) (q1 : j < L[i].args.length) (q2 : j < L[k].args.length), ∃ (x y : Nat) (h3 : x < L.length) (h4 : y < L.length) (g3 : x < K.length) (g4 : y < K.length), L[x] = L[i].args[j] ∧ L[y] = L[k].args[j] ∧ K[x] = K[y]) → K[i] = K[k]
/-- The same, or of one number. -/
def KR (L : List Tm) (K : List Nat) (a b : Tm) : Prop := a = b ∨ ∃ (i k : Nat) (h1 : i < L.length) (h2 : k < L.length) (g1 : i < K.length) (g2 : k < K.length), L[i] = a ∧ L[k] = b ∧ K[i] = K[k]
theorem nd_at {L : List Tm} (h : L.Nodup) {i k : Nat} (h1 : i < L.length) (h2 : k < L.length) (e : L[i] = L[k]) : i = k := by
  rcases Nat.lt_trichotomy i k with g | g | g
  · exact absurd e (List.pairwise_iff_getElem.1 h i k h1 h2 g)
  · exact g
  · exact absurd e.symm (List.pairwise_iff_getElem.1 h k i h2 h1 g)
theorem KR.of_mem {L : List Tm} {K : List Nat} (hl : K.length = L.length) {a b : Tm} (h : KR L K a b) (ha : a ∈ L) : ∃ (i k : Nat) (h1 : i < L.length) (h2 : k < L.length) (g1 : i < K.length) (g2 : k < K.length), L[i] = a ∧ L[k] = b ∧ K[i] = K[k] := by
  rcases h with rfl | h
  · obtain ⟨i, hi, rfl⟩ := List.getElem_of_mem ha
    exact ⟨i, i, hi, hi, by omega, by omega, rfl, rfl, rfl⟩
  · exact h
theorem KR.sym {L : List Tm} {K : List Nat} {a b : Tm} (h : KR L K a b) : KR L K b a := by
  rcases h with rfl | ⟨i, k, h1, h2, g1, g2, e1, e2, e3⟩
  · exact Or.inl rfl
  · exact Or.inr ⟨k, i, h2, h1, g2, g1, e2, e1, e3.symm⟩
theorem KR.trans {L : List Tm} {K : List Nat} (hd : L.Nodup) {a b c : Tm} (h : KR L K a b) (g : KR L K b c) : KR L K a c := by
  rcases h with rfl | ⟨i, k, h1, h2, g1, g2, rfl, e2, e3⟩
  · exact g
  · rcases g with rfl | ⟨x, y, h3, h4, g3, g4, e4, rfl, e6⟩
    · exact Or.inr ⟨i, k, h1, h2, g1, g2, rfl, e2, e3⟩
    · have hx := nd_at hd h2 h3 (e2.trans e4.symm)
      subst hx
      exact Or.inr ⟨i, y, h1, h4, g1, g4, rfl, rfl, e3.trans e6⟩
theorem cg_kr {E : List Pr} {L : List Tm} {K : List Nat} (hn : Num E L K) (hd : Done E L K) {a b : Tm} (h : Cg E (· ∈ L) a b) : KR L K a b := by
  have hl := hn.len
  induction h with
  | refl t => exact Or.inl rfl
  | sym _ ih => exact ih.sym
  | trans _ _ i1 i2 => exact i1.trans hn.nd i2
  | eq hp =>
    obtain ⟨i, k, h1, h2, g1, g2, e1, e2, e3⟩ := hd.given _ hp
    exact Or.inr ⟨i, k, h1, h2, g1, g2, e1, e2, e3⟩
  | @cong n l k s1 s2 hlen _ ih =>
    obtain ⟨i, hi, ei⟩ := List.getElem_of_mem s1
    obtain ⟨j, hj, ej⟩ := List.getElem_of_mem s2
    refine Or.inr ⟨i, j, hi, hj, by omega, by omega, ei, ej, ?_⟩
    refine hd.closed i j hi hj (by omega) (by omega) (by rw [ei, ej]) (by rw [ei, ej]; exact hlen) fun q q1 q2 => ?_
    have q3 : q < l.length := by rw [ei] at q1; exact q1
    have q4 : q < k.length := by omega
    have hm : l[q] ∈ L := hn.below _ s1 _ (List.getElem_mem q3)
    obtain ⟨x, y, h3, h4, g3, g4, e4, e5, e6⟩ := (ih q q3 q4).of_mem hl hm
    refine ⟨x, y, h3, h4, g3, g4, ?_, ?_, e6⟩
    · rw [e4]; congr 1; rw [ei]
    · rw [e5]; congr 1; rw [ej]
/-- The numbers tell what is the same. -/
theorem num_iff {E : List Pr} {L : List Tm} {K : List Nat} (hn : Num E L K) (hd : Done E L K) {i k : Nat} (h1 : i < L.length) (h2 : k < L.length) (g1 : i < K.length) (g2 : k < K.length) : K[i] = K[k] ↔ Cg E (· ∈ L) L[i] L[k] := by
  refine ⟨hd.sound i k h1 h2 g1 g2, fun h => ?_⟩
  obtain ⟨x, y, h3, h4, g3, g4, e1, e2, e3⟩ := (cg_kr hn hd h).of_mem hn.len (List.getElem_mem h1)
  have := nd_at hn.nd h3 h1 e1
  have := nd_at hn.nd h4 h2 e2
  subst_vars
  exact e3
end Go.Proofs.YtdmaijmglblccaaGreatDoor

/- Plain: terms by numbers, those below ahead of those above. -/
namespace Go.Proofs.YtdmaijmglblccaaGreatDoor
open Go.RowKit
set_option linter.unusedSimpArgs false
set_option linter.unusedVariables false
set_option maxRecDepth 8000

/-- What stands there, or else d. -/
def gd {α : Type} (l : List α) (d : α) (i : Nat) : α := (l[i]?).getD d
theorem gd_get {α : Type} {l : List α} {d : α} {i : Nat} (h : i < l.length) : gd l d i = l[i] := by unfold gd; rw [List.getElem?_eq_getElem h]; rfl
theorem gd_mem {α : Type} {l : List α} {d : α} {i : Nat} (h : i < l.length) : gd l d i ∈ l := by rw [gd_get h]; exact List.getElem_mem h
theorem gd_app {α : Type} {l r : List α} {d : α} {i : Nat} (h : i < l.length) : gd (l ++ r) d i = gd l d i := by unfold gd; rw [List.getElem?_append_left h]
theorem gd_end {α : Type} {l : List α} {d x : α} : gd (l ++ [x]) d l.length = x := by unfold gd; simp
theorem gd_end2 {α : Type} {l : List α} {d x : α} {n : Nat} (h : l.length = n) : gd (l ++ [x]) d n = x := by rw [← h]; exact gd_end
theorem gd_set {α : Type} {l : List α} {d x : α} {i : Nat} (h : i < l.length) : gd (l.set i x) d i = x := by unfold gd; rw [List.getElem?_set_self h]; rfl
theorem gd_set_ne {α : Type} {l : List α} {d x : α} {i j : Nat} (h : i ≠ j) : gd (l.set i x) d j = gd l d j := by unfold gd; rw [List.getElem?_set_ne h]
theorem gd_map {α β : Type} {f : α → β} {l : List α} {d : α} {e : β} {i : Nat} (h : i < l.length) : gd (l.map f) e i = f (gd l d i) := by rw [gd_get h, gd_get (by simpa using h)]; simp
theorem gd_of_mem {α : Type} {l : List α} {x : α} (d : α) (h : x ∈ l) : ∃ i, i < l.length ∧ gd l d i = x := by
  obtain ⟨i, hi, rfl⟩ := List.getElem_of_mem h
  exact ⟨i, hi, gd_get hi⟩

/-- The program's numbers: terms, those right below, classes, members, those right above, signs. -/
structure Kl where
  ts : List Tm
  bl : List (List Nat)
  cl : List Nat
  mb : List (List Nat)
  ab : List (List Nat)
  sg : List (ByteArray × Nat)
def noK : Tm := ⟨⟨#[]⟩, []⟩
def Kl.T (k : Kl) : Nat → Tm := gd k.ts noK
def Kl.B (k : Kl) : Nat → List Nat := gd k.bl []
def Kl.C (k : Kl) : Nat → Nat := gd k.cl 0
def Kl.M (k : Kl) : Nat → List Nat := gd k.mb []
def Kl.A (k : Kl) : Nat → List Nat := gd k.ab []
/-- What stands for a sign. -/
def sgG : List (ByteArray × Nat) → ByteArray → Option Nat
  | [], _ => none
  | p :: r, n => if p.1 = n then some p.2 else sgG r n
theorem sgG_app (b : List (ByteArray × Nat)) (n : ByteArray) : ∀ a : List (ByteArray × Nat), sgG (a ++ b) n = (sgG a n).or (sgG b n)
  | [] => by simp [sgG]
  | p :: r => by
    rw [List.cons_append, sgG, sgG]
    split
    · rfl
    · exact sgG_app b n r
theorem sgG_one (s n : ByteArray) (m : Nat) : sgG [(s, m)] n = if s = n then some m else none := by simp [sgG]
def sumN (l : List (List Nat)) : Nat := (l.map List.length).sum
theorem sumN_app (a b : List (List Nat)) : sumN (a ++ b) = sumN a + sumN b := by simp [sumN]
theorem sumN_at {l : List (List Nat)} {i : Nat} (h : i < l.length) : (gd l [] i).length ≤ sumN l := by
  induction l generalizing i with
  | nil => simp at h
  | cons a r ih =>
    cases i with
    | zero => simp [gd, sumN]
    | succ i =>
      have h2 := ih (i := i) (by simpa using h)
      have e : gd (a :: r) [] (i + 1) = gd r [] i := by simp [gd]
      rw [e]
      simp [sumN] at h2 ⊢
      omega
theorem sumN_set {l : List (List Nat)} {i : Nat} (x : List Nat) (h : i < l.length) : sumN (l.set i x) + (gd l [] i).length = sumN l + x.length := by
  induction l generalizing i with
  | nil => simp at h
  | cons a r ih =>
    cases i with
    | zero => simp [gd, sumN]; omega
    | succ i =>
      have h2 := ih (i := i) (by simpa using h)
      have e : gd (a :: r) [] (i + 1) = gd r [] i := by simp [gd]
      rw [e]
      simp [sumN] at h2 ⊢
      omega
/-- While terms are numbered: each is a class of its own; U: of which is it known that they are noted above? -/
structure NumI (k : Kl) (U : Nat → Nat → Prop) : Prop where
  lb : k.bl.length = k.ts.length
  lc : k.cl.length = k.ts.length
  lm : k.mb.length = k.ts.length
  la : k.ab.length = k.ts.length
  nd : k.ts.Nodup
  may : ∀ t ∈ k.ts, errL [t] = 0
  arg : ∀ m, m < k.ts.length → (k.T m).args = (k.B m).map k.T ∧ ∀ b ∈ k.B m, b < m
  own : ∀ m, m < k.ts.length → k.C m = m ∧ k.M m = [m]
  up : ∀ m, m < k.ts.length → ∀ b ∈ k.B m, U m b → m ∈ k.A b
  alt : ∀ c, c < k.ts.length → ∀ m ∈ k.A c, m < k.ts.length
  ent : ∀ s m, sgG k.sg s = some m → m < k.ts.length ∧ s = sgn (k.T m).name (k.B m)
  has : ∀ m, m < k.ts.length → sgG k.sg (sgn (k.T m).name (k.B m)) = some m
abbrev AllU : Nat → Nat → Prop := fun _ _ => True
theorem kT_mem {k : Kl} {m : Nat} (h : m < k.ts.length) : k.T m ∈ k.ts := gd_mem h
theorem kT_inj {k : Kl} (hd : k.ts.Nodup) {i j : Nat} (h1 : i < k.ts.length) (h2 : j < k.ts.length) (e : k.T i = k.T j) : i = j := by
  unfold Kl.T at e
  rw [gd_get h1, gd_get h2] at e
  exact nd_at hd h1 h2 e
theorem kT_maps {k : Kl} (hd : k.ts.Nodup) : ∀ (a b : List Nat), (∀ x ∈ a, x < k.ts.length) → (∀ x ∈ b, x < k.ts.length) → a.map k.T = b.map k.T → a = b
  | [], [], _, _, _ => rfl
  | [], y :: b, _, _, h => by simp at h
  | x :: a, [], _, _, h => by simp at h
  | x :: a, y :: b, ha, hb, h => by
    simp only [List.map_cons, List.cons.injEq] at h
    rw [kT_inj hd (ha x (by simp)) (hb y (by simp)) h.1, kT_maps hd a b (fun z hz => ha z (by simp [hz])) (fun z hz => hb z (by simp [hz])) h.2]
theorem err_nmK {t : Tm} (h : errL [t] = 0) : nameB t.name = true := by obtain ⟨s, l⟩ := t; exact errL_name0 h
theorem NumI.blt {k : Kl} {U : Nat → Nat → Prop} (h : NumI k U) {m : Nat} (hm : m < k.ts.length) : ∀ b ∈ k.B m, b < k.ts.length := fun b hb => by have := (h.arg m hm).2 b hb; omega
/-- A term that is there. -/
theorem num_found {k : Kl} {U : Nat → Nat → Prop} (h : NumI k U) {t : Tm} (he : errL [t] = 0) {bs : List Nat} (ha : t.args = bs.map k.T) {m : Nat} (hs : sgG k.sg (sgn t.name bs) = some m) : m < k.ts.length ∧ k.T m = t := by
  obtain ⟨hm, e⟩ := h.ent _ _ hs
  obtain ⟨e1, e2⟩ := sgn_inj (err_nmK he) (err_nmK (h.may _ (kT_mem hm))) e
  refine ⟨hm, ?_⟩
  have e3 := (h.arg m hm).1
  rw [← e2, ← ha] at e3
  generalize k.T m = x at *
  obtain ⟨s, l⟩ := t
  obtain ⟨s', l'⟩ := x
  simp only at e1 e3
  rw [e1, e3]
/-- A term more. -/
def Kl.more (k : Kl) (t : Tm) (bs : List Nat) : Kl := ⟨k.ts ++ [t], k.bl ++ [bs], k.cl ++ [k.ts.length], k.mb ++ [[k.ts.length]], k.ab ++ [[]], k.sg ++ [(sgn t.name bs, k.ts.length)]⟩
theorem num_more {k : Kl} (h : NumI k AllU) {t : Tm} (he : errL [t] = 0) {bs : List Nat} (hb : ∀ b ∈ bs, b < k.ts.length) (ha : t.args = bs.map k.T) (hs : sgG k.sg (sgn t.name bs) = none) : NumI (k.more t bs) (fun m _ => m < k.ts.length) ∧ (k.more t bs).T k.ts.length = t ∧ (k.more t bs).B k.ts.length = bs := by
  have hT : ∀ m, m < k.ts.length → (k.more t bs).T m = k.T m := fun m hm => gd_app hm
  have hB : ∀ m, m < k.ts.length → (k.more t bs).B m = k.B m := fun m hm => gd_app (by rw [h.lb]; exact hm)
  have hC : ∀ m, m < k.ts.length → (k.more t bs).C m = k.C m := fun m hm => gd_app (by rw [h.lc]; exact hm)
  have hM : ∀ m, m < k.ts.length → (k.more t bs).M m = k.M m := fun m hm => gd_app (by rw [h.lm]; exact hm)
  have hA : ∀ m, m < k.ts.length → (k.more t bs).A m = k.A m := fun m hm => gd_app (by rw [h.la]; exact hm)
  have nT : (k.more t bs).T k.ts.length = t := gd_end
  have nB : (k.more t bs).B k.ts.length = bs := gd_end2 h.lb
  have nC : (k.more t bs).C k.ts.length = k.ts.length := gd_end2 h.lc
  have nM : (k.more t bs).M k.ts.length = [k.ts.length] := gd_end2 h.lm
  have nA : (k.more t bs).A k.ts.length = [] := gd_end2 h.la
  have hz : (k.more t bs).ts.length = k.ts.length + 1 := by simp [Kl.more]
  have mapT : ∀ l : List Nat, (∀ b ∈ l, b < k.ts.length) → l.map (k.more t bs).T = l.map k.T := fun l hl => List.map_congr_left fun b hb => hT b (hl b hb)
  refine ⟨⟨?_, ?_, ?_, ?_, ?_, ?_, fun m hm => ?_, fun m hm => ?_, fun m hm b hb hu => ?_, fun c hc m hm => ?_, fun s m hsm => ?_, fun m hm => ?_⟩, nT, nB⟩
  · simp [Kl.more, h.lb]
  · simp [Kl.more, h.lc]
  · simp [Kl.more, h.lm]
  · simp [Kl.more, h.la]
  · show (k.ts ++ [t]).Nodup
    rw [List.nodup_append]
    refine ⟨h.nd, by simp, fun a ha1 b hb1 e => ?_⟩
    rw [List.mem_singleton] at hb1
    subst hb1
    subst e
    obtain ⟨m, hm, em⟩ := gd_of_mem noK ha1
    have em : k.T m = a := em
    have h1 := (h.arg m hm).1
    rw [em, ha] at h1
    have h2 := kT_maps h.nd _ _ hb (h.blt hm) h1
    have h3 := h.has m hm
    rw [em, ← h2, hs] at h3
    cases h3
  · intro x hx
    rcases List.mem_append.1 hx with hx | hx
    · exact h.may x hx
    · rw [List.mem_singleton.1 hx]; exact he
  · by_cases hmn : m < k.ts.length
    · rw [hT m hmn, hB m hmn, mapT _ (h.blt hmn)]
      exact h.arg m hmn
    · have e : m = k.ts.length := by omega
      subst e
      rw [nT, nB, mapT _ hb]
      exact ⟨ha, hb⟩
  · by_cases hmn : m < k.ts.length
    · rw [hC m hmn, hM m hmn]
      exact h.own m hmn
    · have e : m = k.ts.length := by omega
      subst e
      exact ⟨nC, nM⟩
  · rw [hB m hu] at hb
    rw [hA b (h.blt hu b hb)]
    exact h.up m hu b hb trivial
  · by_cases hcn : c < k.ts.length
    · rw [hA c hcn] at hm
      have := h.alt c hcn m hm
      omega
    · have e : c = k.ts.length := by omega
      subst e
      rw [nA] at hm
      cases hm
  · have hsm : sgG (k.sg ++ [(sgn t.name bs, k.ts.length)]) s = some m := hsm
    rw [sgG_app] at hsm
    cases h1 : sgG k.sg s with
    | some m1 =>
      rw [h1] at hsm
      cases hsm
      obtain ⟨g1, g2⟩ := h.ent _ _ h1
      exact ⟨by omega, by rw [hT m g1, hB m g1]; exact g2⟩
    | none =>
      rw [h1, Option.none_or, sgG_one] at hsm
      split at hsm
      · rename_i e
        cases hsm
        exact ⟨by omega, by rw [nT, nB]; exact e.symm⟩
      · cases hsm
  · show sgG (k.sg ++ [(sgn t.name bs, k.ts.length)]) _ = some m
    rw [sgG_app]
    by_cases hmn : m < k.ts.length
    · rw [hT m hmn, hB m hmn, h.has m hmn]
      rfl
    · have e : m = k.ts.length := by omega
      subst e
      rw [nT, nB, hs, Option.none_or, sgG_one, if_pos rfl]
/-- Noted right above another one: once. -/
def Kl.note (k : Kl) (b n : Nat) : Kl := if (k.A b).getLast? = some n then k else { k with ab := k.ab.set b (k.A b ++ [n]) }
theorem note_same (k : Kl) (b n : Nat) : (k.note b n).ts = k.ts ∧ (k.note b n).bl = k.bl ∧ (k.note b n).cl = k.cl ∧ (k.note b n).mb = k.mb ∧ (k.note b n).sg = k.sg ∧ (k.note b n).ab.length = k.ab.length := by
  unfold Kl.note
  split <;> simp
theorem note_A {k : Kl} {b n : Nat} (hb : b < k.ab.length) : n ∈ (k.note b n).A b ∧ (∀ c, ∀ m ∈ k.A c, m ∈ (k.note b n).A c) ∧ ∀ c, ∀ m ∈ (k.note b n).A c, m ∈ k.A c ∨ m = n := by
  unfold Kl.note
  split
  · rename_i h
    exact ⟨List.mem_of_getLast? h, fun c m h => h, fun c m h => Or.inl h⟩
  · have e : ∀ c, (Kl.A { k with ab := k.ab.set b (k.A b ++ [n]) } c) = if b = c then k.A b ++ [n] else k.A c := fun c => by
      unfold Kl.A
      by_cases hc : b = c
      · subst hc; rw [if_pos rfl, gd_set hb]
      · rw [if_neg hc, gd_set_ne hc]
    refine ⟨by rw [e, if_pos rfl]; simp, fun c m hm => ?_, fun c m hm => ?_⟩
    · rw [e]
      split
      · rename_i hc; subst hc; simp [hm]
      · exact hm
    · rw [e] at hm
      split at hm
      · rename_i hc; subst hc
        rcases List.mem_append.1 hm with h1 | h1
        · exact Or.inl h1
        · exact Or.inr (List.mem_singleton.1 h1)
      · exact Or.inl hm
theorem note_sum {k : Kl} {b n : Nat} (hb : b < k.ab.length) : sumN (k.note b n).ab ≤ sumN k.ab + 1 := by
  unfold Kl.note
  split
  · omega
  · have h := sumN_set (k.A b ++ [n]) hb
    have e : (k.A b).length = (gd k.ab [] b).length := rfl
    simp only [List.length_append, List.length_singleton] at h
    simp only
    omega
theorem num_note {k : Kl} {U : Nat → Nat → Prop} (h : NumI k U) {b n : Nat} (hb : b < k.ts.length) (hn : n < k.ts.length) : NumI (k.note b n) (fun m c => U m c ∨ (m = n ∧ c = b)) := by
  obtain ⟨e1, e2, e3, e4, e5, e6⟩ := note_same k b n
  obtain ⟨a1, a2, a3⟩ := note_A (k := k) (b := b) (n := n) (by rw [h.la]; exact hb)
  have hT : (k.note b n).T = k.T := by unfold Kl.T; rw [e1]
  have hB : (k.note b n).B = k.B := by unfold Kl.B; rw [e2]
  have hC : (k.note b n).C = k.C := by unfold Kl.C; rw [e3]
  have hM : (k.note b n).M = k.M := by unfold Kl.M; rw [e4]
  refine ⟨by rw [e1, e2]; exact h.lb, by rw [e1, e3]; exact h.lc, by rw [e1, e4]; exact h.lm, by rw [e1, e6]; exact h.la, by rw [e1]; exact h.nd, by rw [e1]; exact h.may, by rw [e1, hT, hB]; exact h.arg, by rw [e1, hC, hM]; exact h.own, ?_, ?_, by rw [e1, e5, hT, hB]; exact h.ent, by rw [e1, e5, hT, hB]; exact h.has⟩
  · rw [e1, hB]
    rintro m hm c hc (hu | ⟨rfl, rfl⟩)
    · exact a2 c m (h.up m hm c hc hu)
    · exact a1
  · rw [e1]
    intro c hc m hm
    rcases a3 c m hm with h1 | h1
    · exact h.alt c hc m h1
    · rw [h1]; exact hn
def Kl.notes (k : Kl) (bs : List Nat) (n : Nat) : Kl := bs.foldl (fun k b => k.note b n) k
theorem notes_snoc (k : Kl) (bs : List Nat) (b n : Nat) : k.notes (bs ++ [b]) n = (k.notes bs n).note b n := by simp [Kl.notes]
theorem notes_same (n : Nat) : ∀ (bs : List Nat) (k : Kl), (k.notes bs n).ts = k.ts ∧ (k.notes bs n).bl = k.bl ∧ (k.notes bs n).cl = k.cl ∧ (k.notes bs n).mb = k.mb ∧ (k.notes bs n).sg = k.sg ∧ (k.notes bs n).ab.length = k.ab.length
  | [], k => ⟨rfl, rfl, rfl, rfl, rfl, rfl⟩
  | b :: r, k => by
    obtain ⟨e1, e2, e3, e4, e5, e6⟩ := note_same k b n
    obtain ⟨f1, f2, f3, f4, f5, f6⟩ := notes_same n r (k.note b n)
    exact ⟨f1.trans e1, f2.trans e2, f3.trans e3, f4.trans e4, f5.trans e5, f6.trans e6⟩
theorem num_notes {n : Nat} : ∀ (bs : List Nat) {k : Kl} {U : Nat → Nat → Prop}, NumI k U → (∀ b ∈ bs, b < k.ts.length) → n < k.ts.length → NumI (k.notes bs n) (fun m c => U m c ∨ (m = n ∧ c ∈ bs)) ∧ sumN (k.notes bs n).ab ≤ sumN k.ab + bs.length
  | [], k, U, h, _, _ => ⟨⟨h.lb, h.lc, h.lm, h.la, h.nd, h.may, h.arg, h.own, fun m hm b hb hu => h.up m hm b hb (by simpa using hu), h.alt, h.ent, h.has⟩, Nat.le_add_right _ _⟩
  | b :: r, k, U, h, hb, hn => by
    obtain ⟨e1, -, -, -, -, -⟩ := note_same k b n
    have h1 := num_note h (hb b (by simp)) hn
    obtain ⟨h2, h3⟩ := num_notes r h1 (fun c hc => by rw [e1]; exact hb c (by simp [hc])) (by rw [e1]; exact hn)
    have h4 := note_sum (k := k) (b := b) (n := n) (by rw [h.la]; exact hb b (by simp))
    refine ⟨⟨h2.lb, h2.lc, h2.lm, h2.la, h2.nd, h2.may, h2.arg, h2.own, fun m hm c hc hu => h2.up m hm c hc ?_, h2.alt, h2.ent, h2.has⟩, ?_⟩
    · rcases hu with hu | ⟨e, hu⟩
      · exact Or.inl (Or.inl hu)
      · rcases List.mem_cons.1 hu with hu | hu
        · exact Or.inl (Or.inr ⟨e, hu⟩)
        · exact Or.inr ⟨e, hu⟩
    · have : (k.notes (b :: r) n).ab = ((k.note b n).notes r n).ab := rfl
      rw [this]
      simp only [List.length_cons]
      omega
/-- All terms within one that is there are there. -/
theorem num_within {k : Kl} {U : Nat → Nat → Prop} (h : NumI k U) (t : Tm) : t ∈ k.ts → ∀ x ∈ preL [t], x ∈ k.ts := by
  induction t using Tm.ind with
  | h s l ih =>
    intro ht x hx
    obtain ⟨m, hm, e0⟩ := gd_of_mem noK ht
    have e : k.T m = ⟨s, l⟩ := e0
    clear e0
    have hl : ∀ y ∈ l, y ∈ k.ts := fun y hy => by
      have h1 := (h.arg m hm).1
      rw [e] at h1
      have h2 : l = (k.B m).map k.T := h1
      rw [h2] at hy
      obtain ⟨b, hb, rfl⟩ := List.mem_map.1 hy
      exact kT_mem (h.blt hm b hb)
    have key : ∀ q : List Tm, (∀ y ∈ q, y ∈ l) → ∀ x ∈ preL q, x ∈ k.ts := by
      intro q
      induction q with
      | nil => intro _ x hx; simp [preL] at hx
      | cons y r ihr =>
        intro hq x hx
        have e1 : preL (y :: r) = preL [y] ++ preL r := by rw [← preL_append]; rfl
        rw [e1] at hx
        rcases List.mem_append.1 hx with hx | hx
        · exact ih y (hq y (by simp)) (hl y (hq y (by simp))) x hx
        · exact ihr (fun z hz => hq z (by simp [hz])) x hx
    simp only [preL, List.append_nil, List.mem_cons] at hx
    rcases hx with hx | hx
    · rw [hx]; exact ht
    · exact key l (fun y hy => hy) x hx
/-- What numbering a term does. -/
structure NumR (k : Kl) (t : Tm) (k' : Kl) (m : Nat) : Prop where
  ok : NumI k' AllU
  lt : m < k'.ts.length
  eq : k'.T m = t
  pre : k.ts <+: k'.ts
  old : ∀ x ∈ k'.ts, x ∈ k.ts ∨ x ∈ preL [t]
  all : ∀ x ∈ preL [t], x ∈ k'.ts
  len : k'.ts.length ≤ k.ts.length + sizeL [t]
  sum : sumN k'.ab + 1 ≤ sumN k.ab + sizeL [t]
end Go.Proofs.YtdmaijmglblccaaGreatDoor

/- The document's kinds (ClosureOf): a plain text. -/
namespace Go.Proofs.YtdmaijmglblccaaGreatDoor
open Go.RowKit
set_option linter.unusedSimpArgs false
set_option linter.unusedVariables false
set_option maxRecDepth 8000

/-- All of one kind become of another one's. -/
def joK (K : List Nat) (a b : Nat) : List Nat := if gd K 0 a = gd K 0 b then K else K.map fun c => if c = gd K 0 a then gd K 0 b else c
theorem joK_len (K : List Nat) (a b : Nat) : (joK K a b).length = K.length := by unfold joK; split <;> simp
theorem gd_mapK {α β : Type} {l : List α} {f : α → β} {d : α} {e : β} {i : Nat} (h : i < l.length) : gd (l.map f) e i = f (gd l d i) := by
  rw [gd_get (by simpa using h), gd_get h]; simp
theorem joK_at {K : List Nat} {a b i : Nat} (hi : i < K.length) : gd (joK K a b) 0 i = if gd K 0 a = gd K 0 b then gd K 0 i else if gd K 0 i = gd K 0 a then gd K 0 b else gd K 0 i := by
  unfold joK
  split
  · rfl
  · rw [gd_mapK (d := 0) hi]
theorem joK_keep {K : List Nat} {a b i j : Nat} (hi : i < K.length) (hj : j < K.length) (h : gd K 0 i = gd K 0 j) : gd (joK K a b) 0 i = gd (joK K a b) 0 j := by
  rw [joK_at hi, joK_at hj, h]
theorem joK_join {K : List Nat} {a b : Nat} (ha : a < K.length) (hb : b < K.length) : gd (joK K a b) 0 a = gd (joK K a b) 0 b := by
  rw [joK_at ha, joK_at hb]
  split
  · assumption
  · rw [if_pos rfl]
    split <;> rfl
theorem joK_sound {K : List Nat} {a b : Nat} {R : Nat → Nat → Prop} (ha : a < K.length) (hb : b < K.length) (hs : ∀ i j, R i j → R j i) (ht : ∀ i j k, R i j → R j k → R i k) (h : ∀ i j, i < K.length → j < K.length → gd K 0 i = gd K 0 j → R i j) (hab : R a b) : ∀ i j, i < K.length → j < K.length → gd (joK K a b) 0 i = gd (joK K a b) 0 j → R i j := by
  intro i j hi hj e
  rw [joK_at hi, joK_at hj] at e
  split at e
  · exact h i j hi hj e
  · split at e
    · rename_i h1
      have ri := h i a hi ha h1
      split at e
      · rename_i h2
        exact ht _ _ _ ri (hs _ _ (h j a hj ha h2))
      · exact ht _ _ _ ri (ht _ _ _ hab (h b j hb hj e))
    · split at e
      · rename_i h2
        have rj := h j a hj ha h2
        exact hs _ _ (ht _ _ _ rj (ht _ _ _ hab (h b i hb hi e.symm)))
      · exact h i j hi hj e
/-- How many kinds there are. -/
def cnK (n : Nat) (K : List Nat) : Nat := ((List.range n).filter fun c => decide (c ∈ K)).length
theorem flt_lt {l : List Nat} {p q : Nat → Bool} (h : ∀ x ∈ l, p x = true → q x = true) {y : Nat} (hy : y ∈ l) (h1 : p y = false) (h2 : q y = true) : (l.filter p).length < (l.filter q).length := by
  have hle : ∀ {l : List Nat}, (∀ x ∈ l, p x = true → q x = true) → (l.filter p).length ≤ (l.filter q).length := by
    intro l
    induction l with
    | nil => intro _; simp
    | cons a r ih =>
      intro h
      have ih := ih fun x hx => h x (by simp [hx])
      by_cases hp : p a = true
      · rw [List.filter_cons_of_pos hp, List.filter_cons_of_pos (h a (by simp) hp)]
        simpa using ih
      · rw [List.filter_cons_of_neg hp]
        by_cases hq : q a = true
        · rw [List.filter_cons_of_pos hq]; simp only [List.length_cons]; omega
        · rw [List.filter_cons_of_neg hq]; exact ih
  induction l with
  | nil => simp at hy
  | cons a r ih =>
    have hr : ∀ x ∈ r, p x = true → q x = true := fun x hx => h x (by simp [hx])
    rcases List.mem_cons.1 hy with e | e
    · subst e
      rw [List.filter_cons_of_neg (by rw [h1]; simp), List.filter_cons_of_pos h2]
      have := hle hr
      simp only [List.length_cons]
      omega
    · have ih := ih hr e
      by_cases hp : p a = true
      · rw [List.filter_cons_of_pos hp, List.filter_cons_of_pos (h a (by simp) hp)]
        simpa using ih
      · rw [List.filter_cons_of_neg hp]
        by_cases hq : q a = true
        · rw [List.filter_cons_of_pos hq]; simp only [List.length_cons]; omega
        · rw [List.filter_cons_of_neg hq]; exact ih
theorem joK_mem {K : List Nat} {a b c : Nat} (hb : b < K.length) (h : c ∈ joK K a b) : c ∈ K := by
  unfold joK at h
  split at h
  · exact h
  · obtain ⟨x, hx, e⟩ := List.mem_map.1 h
    split at e
    · rw [← e]; exact gd_mem hb
    · rw [← e]; exact hx
/-- One less when two kinds become one. -/
theorem joK_cnt {n : Nat} {K : List Nat} {a b : Nat} (ha : a < K.length) (hb : b < K.length) (hn : ∀ c ∈ K, c < n) (hne : gd K 0 a ≠ gd K 0 b) : cnK n (joK K a b) < cnK n K := by
  unfold cnK
  refine flt_lt (y := gd K 0 a) (fun x _ hx => ?_) (List.mem_range.2 (hn _ (gd_mem ha))) ?_ ?_
  · exact decide_eq_true (joK_mem hb (of_decide_eq_true hx))
  · refine decide_eq_false fun h => ?_
    unfold joK at h
    rw [if_neg hne] at h
    obtain ⟨x, hx, e⟩ := List.mem_map.1 h
    split at e
    · exact hne e.symm
    · rename_i h2; exact h2 e
  · exact decide_eq_true (gd_mem ha)
/-- What the document keeps while it joins: terms, and a kind of each. -/
structure KdI (E : List Pr) (L : List Tm) (K : List Nat) : Prop where
  len : K.length = L.length
  lt : ∀ c ∈ K, c < L.length
  snd : ∀ i j, i < K.length → j < K.length → gd K 0 i = gd K 0 j → Cg E (· ∈ L) (gd L noK i) (gd L noK j)
theorem KdI.join {E : List Pr} {L : List Tm} {K : List Nat} (h : KdI E L K) {a b : Nat} (ha : a < L.length) (hb : b < L.length) (hc : Cg E (· ∈ L) (gd L noK a) (gd L noK b)) : KdI E L (joK K a b) := by
  have hl := h.len
  refine ⟨by rw [joK_len, hl], fun c hc => h.lt c (joK_mem (by omega) hc), fun i j hi hj => ?_⟩
  rw [joK_len] at hi hj
  exact joK_sound (R := fun i j => Cg E (· ∈ L) (gd L noK i) (gd L noK j)) (by omega) (by omega) (fun _ _ g => g.sym) (fun _ _ _ g1 g2 => g1.trans g2) h.snd hc i j hi hj
/-- At the start each is of its own kind. -/
theorem KdI.start (E : List Pr) (L : List Tm) : KdI E L (List.range L.length) := by
  refine ⟨by simp, fun c hc => by simpa using hc, fun i j hi hj e => ?_⟩
  rw [gd_get hi, gd_get hj, List.getElem_range, List.getElem_range] at e
  subst e
  exact .refl _
theorem tm_etaK (t : Tm) : t = ⟨t.name, t.args⟩ := by cases t; rfl
/-- Of one name, and their parts are of the same kinds. -/
def cngK (L : List Tm) (bl : List (List Nat)) (K : List Nat) (i k : Nat) : Prop :=
  (gd L noK i).name = (gd L noK k).name ∧ (gd bl [] i).length = (gd bl [] k).length ∧ ∀ j, j < (gd bl [] i).length → gd K 0 (gd (gd bl [] i) 0 j) = gd K 0 (gd (gd bl [] k) 0 j)
/-- The parts by their numbers. -/
def BlK (L : List Tm) (bl : List (List Nat)) : Prop := ∀ i, i < L.length → (gd L noK i).args = (gd bl [] i).map (gd L noK) ∧ ∀ b ∈ gd bl [] i, b < L.length
theorem cng_Cg {E : List Pr} {L : List Tm} {bl : List (List Nat)} {K : List Nat} (h : KdI E L K) (hb : BlK L bl) {i k : Nat} (hi : i < L.length) (hk : k < L.length) (hc : cngK L bl K i k) : Cg E (· ∈ L) (gd L noK i) (gd L noK k) := by
  obtain ⟨a1, a2⟩ := hb i hi
  obtain ⟨b1, b2⟩ := hb k hk
  obtain ⟨c1, c2, c3⟩ := hc
  have hl := h.len
  have m1 : gd L noK i ∈ L := gd_mem hi
  have m2 : gd L noK k ∈ L := gd_mem hk
  have e1 : gd L noK i = ⟨(gd L noK k).name, (gd bl [] i).map (gd L noK)⟩ := by rw [← c1, ← a1]; exact tm_etaK _
  have e2 : gd L noK k = ⟨(gd L noK k).name, (gd bl [] k).map (gd L noK)⟩ := by rw [← b1]; exact tm_etaK _
  rw [e1] at m1
  rw [e2] at m2
  have hcg : Cg E (· ∈ L) ⟨(gd L noK k).name, (gd bl [] i).map (gd L noK)⟩ ⟨(gd L noK k).name, (gd bl [] k).map (gd L noK)⟩ := by
    refine .cong m1 m2 (by simpa using c2) fun j h1 h2 => ?_
    have g1 : j < (gd bl [] i).length := by simpa using h1
    have g2 : j < (gd bl [] k).length := by simpa using h2
    have h3 := c3 j g1
    rw [gd_get g1, gd_get g2] at h3
    simp only [List.getElem_map]
    exact h.snd _ _ (by rw [hl]; exact a2 _ (List.getElem_mem g1)) (by rw [hl]; exact b2 _ (List.getElem_mem g2)) h3
  rw [← e1, ← e2] at hcg
  exact hcg
def okP (L : List Tm) (bl : List (List Nat)) (K : List Nat) (i k : Nat) : Prop := cngK L bl K i k → gd K 0 i = gd K 0 k
theorem cngK.sym {L : List Tm} {bl : List (List Nat)} {K : List Nat} {i k : Nat} (h : cngK L bl K i k) : cngK L bl K k i :=
  ⟨h.1.symm, h.2.1.symm, fun j hj => (h.2.2 j (by rw [h.2.1]; exact hj)).symm⟩
/-- When a round joins nothing, all is done. -/
theorem done_of {E : List Pr} {L : List Tm} {bl : List (List Nat)} {K : List Nat} (hnd : L.Nodup) (h : KdI E L K) (hb : BlK L bl) (hg : ∀ p ∈ E, ∃ i k, i < L.length ∧ k < L.length ∧ gd L noK i = p.l ∧ gd L noK k = p.r ∧ gd K 0 i = gd K 0 k) (hok : ∀ i, i < L.length → ∀ k, k < i → okP L bl K i k) : Done E L K := by
  have hl := h.len
  refine ⟨fun i k h1 h2 g1 g2 e => ?_, fun p hp => ?_, fun i k h1 h2 g1 g2 e1 e2 e3 => ?_⟩
  · have := h.snd i k g1 g2 (by rw [gd_get g1, gd_get g2]; exact e)
    rwa [gd_get h1, gd_get h2] at this
  · obtain ⟨i, k, h1, h2, e1, e2, e3⟩ := hg p hp
    have g1 : i < K.length := by omega
    have g2 : k < K.length := by omega
    rw [gd_get h1] at e1
    rw [gd_get h2] at e2
    rw [gd_get g1, gd_get g2] at e3
    exact ⟨i, k, h1, h2, g1, g2, e1, e2, e3⟩
  · obtain ⟨a1, a2⟩ := hb i h1
    obtain ⟨b1, b2⟩ := hb k h2
    have hc : cngK L bl K i k := by
      rw [gd_get h1] at a1
      rw [gd_get h2] at b1
      have hlen : (gd bl [] i).length = (gd bl [] k).length := by
        rw [a1, b1] at e2; simpa using e2
      refine ⟨by rw [gd_get h1, gd_get h2]; exact e1, hlen, fun j hj => ?_⟩
      have hj2 : j < (gd bl [] k).length := by omega
      obtain ⟨x, y, h3, h4, g3, g4, f1, f2, f3⟩ := e3 j (by rw [a1]; simpa using hj) (by rw [b1]; simpa using hj2)
      have x1 : L[x] = gd L noK ((gd bl [] i)[j]) := by rw [f1]; simp only [a1, List.getElem_map]
      have y1 : L[y] = gd L noK ((gd bl [] k)[j]) := by rw [f2]; simp only [b1, List.getElem_map]
      have bx := a2 _ (List.getElem_mem hj)
      have by_ := b2 _ (List.getElem_mem hj2)
      rw [gd_get bx] at x1
      rw [gd_get by_] at y1
      have x2 := (List.getElem_inj hnd).1 x1
      have y2 := (List.getElem_inj hnd).1 y1
      rw [gd_get hj, gd_get hj2, ← x2, ← y2, gd_get g3, gd_get g4]
      exact f3
    have key : gd K 0 i = gd K 0 k := by
      rcases Nat.lt_trichotomy i k with e | e | e
      · exact (hok k h2 i e hc.sym).symm
      · rw [e]
      · exact hok i h1 k e hc
    rwa [gd_get g1, gd_get g2] at key
end Go.Proofs.YtdmaijmglblccaaGreatDoor

/- Plain: classes that are joined till nothing is left to do. -/
namespace Go.Proofs.YtdmaijmglblccaaGreatDoor
open Go.RowKit
set_option linter.unusedSimpArgs false
set_option linter.unusedVariables false
set_option maxRecDepth 8000

theorem filter_leK {α : Type} {p q : α → Bool} : ∀ V : List α, (∀ y ∈ V, q y = true → p y = true) → (V.filter q).length ≤ (V.filter p).length
  | [], _ => by simp
  | v :: V, h => by
    have ih := filter_leK V fun y hy => h y (by simp [hy])
    cases hq : q v with
    | true =>
      rw [List.filter_cons_of_pos hq, List.filter_cons_of_pos (h v (by simp) hq)]
      simp only [List.length_cons]
      omega
    | false =>
      rw [List.filter_cons_of_neg (by rw [hq]; simp)]
      cases hp : p v with
      | true => rw [List.filter_cons_of_pos hp]; simp only [List.length_cons]; omega
      | false => rw [List.filter_cons_of_neg (by rw [hp]; simp)]; exact ih
theorem filter_ltK {α : Type} {p q : α → Bool} : ∀ V : List α, (∀ y ∈ V, q y = true → p y = true) → (∃ x ∈ V, p x = true ∧ q x = false) → (V.filter q).length < (V.filter p).length
  | [], _, ⟨x, hx, _⟩ => by cases hx
  | v :: V, h, ⟨x, hx, h1, h2⟩ => by
    have hle := filter_leK V fun y hy => h y (by simp [hy])
    rcases List.mem_cons.1 hx with rfl | hx
    · rw [List.filter_cons_of_neg (by rw [h2]; simp), List.filter_cons_of_pos h1]
      simp only [List.length_cons]
      omega
    · have ih := filter_ltK V (fun y hy => h y (by simp [hy])) ⟨x, hx, h1, h2⟩
      cases hq : q v with
      | true =>
        rw [List.filter_cons_of_pos hq, List.filter_cons_of_pos (h v (by simp) hq)]
        simp only [List.length_cons]
        omega
      | false =>
        rw [List.filter_cons_of_neg (by rw [hq]; simp)]
        cases hp : p v with
        | true => rw [List.filter_cons_of_pos hp]; simp only [List.length_cons]; omega
        | false => rw [List.filter_cons_of_neg (by rw [hp]; simp)]; exact ih
/-- The classes right below. -/
def Kl.S (k : Kl) (m : Nat) : List Nat := (k.B m).map k.C
def Kl.sig (k : Kl) (m : Nat) : ByteArray := sgn (k.T m).name (k.S m)
/-- An equivalence that has what is told, and what is to do. -/
structure GdQ (k : Kl) (td : List (Nat × Nat)) (Q : Nat → Nat → Prop) : Prop where
  sym : ∀ {a b}, Q a b → Q b a
  trans : ∀ {a b c}, Q a b → Q b c → Q a c
  cls : ∀ i j, i < k.ts.length → j < k.ts.length → k.C i = k.C j → Q i j
  tdo : ∀ p ∈ td, Q p.1 p.2
structure JnI (E : List Pr) (S : Tm → Prop) (W : Nat) (k : Kl) (td : List (Nat × Nat)) (P : Nat → Prop) : Prop where
  lb : k.bl.length = k.ts.length
  lc : k.cl.length = k.ts.length
  lm : k.mb.length = k.ts.length
  la : k.ab.length = k.ts.length
  nd : k.ts.Nodup
  clt : ∀ i, i < k.ts.length → k.C i < k.ts.length
  arg : ∀ m, m < k.ts.length → (k.T m).args = (k.B m).map k.T ∧ ∀ b ∈ k.B m, b < k.ts.length
  nm : ∀ m, m < k.ts.length → nameB (k.T m).name = true
  inS : ∀ m, m < k.ts.length → S (k.T m)
  mem : ∀ i c, i < k.ts.length → c < k.ts.length → (i ∈ k.M c ↔ k.C i = c)
  mlt : ∀ c, c < k.ts.length → ∀ i ∈ k.M c, i < k.ts.length
  up : ∀ m, m < k.ts.length → ∀ b ∈ k.B m, m ∈ k.A (k.C b)
  alt : ∀ c, c < k.ts.length → ∀ m ∈ k.A c, m < k.ts.length
  ms : sumN k.mb ≤ k.ts.length
  sa : sumN k.ab ≤ W
  snd : ∀ i j, i < k.ts.length → j < k.ts.length → k.C i = k.C j → Cg E S (k.T i) (k.T j)
  tsn : ∀ p ∈ td, p.1 < k.ts.length ∧ p.2 < k.ts.length ∧ Cg E S (k.T p.1) (k.T p.2)
  giv : ∀ p ∈ E, ∃ a b, a < k.ts.length ∧ b < k.ts.length ∧ k.T a = p.l ∧ k.T b = p.r ∧ ∀ Q, GdQ k td Q → Q a b
  ent : ∀ s m, sgG k.sg s = some m → m < k.ts.length ∧ ∃ cs, s = sgn (k.T m).name cs ∧ cs.length = (k.B m).length ∧ ∀ j, j < cs.length → gd cs 0 j = k.C (gd (k.B m) 0 j) ∨ (gd cs 0 j < k.ts.length ∧ k.M (gd cs 0 j) = [])
  has : ∀ m, m < k.ts.length → ¬ P m → ∃ e, sgG k.sg (k.sig m) = some e ∧ ∀ Q, GdQ k td Q → Q m e
/-- How much is left: classes with members. -/
def Kl.cnt (k : Kl) : Nat := ((List.range k.ts.length).filter fun c => !(k.M c).isEmpty).length

section
variable {E : List Pr} {S : Tm → Prop} {W : Nat} {k : Kl} {td : List (Nat × Nat)} {P : Nat → Prop}

theorem JnI.live (h : JnI E S W k td P) {i : Nat} (hi : i < k.ts.length) : k.M (k.C i) ≠ [] := fun e => by
  have := (h.mem i (k.C i) hi (h.clt i hi)).2 rfl
  rw [e] at this
  cases this
/-- At the start. -/
theorem jn_start (hn : NumI k AllU) (hW : sumN k.ab ≤ W) (hS : ∀ t ∈ k.ts, S t) (htd : ∀ p ∈ td, p.1 < k.ts.length ∧ p.2 < k.ts.length ∧ Cg E S (k.T p.1) (k.T p.2)) (hE : ∀ p ∈ E, ∃ q ∈ td, k.T q.1 = p.l ∧ k.T q.2 = p.r) : JnI E S W k td (fun _ => False) := by
  have hC : ∀ i, i < k.ts.length → k.C i = i := fun i hi => (hn.own i hi).1
  have hM : ∀ i, i < k.ts.length → k.M i = [i] := fun i hi => (hn.own i hi).2
  have hS2 : ∀ m, m < k.ts.length → k.S m = k.B m := fun m hm => by
    unfold Kl.S
    have : (k.B m).map k.C = (k.B m).map id := List.map_congr_left fun b hb => hC b (hn.blt hm b hb)
    rw [this, List.map_id]
  refine ⟨hn.lb, hn.lc, hn.lm, hn.la, hn.nd, fun i hi => by rw [hC i hi]; exact hi, fun m hm => ⟨(hn.arg m hm).1, hn.blt hm⟩, fun m hm => err_nmK (hn.may _ (kT_mem hm)), fun m hm => hS _ (kT_mem hm), fun i c hi hc => ?_, fun c hc i hi => ?_, fun m hm b hb => ?_, hn.alt, ?_, hW, fun i j hi hj e => ?_, htd, fun p hp => ?_, fun s m hs => ?_, fun m hm _ => ?_⟩
  · rw [hM c hc, hC i hi]; simp
  · rw [hM c hc, List.mem_singleton] at hi; omega
  · rw [hC b (hn.blt hm b hb)]; exact hn.up m hm b hb trivial
  · have e : k.mb = (List.range k.ts.length).map fun i => [i] := by
      apply List.ext_getElem (by simp [hn.lm])
      intro i h1 h2
      have h3 : i < k.ts.length := by rw [← hn.lm]; exact h1
      have := hM i h3
      unfold Kl.M at this
      rw [gd_get h1] at this
      simp [this]
    unfold sumN
    rw [e]
    have h3 : ∀ l : List Nat, ((l.map fun i => [i]).map List.length).sum = l.length := by
      intro l
      induction l with
      | nil => rfl
      | cons a r ih => simp only [List.map_cons, List.sum_cons, List.length_cons, List.length_nil, ih]; omega
    rw [h3]
    simp
  · rw [hC i hi, hC j hj] at e; subst e; exact .refl _
  · obtain ⟨q, hq, e1, e2⟩ := hE p hp
    obtain ⟨g1, g2, _⟩ := htd q hq
    exact ⟨q.1, q.2, g1, g2, e1, e2, fun Q hQ => hQ.tdo q hq⟩
  · obtain ⟨hm, e⟩ := hn.ent s m hs
    refine ⟨hm, k.B m, e, rfl, fun j hj => Or.inl ?_⟩
    rw [hC _ (hn.blt hm _ (gd_mem hj))]
  · refine ⟨m, ?_, fun Q hQ => hQ.cls m m hm hm rfl⟩
    unfold Kl.sig
    rw [hS2 m hm]
    exact hn.has m hm
/-- Two that are the same already. -/
theorem jn_skip {a b : Nat} (h : JnI E S W k (td ++ [(a, b)]) P) (e : k.C a = k.C b) : JnI E S W k td P := by
  obtain ⟨ga, gb, gc⟩ := h.tsn (a, b) (by simp)
  have key : ∀ Q, GdQ k td Q → GdQ k (td ++ [(a, b)]) Q := fun Q hQ => ⟨hQ.sym, hQ.trans, hQ.cls, fun p hp => by
    rcases List.mem_append.1 hp with hp | hp
    · exact hQ.tdo p hp
    · rw [List.mem_singleton.1 hp]; exact hQ.cls a b ga gb e⟩
  refine { h with tsn := fun p hp => h.tsn p (by simp [hp]), giv := fun p hp => ?_, has := fun m hm hp => ?_ }
  · obtain ⟨x, y, h1, h2, h3, h4, h5⟩ := h.giv p hp
    exact ⟨x, y, h1, h2, h3, h4, fun Q hQ => h5 Q (key Q hQ)⟩
  · obtain ⟨x, h1, h2⟩ := h.has m hm hp
    exact ⟨x, h1, fun Q hQ => h2 Q (key Q hQ)⟩
/-- One class goes into another one. -/
def Kl.swal (k : Kl) (l m : Nat) : Kl := { k with cl := k.cl.map (fun c => if c = l then m else c), mb := (k.mb.set m (k.M m ++ k.M l)).set l [], ab := (k.ab.set m (k.A m ++ k.A l)).set l [] }
theorem swal_C (hl : k.cl.length = k.ts.length) {l m i : Nat} (hi : i < k.ts.length) : (k.swal l m).C i = if k.C i = l then m else k.C i := by
  show gd (k.cl.map _) 0 i = _
  rw [gd_map (d := 0) (by omega)]
  rfl
theorem swal_M (hl : k.mb.length = k.ts.length) {l m : Nat} (h1 : l < k.ts.length) (h2 : m < k.ts.length) (hne : l ≠ m) (c : Nat) : (k.swal l m).M c = if c = l then [] else if c = m then k.M m ++ k.M l else k.M c := by
  show gd ((k.mb.set m (k.M m ++ k.M l)).set l []) [] c = _
  by_cases hc : c = l
  · subst hc; rw [if_pos rfl, gd_set (by simp; omega)]
  · rw [if_neg hc, gd_set_ne (fun e => hc e.symm)]
    by_cases hm : c = m
    · subst hm; rw [if_pos rfl, gd_set (by omega)]
    · rw [if_neg hm, gd_set_ne (fun e => hm e.symm)]; rfl
theorem swal_A (hl : k.ab.length = k.ts.length) {l m : Nat} (h1 : l < k.ts.length) (h2 : m < k.ts.length) (hne : l ≠ m) (c : Nat) : (k.swal l m).A c = if c = l then [] else if c = m then k.A m ++ k.A l else k.A c := by
  show gd ((k.ab.set m (k.A m ++ k.A l)).set l []) [] c = _
  by_cases hc : c = l
  · subst hc; rw [if_pos rfl, gd_set (by simp; omega)]
  · rw [if_neg hc, gd_set_ne (fun e => hc e.symm)]
    by_cases hm : c = m
    · subst hm; rw [if_pos rfl, gd_set (by omega)]
    · rw [if_neg hm, gd_set_ne (fun e => hm e.symm)]; rfl
theorem sum_swal {L : List (List Nat)} {l m : Nat} (h1 : l < L.length) (h2 : m < L.length) (hne : l ≠ m) : sumN ((L.set m (gd L [] m ++ gd L [] l)).set l []) = sumN L := by
  have e1 := sumN_set (l := L) (i := m) (gd L [] m ++ gd L [] l) h2
  have e2 := sumN_set (l := L.set m (gd L [] m ++ gd L [] l)) (i := l) [] (by simpa using h1)
  rw [gd_set_ne (fun e => hne e.symm)] at e2
  simp only [List.length_append, List.length_nil] at e1 e2
  omega
theorem jn_swal {a b l m : Nat} (h : JnI E S W k (td ++ [(a, b)]) (fun _ => False)) (hlm : (l = k.C a ∧ m = k.C b) ∨ (l = k.C b ∧ m = k.C a)) (hne : l ≠ m) :
    JnI E S W (k.swal l m) td (fun x => x ∈ k.A l) ∧ (k.swal l m).cnt < k.cnt := by
  obtain ⟨ga, gb, gc⟩ := h.tsn (a, b) (by simp)
  simp only at ga gb gc
  have hl : l < k.ts.length := by rcases hlm with ⟨e, _⟩ | ⟨e, _⟩ <;> rw [e] <;> exact h.clt _ (by assumption)
  have hm : m < k.ts.length := by rcases hlm with ⟨_, e⟩ | ⟨_, e⟩ <;> rw [e] <;> exact h.clt _ (by assumption)
  have live_m : k.M m ≠ [] := by rcases hlm with ⟨_, e⟩ | ⟨_, e⟩ <;> rw [e] <;> exact h.live (by assumption)
  have live_l : k.M l ≠ [] := by rcases hlm with ⟨e, _⟩ | ⟨e, _⟩ <;> rw [e] <;> exact h.live (by assumption)
  have hC : ∀ i, i < k.ts.length → (k.swal l m).C i = if k.C i = l then m else k.C i := fun i hi => swal_C h.lc hi
  have hM := swal_M (k := k) h.lm hl hm hne
  have hA := swal_A (k := k) h.la hl hm hne
  have hT : (k.swal l m).T = k.T := rfl
  have hB : (k.swal l m).B = k.B := rfl
  have hsg : (k.swal l m).sg = k.sg := rfl
  have hz : (k.swal l m).ts = k.ts := rfl
  -- what is good behind it was good ahead of it
  have key : ∀ Q, GdQ (k.swal l m) td Q → GdQ k (td ++ [(a, b)]) Q := fun Q hQ => by
    have hab : Q a b := hQ.cls a b ga gb (by rw [hC a ga, hC b gb]; rcases hlm with ⟨e1, e2⟩ | ⟨e1, e2⟩ <;> subst e1 <;> subst e2 <;> simp)
    refine ⟨hQ.sym, hQ.trans, fun i j hi hj e => hQ.cls i j hi hj (by rw [hC i hi, hC j hj, e]), fun p hp => ?_⟩
    rcases List.mem_append.1 hp with hp | hp
    · exact hQ.tdo p hp
    · rw [List.mem_singleton.1 hp]; exact hab
  have cross : ∀ i j, i < k.ts.length → j < k.ts.length → k.C i = l → k.C j = m → Cg E S (k.T i) (k.T j) := fun i j hi hj e1 e2 => by
    rcases hlm with ⟨f1, f2⟩ | ⟨f1, f2⟩
    · exact ((h.snd i a hi ga (e1.trans f1)).trans gc).trans (h.snd b j gb hj (f2.symm.trans e2.symm))
    · exact ((h.snd i b hi gb (e1.trans f1)).trans gc.sym).trans (h.snd a j ga hj (f2.symm.trans e2.symm))
  refine ⟨{ lb := h.lb, lc := by simp [Kl.swal, h.lc], lm := by simp [Kl.swal, h.lm], la := by simp [Kl.swal, h.la], nd := h.nd, arg := h.arg, nm := h.nm, inS := h.inS, clt := fun i hi => ?_, mem := fun i c hi hc => ?_, mlt := fun c hc i hi => ?_, up := fun x hx y hy => ?_, alt := fun c hc x hx => ?_, ms := ?_, sa := ?_, snd := fun i j hi hj e => ?_, tsn := fun p hp => h.tsn p (by simp [hp]), giv := fun p hp => ?_, ent := fun s x hs => ?_, has := fun x hx hp => ?_ }, ?_⟩
  · rw [hC i hi]; split
    · exact hm
    · exact h.clt i hi
  · rw [hC i hi, hM c]
    have e1 := h.mem i l hi hl
    have e2 := h.mem i m hi hm
    have e3 := h.mem i c hi hc
    by_cases hcl : c = l
    · subst hcl
      rw [if_pos rfl]
      refine ⟨(fun x => by cases x), fun x => ?_⟩
      split at x
      · exact absurd x.symm hne
      · rename_i g; exact absurd x g
    · rw [if_neg hcl]
      by_cases hcm : c = m
      · subst hcm
        rw [if_pos rfl, List.mem_append, e2, e1]
        refine ⟨fun x => ?_, fun x => ?_⟩
        · rcases x with x | x
          · rw [if_neg (by rw [x]; exact fun q => hcl q)]; exact x
          · rw [if_pos x]
        · split at x
          · rename_i g; exact Or.inr g
          · exact Or.inl x
      · rw [if_neg hcm, e3]
        refine ⟨fun x => ?_, fun x => ?_⟩
        · rw [if_neg (by rw [x]; exact hcl)]; exact x
        · split at x
          · exact absurd x.symm hcm
          · exact x
  · rw [hM c] at hi
    split at hi
    · cases hi
    · split at hi
      · rcases List.mem_append.1 hi with g | g
        · exact h.mlt m hm i g
        · exact h.mlt l hl i g
      · exact h.mlt c hc i hi
  · have hyl := (h.arg x hx).2 y hy
    have hu := h.up x hx y hy
    rw [hC y hyl, hA]
    by_cases g : k.C y = l
    · rw [if_pos g, if_neg (fun q => hne q.symm), if_pos rfl]
      rw [g] at hu
      simp [hu]
    · rw [if_neg g, if_neg g]
      split
      · rename_i q; rw [q] at hu; simp [hu]
      · exact hu
  · rw [hA c] at hx
    split at hx
    · cases hx
    · split at hx
      · rcases List.mem_append.1 hx with g | g
        · exact h.alt m hm x g
        · exact h.alt l hl x g
      · exact h.alt c hc x hx
  · have e := sum_swal (L := k.mb) (l := l) (m := m) (by rw [h.lm]; exact hl) (by rw [h.lm]; exact hm) hne
    show sumN ((k.mb.set m (k.M m ++ k.M l)).set l []) ≤ k.ts.length
    have := h.ms
    unfold Kl.M
    omega
  · have e := sum_swal (L := k.ab) (l := l) (m := m) (by rw [h.la]; exact hl) (by rw [h.la]; exact hm) hne
    show sumN ((k.ab.set m (k.A m ++ k.A l)).set l []) ≤ W
    have := h.sa
    unfold Kl.A
    omega
  · rw [hC i hi, hC j hj] at e
    by_cases g1 : k.C i = l
    · by_cases g2 : k.C j = l
      · exact h.snd i j hi hj (g1.trans g2.symm)
      · rw [if_pos g1, if_neg g2] at e
        exact cross i j hi hj g1 e.symm
    · by_cases g2 : k.C j = l
      · rw [if_neg g1, if_pos g2] at e
        exact (cross j i hj hi g2 e).sym
      · rw [if_neg g1, if_neg g2] at e
        exact h.snd i j hi hj e
  · obtain ⟨x, y, h1, h2, h3, h4, h5⟩ := h.giv p hp
    exact ⟨x, y, h1, h2, h3, h4, fun Q hQ => h5 Q (key Q hQ)⟩
  · obtain ⟨hx, cs, e1, e2, e3⟩ := h.ent s x hs
    refine ⟨hx, cs, e1, e2, fun j hj => ?_⟩
    have hbl : gd (k.B x) 0 j < k.ts.length := (h.arg x hx).2 _ (gd_mem (by omega))
    show gd cs 0 j = (k.swal l m).C (gd (k.B x) 0 j) ∨ (gd cs 0 j < k.ts.length ∧ (k.swal l m).M (gd cs 0 j) = [])
    rcases e3 j hj with g | ⟨g1, g2⟩
    · rw [hC _ hbl, hM]
      by_cases q : k.C (gd (k.B x) 0 j) = l
      · rw [q] at g
        exact Or.inr ⟨by omega, by rw [if_pos g]⟩
      · exact Or.inl (by rw [if_neg q]; exact g)
    · refine Or.inr ⟨g1, ?_⟩
      rw [hM]
      split
      · rfl
      · split
        · rename_i q; rw [q] at g2; exact absurd g2 live_m
        · exact g2
  · have hno : ∀ y ∈ k.B x, k.C y ≠ l := fun y hy e => hp (by rw [← e]; exact h.up x hx y hy)
    have hsame : (k.swal l m).sig x = k.sig x := by
      unfold Kl.sig Kl.S
      rw [hT, hB]
      congr 1
      exact List.map_congr_left fun y hy => by rw [hC y ((h.arg x hx).2 y hy), if_neg (hno y hy)]
    obtain ⟨e, g1, g2⟩ := h.has x hx (fun f => f)
    exact ⟨e, by rw [hsg, hsame]; exact g1, fun Q hQ => g2 Q (key Q hQ)⟩
  · unfold Kl.cnt
    rw [hz]
    refine filter_ltK _ (fun c hc hq => ?_) ⟨l, List.mem_range.2 hl, ?_, ?_⟩
    · rw [hM] at hq
      split at hq
      · simp at hq
      · split at hq
        · rename_i g; rw [g]; simpa using live_m
        · exact hq
    · simpa using live_l
    · rw [hM, if_pos rfl]; rfl
/-- Another one has its sign. -/
theorem jn_other {n o : Nat} (h : JnI E S W k td P) (hn : n < k.ts.length) (hs : sgG k.sg (k.sig n) = some o) : JnI E S W k (td ++ [(n, o)]) (fun x => P x ∧ x ≠ n) := by
  obtain ⟨ho, cs, e1, e2, e3⟩ := h.ent _ _ hs
  obtain ⟨f1, f2⟩ := sgn_inj (h.nm n hn) (h.nm o ho) e1
  have key : ∀ Q, GdQ k (td ++ [(n, o)]) Q → GdQ k td Q := fun Q hQ => ⟨hQ.sym, hQ.trans, hQ.cls, fun p hp => hQ.tdo p (by simp [hp])⟩
  have hB : (k.B n).length = (k.B o).length := by rw [← e2, ← f2]; simp [Kl.S]
  have hc : Cg E S (k.T n) (k.T o) := by
    have a1 := (h.arg n hn).1
    have a2 := (h.arg o ho).1
    have s1 := h.inS n hn
    have s2 := h.inS o ho
    have key2 : ∀ (u v : Tm), u.args = (k.B n).map k.T → v.args = (k.B o).map k.T → S u → S v → u.name = v.name → Cg E S u v := ?_
    · exact key2 _ _ a1 a2 s1 s2 f1
    clear a1 a2 s1 s2 f1
    rintro ⟨x, l⟩ ⟨y, r⟩ a1 a2 s1 s2 f1
    simp only at a1 a2 f1
    subst f1
    refine .cong s1 s2 (by rw [a1, a2]; simp [hB]) fun j h1 h2 => ?_
    have h3 : j < (k.B n).length := by rw [a1] at h1; simpa using h1
    have h4 : j < (k.B o).length := by omega
    have b1 : (k.B n)[j] < k.ts.length := (h.arg n hn).2 _ (List.getElem_mem h3)
    have b2 : (k.B o)[j] < k.ts.length := (h.arg o ho).2 _ (List.getElem_mem h4)
    have q1 : l[j] = k.T (k.B n)[j] := by simp [a1]
    have q2 : r[j] = k.T (k.B o)[j] := by simp [a2]
    rw [q1, q2]
    refine h.snd _ _ b1 b2 ?_
    have hj : j < cs.length := by omega
    have hcj : gd cs 0 j = k.C (k.B n)[j] := by rw [← f2]; unfold Kl.S; rw [gd_map (d := 0) h3, gd_get h3]
    rcases e3 j hj with g | ⟨_, g⟩
    · rw [← hcj, g, gd_get h4]
    · rw [hcj] at g
      exact absurd g (h.live b1)
  refine { h with tsn := fun p hp => ?_, giv := fun p hp => ?_, has := fun x hx hp => ?_ }
  · rcases List.mem_append.1 hp with hp | hp
    · exact h.tsn p hp
    · rw [List.mem_singleton.1 hp]; exact ⟨hn, ho, hc⟩
  · obtain ⟨x, y, h1, h2, h3, h4, h5⟩ := h.giv p hp
    exact ⟨x, y, h1, h2, h3, h4, fun Q hQ => h5 Q (key Q hQ)⟩
  · by_cases hxn : x = n
    · subst hxn
      exact ⟨o, hs, fun Q hQ => hQ.tdo (x, o) (by simp)⟩
    · obtain ⟨e, g1, g2⟩ := h.has x hx (fun f => hp ⟨f, hxn⟩)
      exact ⟨e, g1, fun Q hQ => g2 Q (key Q hQ)⟩
/-- Its sign is new. -/
def Kl.signed (k : Kl) (n : Nat) : Kl := { k with sg := k.sg ++ [(k.sig n, n)] }
theorem jn_new {n : Nat} (h : JnI E S W k td P) (hn : n < k.ts.length) (hs : sgG k.sg (k.sig n) = none) : JnI E S W (k.signed n) td (fun x => P x ∧ x ≠ n) := by
  have key : ∀ Q, GdQ (k.signed n) td Q → GdQ k td Q := fun Q hQ => ⟨hQ.sym, hQ.trans, hQ.cls, hQ.tdo⟩
  have hg : ∀ s, sgG (k.signed n).sg s = (sgG k.sg s).or (if k.sig n = s then some n else none) := fun s => by
    show sgG (k.sg ++ [(k.sig n, n)]) s = _
    rw [sgG_app, sgG_one]
  have hgig : ∀ x, (k.signed n).sig x = k.sig x := fun x => rfl
  refine { h with giv := fun p hp => ?_, ent := fun s m hm => ?_, has := fun x hx hp => ?_ }
  · obtain ⟨x, y, h1, h2, h3, h4, h5⟩ := h.giv p hp
    exact ⟨x, y, h1, h2, h3, h4, fun Q hQ => h5 Q (key Q hQ)⟩
  · rw [hg] at hm
    cases h1 : sgG k.sg s with
    | some m1 =>
      rw [h1] at hm
      cases hm
      exact h.ent s _ h1
    | none =>
      rw [h1, Option.none_or] at hm
      split at hm
      · rename_i e
        cases hm
        refine ⟨hn, k.S n, e.symm, by simp [Kl.S]; rfl, fun j hj => Or.inl ?_⟩
        have hj2 : j < (k.B n).length := by simpa [Kl.S] using hj
        unfold Kl.S
        rw [gd_map (d := 0) hj2]
        rfl
      · cases hm
  · by_cases hxn : x = n
    · subst hxn
      exact ⟨x, by rw [hg, hgig, hs, Option.none_or, if_pos rfl], fun Q hQ => hQ.cls x x hx hx rfl⟩
    · obtain ⟨e, g1, g2⟩ := h.has x hx (fun f => hp ⟨f, hxn⟩)
      exact ⟨e, by rw [hg, hgig, g1]; rfl, fun Q hQ => g2 Q (key Q hQ)⟩
theorem JnI.less {P' : Nat → Prop} (h : JnI E S W k td P) (hp : ∀ x, P x → P' x) : JnI E S W k td P' := { h with has := fun x hx hn => h.has x hx fun f => hn (hp x f) }
end
/-- When nothing is left to do. -/
theorem jn_done {E : List Pr} {W : Nat} {k : Kl} (h : JnI E (· ∈ k.ts) W k [] (fun _ => False)) : Done E k.ts k.cl := by
  have hq : GdQ k [] fun i j => k.C i = k.C j := ⟨fun e => e.symm, fun e f => e.trans f, fun _ _ _ _ e => e, by simp⟩
  have hT : ∀ i (hi : i < k.ts.length), k.ts[i] = k.T i := fun i hi => (gd_get hi).symm
  have hC : ∀ i (hi : i < k.cl.length), k.cl[i] = k.C i := fun i hi => (gd_get hi).symm
  have hl := h.lc
  refine ⟨fun i j h1 h2 g1 g2 e => ?_, fun p hp => ?_, fun i j h1 h2 g1 g2 e1 e2 e3 => ?_⟩
  · rw [hC i g1, hC j g2] at e
    rw [hT i h1, hT j h2]
    exact h.snd i j h1 h2 e
  · obtain ⟨a, b, h1, h2, h3, h4, h5⟩ := h.giv p hp
    exact ⟨a, b, h1, h2, by omega, by omega, by rw [hT a h1, h3], by rw [hT b h2, h4], by rw [hC, hC]; exact h5 _ hq⟩
  · rw [hC i g1, hC j g2]
    simp only [hT i h1, hT j h2] at e1 e2 e3
    have a1 := (h.arg i h1).1
    have a2 := (h.arg j h2).1
    have hs : k.sig i = k.sig j := by
      unfold Kl.sig Kl.S
      rw [e1]
      congr 1
      apply List.ext_getElem
      · have := e2
        rw [a1, a2] at this
        simpa using this
      · intro q q1 q2
        simp only [List.length_map] at q1 q2
        have r1 : q < (k.T i).args.length := by rw [a1]; simpa using q1
        have r2 : q < (k.T j).args.length := by rw [a2]; simpa using q2
        obtain ⟨x, y, h3, h4, g3, g4, e4, e5, e6⟩ := e3 q r1 r2
        have b1 := (h.arg i h1).2 _ (List.getElem_mem q1)
        have b2 := (h.arg j h2).2 _ (List.getElem_mem q2)
        have c1 : (k.T i).args[q] = k.T (k.B i)[q] := by simp [a1]
        have c2 : (k.T j).args[q] = k.T (k.B j)[q] := by simp [a2]
        rw [c1, hT x h3] at e4
        rw [c2, hT y h4] at e5
        rw [hC x g3, hC y g4] at e6
        have d1 := kT_inj h.nd h3 b1 e4
        have d2 := kT_inj h.nd h4 b2 e5
        subst d1
        subst d2
        simpa using e6
    obtain ⟨e, f1, f2⟩ := h.has i h1 (fun f => f)
    obtain ⟨e', f3, f4⟩ := h.has j h2 (fun f => f)
    rw [hs, f3] at f1
    cases f1
    exact (f2 _ hq).trans (f4 _ hq).symm
end Go.Proofs.YtdmaijmglblccaaGreatDoor

/- Maps by texts: looked into, and set where the key is there. -/
namespace Go.Proofs.YtdmaijmglblccaaGreatDoor
open Go.RowKit
set_option linter.unusedSimpArgs false
set_option linter.unusedVariables false

theorem run_look1 {P : Program} {w : World} {T kt et : TypeId} {r : Nat} {L : List (ByteArray × Value)} {z : Value} (hm : P.underlying T = some (.map kt et)) (hk : P.underlying kt = some .string) (hz : (zeroValue et).run P w = .ok z w) (h : MapAt w r L) (n : ByteArray) :
    (Instr.lookup T (.map (some r)) (.string n) false).run P w = .ok ((mapGet L n).getD z) w := by
  obtain ⟨es, clk, hb, he, hstm⟩ := h
  obtain ⟨h1, h2⟩ := findNow_map n es.toList L 0 he
  have hc : ∀ b, (Instr.checkKey b 10000 kt (.string n)).run P w = .ok () w := fun b => MapKept.run_checkKey (k := .string n) hk (by simp [MapKept.IsKey]) b 9999
  cases hg : mapGet L n with
  | none => simp [Instr.lookup, run_underlying hm, MapKept.run_getObj_map hb, hc, MapKept.run_findKey hk (h1 hg), Result.andThen, hz]
  | some v =>
    obtain ⟨j, hj⟩ := h2 v hg
    simp [Instr.lookup, run_underlying hm, MapKept.run_getObj_map hb, hc, MapKept.run_findKey hk hj, Result.andThen]

end Go.Proofs.YtdmaijmglblccaaGreatDoor

/- Memory: closure's classes: rows of one's own, each known by a number. -/
namespace Go.Proofs.YtdmaijmglblccaaGreatDoor
open Go.RowKit
set_option linter.unusedSimpArgs false
set_option linter.unusedVariables false
set_option maxRecDepth 8000

/-- Whose a block is. -/
abbrev Oid := Nat × Nat
/-- One that is none of the classes'. -/
abbrev eX : Oid := (0, 0)
/-- What stands fast: blocks of other owners. -/
structure Fr (I : Oid → Prop) (o : Nat → Oid) (w : World) (o' : Nat → Oid) (w' : World) : Prop where
  os : w'.os = w.os
  tape : w'.tape = w.tape
  output : w'.output = w.output
  size : w.heap.size ≤ w'.heap.size
  blk : ∀ b, b < w.heap.size → ¬ I (o b) → w'.heap[b]? = w.heap[b]? ∧ o' b = o b
theorem Fr.refl (I : Oid → Prop) (o : Nat → Oid) (w : World) : Fr I o w o w := ⟨rfl, rfl, rfl, Nat.le_refl _, fun _ _ _ => ⟨rfl, rfl⟩⟩
theorem Fr.mono {I J : Oid → Prop} {o o' : Nat → Oid} {w w' : World} (h : Fr I o w o' w') (hi : ∀ i, I i → J i) : Fr J o w o' w' := ⟨h.os, h.tape, h.output, h.size, fun b hb hn => h.blk b hb fun g => hn (hi _ g)⟩
theorem Fr.trans {I : Oid → Prop} {o o1 o2 : Nat → Oid} {w w1 w2 : World} (h : Fr I o w o1 w1) (k : Fr I o1 w1 o2 w2) : Fr I o w o2 w2 :=
  ⟨k.os.trans h.os, k.tape.trans h.tape, k.output.trans h.output, Nat.le_trans h.size k.size, fun b hb hn => by
    obtain ⟨e1, e2⟩ := h.blk b hb hn
    obtain ⟨e3, e4⟩ := k.blk b (Nat.lt_of_lt_of_le hb h.size) (by rw [e2]; exact hn)
    exact ⟨e3.trans e1, e4.trans e2⟩⟩
theorem Fr.below {I : Oid → Prop} {o : Nat → Oid} {w w' : World} (h : Below w.heap.size w w') : Fr I o w o w' := ⟨h.os, h.tape, h.output, h.size, fun b hb _ => ⟨h.block b hb, rfl⟩⟩
/-- What a call leaves: blocks that are none of the classes'. -/
def Exo (o : Nat → Oid) (w : World) (o' : Nat → Oid) (w' : World) : Prop := w'.os = w.os ∧ w'.tape = w.tape ∧ w'.output = w.output ∧ w.heap.size ≤ w'.heap.size ∧ ∀ b, b < w.heap.size → o b = eX → w'.heap[b]? = w.heap[b]? ∧ o' b = eX
theorem Exo.refl (o : Nat → Oid) (w : World) : Exo o w o w := ⟨rfl, rfl, rfl, Nat.le_refl _, fun _ _ h => ⟨rfl, h⟩⟩
theorem Exo.trans {o o1 o2 : Nat → Oid} {w w1 w2 : World} (h : Exo o w o1 w1) (k : Exo o1 w1 o2 w2) : Exo o w o2 w2 :=
  ⟨k.1.trans h.1, k.2.1.trans h.2.1, k.2.2.1.trans h.2.2.1, Nat.le_trans h.2.2.2.1 k.2.2.2.1, fun b hb he => by
    obtain ⟨e1, e2⟩ := h.2.2.2.2 b hb he
    obtain ⟨e3, e4⟩ := k.2.2.2.2 b (Nat.lt_of_lt_of_le hb h.2.2.2.1) e2
    exact ⟨e3.trans e1, e4⟩⟩
theorem Fr.exo {I : Oid → Prop} {o o' : Nat → Oid} {w w' : World} (h : Fr I o w o' w') (hn : ¬ I eX) : Exo o w o' w' :=
  ⟨h.os, h.tape, h.output, h.size, fun b hb he => by
    obtain ⟨e1, e2⟩ := h.blk b hb (by rw [he]; exact hn)
    exact ⟨e1, e2.trans he⟩⟩
theorem Exo.below {o o' : Nat → Oid} {w w' : World} (h : Below w.heap.size w w') (ho : ∀ b, b < w.heap.size → o' b = o b) : Exo o w o' w' := ⟨h.os, h.tape, h.output, h.size, fun b hb he => ⟨h.block b hb, (ho b hb).trans he⟩⟩
/-- A row of one's own, and its owner. -/
def Rwo (w : World) (N : Nat) (o : Nat → Oid) (id : Oid) (T e : Nat) (v : Value) (n : Nat) (xs : List Value) : Prop := w.ownsRow N T e v n xs ∧ ∀ b, v.ownBlock = some b → o b = id
theorem Rwo.keep {w w' : World} {N : Nat} {o o' : Nat → Oid} {id : Oid} {T e : Nat} {v : Value} {n : Nat} {xs : List Value} (h : Rwo w N o id T e v n xs) (hk : ∀ b, b < w.heap.size → o b = id → w'.heap[b]? = w.heap[b]? ∧ o' b = id) : Rwo w' N o' id T e v n xs :=
  ⟨ownsRow_at h.1 fun g hg => (hk g (h.1.lt g hg).2 (h.2 g hg)).1, fun b hb => (hk b (h.1.lt b hb).2 (h.2 b hb)).2⟩
theorem Rwo.fr {w w' : World} {N : Nat} {I : Oid → Prop} {o o' : Nat → Oid} {id : Oid} {T e : Nat} {v : Value} {n : Nat} {xs : List Value} (h : Rwo w N o id T e v n xs) (f : Fr I o w o' w') (hn : ¬ I id) : Rwo w' N o' id T e v n xs :=
  h.keep fun b hb he => by
    obtain ⟨e1, e2⟩ := f.blk b hb (by rw [he]; exact hn)
    exact ⟨e1, e2.trans he⟩
theorem Rwo.later {w w' : World} {N : Nat} {o : Nat → Oid} {id : Oid} {T e : Nat} {v : Value} {n : Nat} {xs : List Value} (h : Rwo w N o id T e v n xs) (hb : Below w.heap.size w w') : Rwo w' N o id T e v n xs := h.keep fun b hb2 he => ⟨hb.block b hb2, he⟩
theorem Rwo.shape {w : World} {N : Nat} {o : Nat → Oid} {id : Oid} {T e : Nat} {v : Value} {n : Nat} {xs : List Value} (h : Rwo w N o id T e v n xs) : ∃ a c, v = .slice a n c := by
  rcases h.1.2 with ⟨hv, h0⟩ | ⟨g, cap, cur, hv, _⟩
  · exact ⟨none, 0, by rw [hv, h0]⟩
  · exact ⟨_, _, hv⟩
theorem Rwo.nil (w : World) (N : Nat) (o : Nat → Oid) (id : Oid) (T e : Nat) : Rwo w N o id T e (.slice none 0 0) 0 [] := ⟨World.ownsRow_nil w N T e, fun b hb => by simp [Value.ownBlock] at hb⟩
/-- A cell of it. -/
theorem Rwo.at {w : World} {N : Nat} {o : Nat → Oid} {id : Oid} {T : Nat} {a : Option Addr} {n c : Nat} {xs : List Value} (h : Rwo w N o id T 1 (.slice a n c) n xs) {i : Nat} (hi : i < n) : ∃ g u, a = some ⟨g, 0, none⟩ ∧ xs[i]? = some u ∧ w.cell? ⟨g, i, none⟩ = some u ∧ w.frozen? ⟨g, i, none⟩ = false ∧ o g = id ∧ g < w.heap.size ∧ N ≤ g := by
  obtain ⟨g, cap, hv, hg, hlt⟩ := h.1.form (by omega)
  obtain ⟨rfl, _, rfl⟩ : a = some ⟨g, 0, none⟩ ∧ True ∧ c = cap := by cases hv; exact ⟨rfl, trivial, rfl⟩
  have hxl : xs.length = n := by simpa using h.1.1
  refine ⟨g, xs[i], rfl, List.getElem?_eq_getElem (by omega), ?_, h.1.frozenAt i, h.2 g rfl, hlt, hg⟩
  rw [h.1.cellAt i (by omega), List.getElem?_eq_getElem (by omega)]
/-- Whose a row's block is from now on. -/
def upV (o : Nat → Oid) (v : Value) (id : Oid) : Nat → Oid := fun b => if v.ownBlock = some b then id else o b
theorem upV_yes {o : Nat → Oid} {v : Value} {id : Oid} {b : Nat} (h : v.ownBlock = some b) : upV o v id b = id := if_pos h
theorem upV_no {o : Nat → Oid} {v : Value} {id : Oid} {b : Nat} (h : v.ownBlock ≠ some b) : upV o v id b = o b := if_neg h
theorem Rwo.give {w : World} {N : Nat} {o : Nat → Oid} {id id' : Oid} {T e : Nat} {v : Value} {n : Nat} {xs : List Value} (h : Rwo w N o id T e v n xs) : Rwo w N (upV o v id') id' T e v n xs := ⟨h.1, fun b hb => upV_yes hb⟩
theorem Rwo.other {w : World} {N : Nat} {o : Nat → Oid} {id i1 i2 : Oid} {T e : Nat} {v u : Value} {n : Nat} {xs : List Value} (h : Rwo w N o id T e v n xs) (hu : ∀ b, u.ownBlock = some b → o b = i1) (hne : id ≠ i1) : Rwo w N (upV o u i2) id T e v n xs :=
  ⟨h.1, fun b hb => by
    rw [upV_no]
    · exact h.2 b hb
    · intro e
      exact hne ((h.2 b hb).symm.trans (hu b e))⟩
/-- Numbers as values. -/
abbrev iV (n : Nat) : Value := .int .i64 (n : Int)
def iL (l : List Nat) : List Value := l.map iV
theorem iL_len (l : List Nat) : (iL l).length = l.length := by simp [iL]
theorem iL_at {l : List Nat} {i : Nat} {u : Value} (h : (iL l)[i]? = some u) : u = iV (gd l 0 i) := by
  unfold iL at h
  rw [List.getElem?_map] at h
  unfold gd
  cases hl : l[i]? with
  | none => rw [hl] at h; cases h
  | some x => rw [hl] at h; cases h; rfl
/-- One more, in one cell. -/
theorem app_cell {w : World} {N : Nat} {o : Nat → Oid} {id : Oid} {TL T by_ : Nat} {z : Value} {v : Value} {xs : List Value} (hT : Tryz.prog.underlying TL = some (.slice T)) (hinfo : (Tryz.prog.info? T).map (fun i => (i.zero, i.size, i.bytes)) = some (some z, 1, by_)) (hz : z.cells.size = 1) (hby : by_ ≤ 100)
    (h : Rwo w N o id T 1 v xs.length xs) (hN : N ≤ w.heap.size) (hl : xs.length ≤ 1000000) (x : Value) (hx : x.oneCell' = true) :
    ∃ g cap w3, (Builtin.append_ #[TL, TL] TL #[v, .slice (some ⟨w.heap.size, 0, none⟩) 1 1]).run Tryz.prog (w.alloc (.cells #[x] T)) = .ok (.slice (some ⟨g, 0, none⟩) (xs.length + 1) cap) w3 ∧
      Rwo w3 N (upV o (.slice (some ⟨g, 0, none⟩) (xs.length + 1) cap) id) id T 1 (.slice (some ⟨g, 0, none⟩) (xs.length + 1) cap) (xs ++ [x]).length (xs ++ [x]) ∧ Fr (fun i => i = id) o w (upV o (.slice (some ⟨g, 0, none⟩) (xs.length + 1) cap) id) w3 := by
  obtain ⟨i0, hi, hz0, hz1, hz2⟩ := info_parts hinfo
  obtain ⟨g, cap, w3, hr, ho, hg, hat, _⟩ := run_append_lies (P := Tryz.prog) (w := w.alloc (.cells #[x] T)) TL TL N T i0 _ 1 by_ hT hi hz0 hz1 hz2 hz (by decide) v xs.length xs (h.1.alloc _) ⟨w.heap.size, 0, none⟩ 1 1 [x] rfl (World.news_of_block (cs := #[x]) (heap_alloc_new w _)) (by simpa using hx) (by omega) (by unfold maxLen; omega) (by have : (xs.length + 1) * by_ ≤ 1000001 * 100 := Nat.mul_le_mul (by omega) hby; omega) (by simp; omega) _ rfl
  refine ⟨g, cap, w3, hr, ⟨by simpa using ho, fun b hb => upV_yes hb⟩, ⟨hg.os, hg.tape, hg.output, Nat.le_trans (by simp) hg.size, fun b hb hn => ?_⟩⟩
  have hne : v.ownBlock ≠ some b := fun e => hn (h.2 b e)
  have hgb : g ≠ b := fun e => by
    subst e
    rcases hat with e | e
    · exact hne e
    · rw [World.size_alloc] at e; omega
  refine ⟨by rw [hg.block b (by simp; omega) (fun e => hne e.symm), Below.heap_alloc _ _ _ hb], upV_no (by simpa [Value.ownBlock] using hgb)⟩
/-- A store into a row. -/
theorem Rwo.put {w : World} {N : Nat} {o : Nat → Oid} {id : Oid} {T g n c : Nat} {xs : List Value} (h : Rwo w N o id T 1 (.slice (some ⟨g, 0, none⟩) n c) n xs) (i : Nat) (u : Value) : Rwo (w.setCell ⟨g, i, none⟩ u) N o id T 1 (.slice (some ⟨g, 0, none⟩) n c) n (xs.set i u) ∧ Fr (fun j => j = id) o w o (w.setCell ⟨g, i, none⟩ u) := by
  obtain ⟨h1, h2⟩ := h.1.stored i u
  refine ⟨⟨h1, h.2⟩, ⟨h2.os, h2.tape, h2.output, h2.size, fun b hb hn => ⟨?_, rfl⟩⟩⟩
  exact h2.block b hb fun e => hn (by cases e; exact h.2 g rfl)
theorem fr_box {o : Nat → Oid} {w : World} {B : Nat} {id : Oid} (hB : o B = id) (j : Nat) (u : Value) : Fr (fun i => i = id) o w o (w.setCell ⟨B, j, none⟩ u) :=
  ⟨rfl, rfl, rfl, by simp [World.setCell], fun b hb hn => ⟨Below.heap_setCell _ _ _ _ (by intro e; exact hn (by rw [← hB]; simp at e; rw [e])), rfl⟩⟩

/-- A term and where it lies. -/
abbrev Tc := Tm × Option Addr × Nat
def flatT : List Tc → List Value
  | [] => []
  | c :: r => .string c.1.name :: .slice c.2.1 c.1.args.length c.2.2 :: flatT r
theorem flatT_len : ∀ l : List Tc, (flatT l).length = l.length * 2
  | [] => rfl
  | c :: r => by simp only [flatT, List.length_cons, flatT_len r]; omega
theorem flatT_app : ∀ (a b : List Tc), flatT (a ++ b) = flatT a ++ flatT b
  | [], b => rfl
  | c :: r, b => by simp [flatT, flatT_app r b]
theorem flatT_get : ∀ (l : List Tc) (i : Nat) (h : i < l.length), (flatT l)[i * 2]? = some (.string l[i].1.name) ∧ (flatT l)[i * 2 + 1]? = some (.slice l[i].2.1 l[i].1.args.length l[i].2.2)
  | c :: r, 0, _ => ⟨rfl, rfl⟩
  | c :: r, i + 1, h => by
    have := flatT_get r i (by simpa using h)
    rw [show (i + 1) * 2 = i * 2 + 1 + 1 by omega]
    simpa [flatT] using this
/-- Where the rows lie. -/
structure Km where
  v0 : Value
  v1 : Value
  v2 : Value
  v3 : Value
  v4 : Value
  cs : List Tc
  vb : List Value
  vm : List Value
  va : List Value
abbrev nV : Value := .slice none 0 0
def sgV (l : List (ByteArray × Nat)) : List (ByteArray × Value) := l.map fun p => (p.1, iV p.2)
/-- The classes in memory. -/
structure KlAt (N B r : Nat) (X : Nat → Prop) (w : World) (o : Nat → Oid) (k : Kl) (m : Km) : Prop where
  box : Blk w B #[m.v0, m.v1, m.v2, m.v3, m.v4, .map (some r)] 65
  map : MapAt w r (sgV k.sg)
  nB : B < N
  nr : r < N
  nN : N ≤ w.heap.size
  oB : o B = (1, 0)
  oR : o r = (2, 0)
  r0 : Rwo w N o (3, 0) 25 2 m.v0 m.cs.length (flatT m.cs)
  ts : m.cs.map (·.1) = k.ts
  tx : ∀ c ∈ m.cs, Sl w X c.2.1 c.1.args
  hX : ∀ b, X b → b < w.heap.size ∧ o b = eX
  r1 : Rwo w N o (4, 0) 45 1 m.v1 m.vb.length m.vb
  r2 : Rwo w N o (5, 0) 3 1 m.v2 (iL k.cl).length (iL k.cl)
  r3 : Rwo w N o (6, 0) 45 1 m.v3 m.vm.length m.vm
  r4 : Rwo w N o (7, 0) 45 1 m.v4 m.va.length m.va
  l1 : m.vb.length = k.bl.length
  l3 : m.vm.length = k.mb.length
  l4 : m.va.length = k.ab.length
  i1 : ∀ i, i < k.bl.length → Rwo w N o (8, i) 3 1 (gd m.vb nV i) (iL (k.B i)).length (iL (k.B i))
  i3 : ∀ i, i < k.mb.length → Rwo w N o (9, i) 3 1 (gd m.vm nV i) (iL (k.M i)).length (iL (k.M i))
  i4 : ∀ i, i < k.ab.length → Rwo w N o (10, i) 3 1 (gd m.va nV i) (iL (k.A i)).length (iL (k.A i))
/-- What is none of theirs has changed, or is new. -/
theorem KlAt.mv {N B r : Nat} {X : Nat → Prop} {w w' : World} {o o' : Nat → Oid} {k : Kl} {m : Km} (h : KlAt N B r X w o k m) (hz : w.heap.size ≤ w'.heap.size) (hk : ∀ b, b < w.heap.size → (o b ≠ eX ∨ X b) → w'.heap[b]? = w.heap[b]? ∧ o' b = o b) : KlAt N B r X w' o' k m := by
  have kk : ∀ {id : Oid} {T e : Nat} {v : Value} {n : Nat} {xs : List Value}, Rwo w N o id T e v n xs → id ≠ eX → Rwo w' N o' id T e v n xs := fun h hne => h.keep fun b hb he => by
    obtain ⟨e1, e2⟩ := hk b hb (Or.inl (by rw [he]; exact hne))
    exact ⟨e1, e2.trans he⟩
  have hB := hk B h.box.lt (Or.inl (by rw [h.oB]; decide))
  have hR := hk r h.map.lt (Or.inl (by rw [h.oR]; decide))
  exact ⟨hB.1.trans h.box, h.map.kept hR.1, h.nB, h.nr, Nat.le_trans h.nN hz, hB.2.trans h.oB, hR.2.trans h.oR, kk h.r0 (by decide), h.ts, fun c hc => (h.tx c hc).kept fun b hb => (hk b (h.hX b hb).1 (Or.inr hb)).1, fun b hb => ⟨Nat.lt_of_lt_of_le (h.hX b hb).1 hz, (hk b (h.hX b hb).1 (Or.inr hb)).2.trans (h.hX b hb).2⟩,
    kk h.r1 (by decide), kk h.r2 (by decide), kk h.r3 (by decide), kk h.r4 (by decide), h.l1, h.l3, h.l4, fun i hi => kk (h.i1 i hi) (by simp), fun i hi => kk (h.i3 i hi) (by simp), fun i hi => kk (h.i4 i hi) (by simp)⟩
theorem KlAt.later {N B r : Nat} {X : Nat → Prop} {w w' : World} {o : Nat → Oid} {k : Kl} {m : Km} (h : KlAt N B r X w o k m) (hb : Below w.heap.size w w') : KlAt N B r X w' o k m := h.mv hb.size fun b hb2 _ => ⟨hb.block b hb2, rfl⟩
theorem KlAt.fresh {N B r : Nat} {X : Nat → Prop} {w w' : World} {o o' : Nat → Oid} {k : Kl} {m : Km} (h : KlAt N B r X w o k m) (hb : Below w.heap.size w w') (ho : ∀ b, b < w.heap.size → o' b = o b) : KlAt N B r X w' o' k m := h.mv hb.size fun b hb2 _ => ⟨hb.block b hb2, ho b hb2⟩
/-- One more row in bl. -/
theorem KlAt.push_bl {N B r : Nat} {X : Nat → Prop} {w : World} {o : Nat → Oid} {k : Kl} {m : Km} (h : KlAt N B r X w o k m) (hl : k.bl.length ≤ 1000000) (lv : Value) (bs : List Nat) (hv : Rwo w N o eX 3 1 lv (iL bs).length (iL bs)) (hnX : ∀ b, lv.ownBlock = some b → ¬ X b) (hone : lv.oneCell' = true) :
    ∃ g cap w3 o', (Builtin.append_ #[62, 62] 62 #[m.v1, .slice (some ⟨w.heap.size, 0, none⟩) 1 1]).run Tryz.prog (w.alloc (.cells #[lv] 45)) = .ok (.slice (some ⟨g, 0, none⟩) (k.bl.length + 1) cap) w3 ∧ Blk w3 B #[m.v0, m.v1, m.v2, m.v3, m.v4, .map (some r)] 65 ∧
      KlAt N B r X (w3.setCell ⟨B, 1, none⟩ (.slice (some ⟨g, 0, none⟩) (k.bl.length + 1) cap)) o' { k with bl := k.bl ++ [bs] } { m with v1 := .slice (some ⟨g, 0, none⟩) (k.bl.length + 1) cap, vb := m.vb ++ [lv] } ∧
      Fr (fun i => i = (4, 0) ∨ i = (1, 0) ∨ i = eX) o w o' (w3.setCell ⟨B, 1, none⟩ (.slice (some ⟨g, 0, none⟩) (k.bl.length + 1) cap)) ∧ (∀ b, b < w.heap.size → o b = eX → lv.ownBlock ≠ some b → (w3.setCell ⟨B, 1, none⟩ (.slice (some ⟨g, 0, none⟩) (k.bl.length + 1) cap)).heap[b]? = w.heap[b]? ∧ o' b = eX) := by
  have hll := h.l1
  obtain ⟨g, cap, w3, hr, ho, hf⟩ := app_cell (id := (4, 0)) Tryz.underlying62 Tryz.infoInts rfl (by decide) h.r1 h.nN (by omega) lv hone
  rw [hll] at hr ho hf
  have hB3 : Blk w3 B #[m.v0, m.v1, m.v2, m.v3, m.v4, .map (some r)] 65 := (hf.blk B h.box.lt (by rw [h.oB]; simp)).1.trans h.box
  have oB3 : upV o (.slice (some ⟨g, 0, none⟩) (k.bl.length + 1) cap) (4, 0) B = (1, 0) := (hf.blk B h.box.lt (by rw [h.oB]; simp)).2.trans h.oB
  have hf2 : Fr (fun i => i = (4, 0) ∨ i = (1, 0)) o w _ (w3.setCell ⟨B, 1, none⟩ (.slice (some ⟨g, 0, none⟩) (k.bl.length + 1) cap)) := (hf.mono fun i hi => Or.inl hi).trans ((fr_box oB3 1 _).mono fun i hi => Or.inr hi)
  have hlv := hv.fr hf2 (by simp)
  have hgb : g ≠ B := fun e => by
    have h1 := ho.2 g rfl
    have h2 := oB3
    rw [← e] at h2
    rw [h1] at h2
    cases h2
  have ho2 := ho.fr (fr_box (B := B) oB3 1 (.slice (some ⟨g, 0, none⟩) (k.bl.length + 1) cap)) (by simp)
  refine ⟨g, cap, w3, upV (upV o (.slice (some ⟨g, 0, none⟩) (k.bl.length + 1) cap) (4, 0)) lv (8, k.bl.length), hr, hB3, ?_, ?_, ?_⟩
  · have oth : ∀ {id : Oid} {T e : Nat} {v : Value} {n : Nat} {xs : List Value}, Rwo w N o id T e v n xs → id ≠ (4, 0) → id ≠ (1, 0) → id ≠ eX → Rwo (w3.setCell ⟨B, 1, none⟩ (.slice (some ⟨g, 0, none⟩) (k.bl.length + 1) cap)) N (upV (upV o (.slice (some ⟨g, 0, none⟩) (k.bl.length + 1) cap) (4, 0)) lv (8, k.bl.length)) id T e v n xs := fun hh h1 h2 h3 => (hh.fr hf2 (by rintro (e | e); exact h1 e; exact h2 e)).other hlv.2 h3
    have hbb := hB3.set 1 (.slice (some ⟨g, 0, none⟩) (k.bl.length + 1) cap)
    have notlv : ∀ b, b < w.heap.size → o b ≠ eX → lv.ownBlock ≠ some b := fun b hb hne e => hne (hv.2 b e)
    have hRr := hf2.blk r h.map.lt (by rw [h.oR]; simp)
    refine ⟨by simpa using hbb, h.map.kept hRr.1, h.nB, h.nr, Nat.le_trans h.nN hf2.size, ?_, ?_, oth h.r0 (by decide) (by decide) (by decide), h.ts, fun c hc => (h.tx c hc).kept fun b hb => (hf2.blk b (h.hX b hb).1 (by rw [(h.hX b hb).2]; simp)).1, fun b hb => ⟨Nat.lt_of_lt_of_le (h.hX b hb).1 hf2.size, ?_⟩, ho2.other hlv.2 (by decide), oth h.r2 (by decide) (by decide) (by decide), oth h.r3 (by decide) (by decide) (by decide), oth h.r4 (by decide) (by decide) (by decide), by simp [hll], h.l3, h.l4, ?_, fun i hi => oth (h.i3 i hi) (by simp) (by simp) (by simp), fun i hi => oth (h.i4 i hi) (by simp) (by simp) (by simp)⟩
    · rw [upV_no (notlv B h.box.lt (by rw [h.oB]; decide))]; exact oB3
    · rw [upV_no (notlv r h.map.lt (by rw [h.oR]; decide))]; exact hRr.2.trans h.oR
    · rw [upV_no (fun e => hnX b e hb)]; exact (hf2.blk b (h.hX b hb).1 (by rw [(h.hX b hb).2]; simp)).2.trans (h.hX b hb).2
    · intro i hi
      have hi : i < k.bl.length + 1 := by simpa using hi
      by_cases hin : i < k.bl.length
      · have e1 : gd (m.vb ++ [lv]) nV i = gd m.vb nV i := gd_app (by omega)
        have e2 : Kl.B { k with bl := k.bl ++ [bs] } i = k.B i := gd_app hin
        show Rwo _ N _ (8, i) 3 1 (gd (m.vb ++ [lv]) nV i) (iL (Kl.B { k with bl := k.bl ++ [bs] } i)).length (iL (Kl.B { k with bl := k.bl ++ [bs] } i))
        rw [e1, e2]
        exact oth (h.i1 i hin) (by simp) (by simp) (by simp)
      · have e : i = k.bl.length := by omega
        subst e
        have e1 : gd (m.vb ++ [lv]) nV k.bl.length = lv := gd_end2 hll
        have e2 : Kl.B { k with bl := k.bl ++ [bs] } k.bl.length = bs := gd_end
        show Rwo _ N _ (8, k.bl.length) 3 1 (gd (m.vb ++ [lv]) nV k.bl.length) (iL (Kl.B { k with bl := k.bl ++ [bs] } k.bl.length)).length (iL (Kl.B { k with bl := k.bl ++ [bs] } k.bl.length))
        rw [e1, e2]
        exact hlv.give
  · refine ⟨hf2.os, hf2.tape, hf2.output, hf2.size, fun b hb hn => ?_⟩
    obtain ⟨e1, e2⟩ := hf2.blk b hb fun g => hn (by rcases g with g | g; exact Or.inl g; exact Or.inr (Or.inl g))
    exact ⟨e1, by rw [upV_no (fun e => hn (Or.inr (Or.inr (hv.2 b e))))]; exact e2⟩
  · intro b hb he hne
    obtain ⟨e1, e2⟩ := hf2.blk b hb (by rw [he]; simp)
    exact ⟨e1, by rw [upV_no hne]; exact e2.trans he⟩
/-- One more row in mb. -/
theorem KlAt.push_mb {N B r : Nat} {X : Nat → Prop} {w : World} {o : Nat → Oid} {k : Kl} {m : Km} (h : KlAt N B r X w o k m) (hl : k.mb.length ≤ 1000000) (lv : Value) (bs : List Nat) (hv : Rwo w N o eX 3 1 lv (iL bs).length (iL bs)) (hnX : ∀ b, lv.ownBlock = some b → ¬ X b) (hone : lv.oneCell' = true) :
    ∃ g cap w3 o', (Builtin.append_ #[62, 62] 62 #[m.v3, .slice (some ⟨w.heap.size, 0, none⟩) 1 1]).run Tryz.prog (w.alloc (.cells #[lv] 45)) = .ok (.slice (some ⟨g, 0, none⟩) (k.mb.length + 1) cap) w3 ∧ Blk w3 B #[m.v0, m.v1, m.v2, m.v3, m.v4, .map (some r)] 65 ∧
      KlAt N B r X (w3.setCell ⟨B, 3, none⟩ (.slice (some ⟨g, 0, none⟩) (k.mb.length + 1) cap)) o' { k with mb := k.mb ++ [bs] } { m with v3 := .slice (some ⟨g, 0, none⟩) (k.mb.length + 1) cap, vm := m.vm ++ [lv] } ∧
      Fr (fun i => i = (6, 0) ∨ i = (1, 0) ∨ i = eX) o w o' (w3.setCell ⟨B, 3, none⟩ (.slice (some ⟨g, 0, none⟩) (k.mb.length + 1) cap)) ∧ (∀ b, b < w.heap.size → o b = eX → lv.ownBlock ≠ some b → (w3.setCell ⟨B, 3, none⟩ (.slice (some ⟨g, 0, none⟩) (k.mb.length + 1) cap)).heap[b]? = w.heap[b]? ∧ o' b = eX) := by
  have hll := h.l3
  obtain ⟨g, cap, w3, hr, ho, hf⟩ := app_cell (id := (6, 0)) Tryz.underlying62 Tryz.infoInts rfl (by decide) h.r3 h.nN (by omega) lv hone
  rw [hll] at hr ho hf
  have hB3 : Blk w3 B #[m.v0, m.v1, m.v2, m.v3, m.v4, .map (some r)] 65 := (hf.blk B h.box.lt (by rw [h.oB]; simp)).1.trans h.box
  have oB3 : upV o (.slice (some ⟨g, 0, none⟩) (k.mb.length + 1) cap) (6, 0) B = (1, 0) := (hf.blk B h.box.lt (by rw [h.oB]; simp)).2.trans h.oB
  have hf2 : Fr (fun i => i = (6, 0) ∨ i = (1, 0)) o w _ (w3.setCell ⟨B, 3, none⟩ (.slice (some ⟨g, 0, none⟩) (k.mb.length + 1) cap)) := (hf.mono fun i hi => Or.inl hi).trans ((fr_box oB3 3 _).mono fun i hi => Or.inr hi)
  have hlv := hv.fr hf2 (by simp)
  have hgb : g ≠ B := fun e => by
    have h1 := ho.2 g rfl
    have h2 := oB3
    rw [← e] at h2
    rw [h1] at h2
    cases h2
  have ho2 := ho.fr (fr_box (B := B) oB3 3 (.slice (some ⟨g, 0, none⟩) (k.mb.length + 1) cap)) (by simp)
  refine ⟨g, cap, w3, upV (upV o (.slice (some ⟨g, 0, none⟩) (k.mb.length + 1) cap) (6, 0)) lv (9, k.mb.length), hr, hB3, ?_, ?_, ?_⟩
  · have oth : ∀ {id : Oid} {T e : Nat} {v : Value} {n : Nat} {xs : List Value}, Rwo w N o id T e v n xs → id ≠ (6, 0) → id ≠ (1, 0) → id ≠ eX → Rwo (w3.setCell ⟨B, 3, none⟩ (.slice (some ⟨g, 0, none⟩) (k.mb.length + 1) cap)) N (upV (upV o (.slice (some ⟨g, 0, none⟩) (k.mb.length + 1) cap) (6, 0)) lv (9, k.mb.length)) id T e v n xs := fun hh h1 h2 h3 => (hh.fr hf2 (by rintro (e | e); exact h1 e; exact h2 e)).other hlv.2 h3
    have hbb := hB3.set 3 (.slice (some ⟨g, 0, none⟩) (k.mb.length + 1) cap)
    have notlv : ∀ b, b < w.heap.size → o b ≠ eX → lv.ownBlock ≠ some b := fun b hb hne e => hne (hv.2 b e)
    have hRr := hf2.blk r h.map.lt (by rw [h.oR]; simp)
    refine ⟨by simpa using hbb, h.map.kept hRr.1, h.nB, h.nr, Nat.le_trans h.nN hf2.size, ?_, ?_, oth h.r0 (by decide) (by decide) (by decide), h.ts, fun c hc => (h.tx c hc).kept fun b hb => (hf2.blk b (h.hX b hb).1 (by rw [(h.hX b hb).2]; simp)).1, fun b hb => ⟨Nat.lt_of_lt_of_le (h.hX b hb).1 hf2.size, ?_⟩, oth h.r1 (by decide) (by decide) (by decide), oth h.r2 (by decide) (by decide) (by decide), ho2.other hlv.2 (by decide), oth h.r4 (by decide) (by decide) (by decide), h.l1, by simp [hll], h.l4, fun i hi => oth (h.i1 i hi) (by simp) (by simp) (by simp), ?_, fun i hi => oth (h.i4 i hi) (by simp) (by simp) (by simp)⟩
    · rw [upV_no (notlv B h.box.lt (by rw [h.oB]; decide))]; exact oB3
    · rw [upV_no (notlv r h.map.lt (by rw [h.oR]; decide))]; exact hRr.2.trans h.oR
    · rw [upV_no (fun e => hnX b e hb)]; exact (hf2.blk b (h.hX b hb).1 (by rw [(h.hX b hb).2]; simp)).2.trans (h.hX b hb).2
    · intro i hi
      have hi : i < k.mb.length + 1 := by simpa using hi
      by_cases hin : i < k.mb.length
      · have e1 : gd (m.vm ++ [lv]) nV i = gd m.vm nV i := gd_app (by omega)
        have e2 : Kl.M { k with mb := k.mb ++ [bs] } i = k.M i := gd_app hin
        show Rwo _ N _ (9, i) 3 1 (gd (m.vm ++ [lv]) nV i) (iL (Kl.M { k with mb := k.mb ++ [bs] } i)).length (iL (Kl.M { k with mb := k.mb ++ [bs] } i))
        rw [e1, e2]
        exact oth (h.i3 i hin) (by simp) (by simp) (by simp)
      · have e : i = k.mb.length := by omega
        subst e
        have e1 : gd (m.vm ++ [lv]) nV k.mb.length = lv := gd_end2 hll
        have e2 : Kl.M { k with mb := k.mb ++ [bs] } k.mb.length = bs := gd_end
        show Rwo _ N _ (9, k.mb.length) 3 1 (gd (m.vm ++ [lv]) nV k.mb.length) (iL (Kl.M { k with mb := k.mb ++ [bs] } k.mb.length)).length (iL (Kl.M { k with mb := k.mb ++ [bs] } k.mb.length))
        rw [e1, e2]
        exact hlv.give
  · refine ⟨hf2.os, hf2.tape, hf2.output, hf2.size, fun b hb hn => ?_⟩
    obtain ⟨e1, e2⟩ := hf2.blk b hb fun g => hn (by rcases g with g | g; exact Or.inl g; exact Or.inr (Or.inl g))
    exact ⟨e1, by rw [upV_no (fun e => hn (Or.inr (Or.inr (hv.2 b e))))]; exact e2⟩
  · intro b hb he hne
    obtain ⟨e1, e2⟩ := hf2.blk b hb (by rw [he]; simp)
    exact ⟨e1, by rw [upV_no hne]; exact e2.trans he⟩
/-- One more row in ab. -/
theorem KlAt.push_ab {N B r : Nat} {X : Nat → Prop} {w : World} {o : Nat → Oid} {k : Kl} {m : Km} (h : KlAt N B r X w o k m) (hl : k.ab.length ≤ 1000000) (lv : Value) (bs : List Nat) (hv : Rwo w N o eX 3 1 lv (iL bs).length (iL bs)) (hnX : ∀ b, lv.ownBlock = some b → ¬ X b) (hone : lv.oneCell' = true) :
    ∃ g cap w3 o', (Builtin.append_ #[62, 62] 62 #[m.v4, .slice (some ⟨w.heap.size, 0, none⟩) 1 1]).run Tryz.prog (w.alloc (.cells #[lv] 45)) = .ok (.slice (some ⟨g, 0, none⟩) (k.ab.length + 1) cap) w3 ∧ Blk w3 B #[m.v0, m.v1, m.v2, m.v3, m.v4, .map (some r)] 65 ∧
      KlAt N B r X (w3.setCell ⟨B, 4, none⟩ (.slice (some ⟨g, 0, none⟩) (k.ab.length + 1) cap)) o' { k with ab := k.ab ++ [bs] } { m with v4 := .slice (some ⟨g, 0, none⟩) (k.ab.length + 1) cap, va := m.va ++ [lv] } ∧
      Fr (fun i => i = (7, 0) ∨ i = (1, 0) ∨ i = eX) o w o' (w3.setCell ⟨B, 4, none⟩ (.slice (some ⟨g, 0, none⟩) (k.ab.length + 1) cap)) ∧ (∀ b, b < w.heap.size → o b = eX → lv.ownBlock ≠ some b → (w3.setCell ⟨B, 4, none⟩ (.slice (some ⟨g, 0, none⟩) (k.ab.length + 1) cap)).heap[b]? = w.heap[b]? ∧ o' b = eX) := by
  have hll := h.l4
  obtain ⟨g, cap, w3, hr, ho, hf⟩ := app_cell (id := (7, 0)) Tryz.underlying62 Tryz.infoInts rfl (by decide) h.r4 h.nN (by omega) lv hone
  rw [hll] at hr ho hf
  have hB3 : Blk w3 B #[m.v0, m.v1, m.v2, m.v3, m.v4, .map (some r)] 65 := (hf.blk B h.box.lt (by rw [h.oB]; simp)).1.trans h.box
  have oB3 : upV o (.slice (some ⟨g, 0, none⟩) (k.ab.length + 1) cap) (7, 0) B = (1, 0) := (hf.blk B h.box.lt (by rw [h.oB]; simp)).2.trans h.oB
  have hf2 : Fr (fun i => i = (7, 0) ∨ i = (1, 0)) o w _ (w3.setCell ⟨B, 4, none⟩ (.slice (some ⟨g, 0, none⟩) (k.ab.length + 1) cap)) := (hf.mono fun i hi => Or.inl hi).trans ((fr_box oB3 4 _).mono fun i hi => Or.inr hi)
  have hlv := hv.fr hf2 (by simp)
  have hgb : g ≠ B := fun e => by
    have h1 := ho.2 g rfl
    have h2 := oB3
    rw [← e] at h2
    rw [h1] at h2
    cases h2
  have ho2 := ho.fr (fr_box (B := B) oB3 4 (.slice (some ⟨g, 0, none⟩) (k.ab.length + 1) cap)) (by simp)
  refine ⟨g, cap, w3, upV (upV o (.slice (some ⟨g, 0, none⟩) (k.ab.length + 1) cap) (7, 0)) lv (10, k.ab.length), hr, hB3, ?_, ?_, ?_⟩
  · have oth : ∀ {id : Oid} {T e : Nat} {v : Value} {n : Nat} {xs : List Value}, Rwo w N o id T e v n xs → id ≠ (7, 0) → id ≠ (1, 0) → id ≠ eX → Rwo (w3.setCell ⟨B, 4, none⟩ (.slice (some ⟨g, 0, none⟩) (k.ab.length + 1) cap)) N (upV (upV o (.slice (some ⟨g, 0, none⟩) (k.ab.length + 1) cap) (7, 0)) lv (10, k.ab.length)) id T e v n xs := fun hh h1 h2 h3 => (hh.fr hf2 (by rintro (e | e); exact h1 e; exact h2 e)).other hlv.2 h3
    have hbb := hB3.set 4 (.slice (some ⟨g, 0, none⟩) (k.ab.length + 1) cap)
    have notlv : ∀ b, b < w.heap.size → o b ≠ eX → lv.ownBlock ≠ some b := fun b hb hne e => hne (hv.2 b e)
    have hRr := hf2.blk r h.map.lt (by rw [h.oR]; simp)
    refine ⟨by simpa using hbb, h.map.kept hRr.1, h.nB, h.nr, Nat.le_trans h.nN hf2.size, ?_, ?_, oth h.r0 (by decide) (by decide) (by decide), h.ts, fun c hc => (h.tx c hc).kept fun b hb => (hf2.blk b (h.hX b hb).1 (by rw [(h.hX b hb).2]; simp)).1, fun b hb => ⟨Nat.lt_of_lt_of_le (h.hX b hb).1 hf2.size, ?_⟩, oth h.r1 (by decide) (by decide) (by decide), oth h.r2 (by decide) (by decide) (by decide), oth h.r3 (by decide) (by decide) (by decide), ho2.other hlv.2 (by decide), h.l1, h.l3, by simp [hll], fun i hi => oth (h.i1 i hi) (by simp) (by simp) (by simp), fun i hi => oth (h.i3 i hi) (by simp) (by simp) (by simp), ?_⟩
    · rw [upV_no (notlv B h.box.lt (by rw [h.oB]; decide))]; exact oB3
    · rw [upV_no (notlv r h.map.lt (by rw [h.oR]; decide))]; exact hRr.2.trans h.oR
    · rw [upV_no (fun e => hnX b e hb)]; exact (hf2.blk b (h.hX b hb).1 (by rw [(h.hX b hb).2]; simp)).2.trans (h.hX b hb).2
    · intro i hi
      have hi : i < k.ab.length + 1 := by simpa using hi
      by_cases hin : i < k.ab.length
      · have e1 : gd (m.va ++ [lv]) nV i = gd m.va nV i := gd_app (by omega)
        have e2 : Kl.A { k with ab := k.ab ++ [bs] } i = k.A i := gd_app hin
        show Rwo _ N _ (10, i) 3 1 (gd (m.va ++ [lv]) nV i) (iL (Kl.A { k with ab := k.ab ++ [bs] } i)).length (iL (Kl.A { k with ab := k.ab ++ [bs] } i))
        rw [e1, e2]
        exact oth (h.i4 i hin) (by simp) (by simp) (by simp)
      · have e : i = k.ab.length := by omega
        subst e
        have e1 : gd (m.va ++ [lv]) nV k.ab.length = lv := gd_end2 hll
        have e2 : Kl.A { k with ab := k.ab ++ [bs] } k.ab.length = bs := gd_end
        show Rwo _ N _ (10, k.ab.length) 3 1 (gd (m.va ++ [lv]) nV k.ab.length) (iL (Kl.A { k with ab := k.ab ++ [bs] } k.ab.length)).length (iL (Kl.A { k with ab := k.ab ++ [bs] } k.ab.length))
        rw [e1, e2]
        exact hlv.give
  · refine ⟨hf2.os, hf2.tape, hf2.output, hf2.size, fun b hb hn => ?_⟩
    obtain ⟨e1, e2⟩ := hf2.blk b hb fun g => hn (by rcases g with g | g; exact Or.inl g; exact Or.inr (Or.inl g))
    exact ⟨e1, by rw [upV_no (fun e => hn (Or.inr (Or.inr (hv.2 b e))))]; exact e2⟩
  · intro b hb he hne
    obtain ⟨e1, e2⟩ := hf2.blk b hb (by rw [he]; simp)
    exact ⟨e1, by rw [upV_no hne]; exact e2.trans he⟩
/-- One more class. -/
theorem KlAt.push_cl {N B r : Nat} {X : Nat → Prop} {w : World} {o : Nat → Oid} {k : Kl} {m : Km} (h : KlAt N B r X w o k m) (hl : k.cl.length ≤ 1000000) (x : Nat) :
    ∃ g cap w3 o', (Builtin.append_ #[45, 45] 45 #[m.v2, .slice (some ⟨w.heap.size, 0, none⟩) 1 1]).run Tryz.prog (w.alloc (.cells #[iV x] 3)) = .ok (.slice (some ⟨g, 0, none⟩) (k.cl.length + 1) cap) w3 ∧ Blk w3 B #[m.v0, m.v1, m.v2, m.v3, m.v4, .map (some r)] 65 ∧
      KlAt N B r X (w3.setCell ⟨B, 2, none⟩ (.slice (some ⟨g, 0, none⟩) (k.cl.length + 1) cap)) o' { k with cl := k.cl ++ [x] } { m with v2 := .slice (some ⟨g, 0, none⟩) (k.cl.length + 1) cap } ∧ Fr (fun i => i = (5, 0) ∨ i = (1, 0)) o w o' (w3.setCell ⟨B, 2, none⟩ (.slice (some ⟨g, 0, none⟩) (k.cl.length + 1) cap)) := by
  have hr2 := h.r2
  obtain ⟨g, cap, w3, hr, ho, hf⟩ := app_cell (id := (5, 0)) Tryz.underlying45 Tryz.infoInt rfl (by decide) hr2 h.nN (by rw [iL_len]; exact hl) (iV x) rfl
  rw [iL_len] at hr ho hf
  have hB3 : Blk w3 B #[m.v0, m.v1, m.v2, m.v3, m.v4, .map (some r)] 65 := (hf.blk B h.box.lt (by rw [h.oB]; simp)).1.trans h.box
  have oB3 : upV o (.slice (some ⟨g, 0, none⟩) (k.cl.length + 1) cap) (5, 0) B = (1, 0) := (hf.blk B h.box.lt (by rw [h.oB]; simp)).2.trans h.oB
  have hf2 : Fr (fun i => i = (5, 0) ∨ i = (1, 0)) o w _ (w3.setCell ⟨B, 2, none⟩ (.slice (some ⟨g, 0, none⟩) (k.cl.length + 1) cap)) := (hf.mono fun i hi => Or.inl hi).trans ((fr_box oB3 2 _).mono fun i hi => Or.inr hi)
  have ho2 := ho.fr (fr_box (B := B) oB3 2 (.slice (some ⟨g, 0, none⟩) (k.cl.length + 1) cap)) (by simp)
  have hbb := hB3.set 2 (.slice (some ⟨g, 0, none⟩) (k.cl.length + 1) cap)
  have hRr := hf2.blk r h.map.lt (by rw [h.oR]; simp)
  refine ⟨g, cap, w3, _, hr, hB3, ⟨by simpa using hbb, h.map.kept hRr.1, h.nB, h.nr, Nat.le_trans h.nN hf2.size, oB3, hRr.2.trans h.oR, h.r0.fr hf2 (by simp), h.ts, fun c hc => (h.tx c hc).kept fun b hb => (hf2.blk b (h.hX b hb).1 (by rw [(h.hX b hb).2]; simp)).1, fun b hb => ⟨Nat.lt_of_lt_of_le (h.hX b hb).1 hf2.size, (hf2.blk b (h.hX b hb).1 (by rw [(h.hX b hb).2]; simp)).2.trans (h.hX b hb).2⟩, h.r1.fr hf2 (by simp), ?_, h.r3.fr hf2 (by simp), h.r4.fr hf2 (by simp), h.l1, h.l3, h.l4, fun i hi => (h.i1 i hi).fr hf2 (by simp), fun i hi => (h.i3 i hi).fr hf2 (by simp), fun i hi => (h.i4 i hi).fr hf2 (by simp)⟩, hf2⟩
  have e : iL k.cl ++ [iV x] = iL (k.cl ++ [x]) := by simp [iL]
  rw [e] at ho2
  exact ho2
/-- A class is put. -/
theorem KlAt.put_cl {N B r : Nat} {X : Nat → Prop} {w : World} {o : Nat → Oid} {k : Kl} {m : Km} (h : KlAt N B r X w o k m) {g n c : Nat} (hv : m.v2 = .slice (some ⟨g, 0, none⟩) n c) (i x : Nat) :
    KlAt N B r X (w.setCell ⟨g, i, none⟩ (iV x)) o { k with cl := k.cl.set i x } m ∧ Fr (fun j => j = (5, 0)) o w o (w.setCell ⟨g, i, none⟩ (iV x)) := by
  have h2 := h.r2
  rw [hv] at h2
  have hn : n = (iL k.cl).length := by obtain ⟨a, c', e⟩ := h2.shape; cases e; rfl
  subst hn
  obtain ⟨h3, hf⟩ := h2.put i (iV x)
  have e : (iL k.cl).set i (iV x) = iL (k.cl.set i x) := by simp [iL, List.map_set]
  have e2 : (iL k.cl).length = (iL (k.cl.set i x)).length := by simp [iL]
  refine ⟨⟨(hf.blk B h.box.lt (by rw [h.oB]; simp)).1.trans h.box, h.map.kept (hf.blk r h.map.lt (by rw [h.oR]; simp)).1, h.nB, h.nr, Nat.le_trans h.nN hf.size, h.oB, h.oR, h.r0.fr hf (by simp), h.ts, fun c hc => (h.tx c hc).kept fun b hb => (hf.blk b (h.hX b hb).1 (by rw [(h.hX b hb).2]; simp)).1, fun b hb => ⟨Nat.lt_of_lt_of_le (h.hX b hb).1 hf.size, (h.hX b hb).2⟩, h.r1.fr hf (by simp), ?_, h.r3.fr hf (by simp), h.r4.fr hf (by simp), h.l1, h.l3, h.l4, fun i hi => (h.i1 i hi).fr hf (by simp), fun i hi => (h.i3 i hi).fr hf (by simp), fun i hi => (h.i4 i hi).fr hf (by simp)⟩, hf⟩
  rw [hv]
  rw [e] at h3
  show Rwo _ N o (5, 0) 3 1 _ (iL (k.cl.set i x)).length (iL (k.cl.set i x))
  rw [← e2]
  exact h3
theorem sgG_get : ∀ (l : List (ByteArray × Nat)) (n : ByteArray), mapGet (sgV l) n = (sgG l n).map iV
  | [], n => rfl
  | p :: q, n => by
    unfold sgV sgG
    rw [List.map_cons, mapGet]
    by_cases h : p.1 = n
    · rw [if_pos h, if_pos h]; rfl
    · rw [if_neg h, if_neg h]; exact sgG_get q n
/-- A sign more. -/
theorem KlAt.push_sg {N B r : Nat} {X : Nat → Prop} {w : World} {o : Nat → Oid} {k : Kl} {m : Km} (h : KlAt N B r X w o k m) (s : ByteArray) (x : Nat) (hs : sgG k.sg s = none) :
    ∃ w1, (Instr.mapUpdate 63 (.map (some r)) (.string s) (iV x)).run Tryz.prog w = .ok () w1 ∧ KlAt N B r X w1 o { k with sg := k.sg ++ [(s, x)] } m ∧ Fr (fun i => i = (2, 0)) o w o w1 := by
  have hg : mapGet (sgV k.sg) s = none := by rw [sgG_get, hs]; rfl
  obtain ⟨w1, hr, hm, hz, ho, ht, hu, hk⟩ := run_put (P := Tryz.prog) Tryz.underlying63 Tryz.underlying9 h.map s (iV x) hg
  have hf : Fr (fun i => i = (2, 0)) o w o w1 := ⟨ho, ht, hu, by omega, fun b hb hn => ⟨hk b (fun e => hn (by rw [e]; exact h.oR)), rfl⟩⟩
  refine ⟨w1, hr, ⟨(hf.blk B h.box.lt (by rw [h.oB]; simp)).1.trans h.box, ?_, h.nB, h.nr, Nat.le_trans h.nN hf.size, h.oB, h.oR, h.r0.fr hf (by simp), h.ts, fun c hc => (h.tx c hc).kept fun b hb => (hf.blk b (h.hX b hb).1 (by rw [(h.hX b hb).2]; simp)).1, fun b hb => ⟨Nat.lt_of_lt_of_le (h.hX b hb).1 hf.size, (h.hX b hb).2⟩, h.r1.fr hf (by simp), h.r2.fr hf (by simp), h.r3.fr hf (by simp), h.r4.fr hf (by simp), h.l1, h.l3, h.l4, fun i hi => (h.i1 i hi).fr hf (by simp), fun i hi => (h.i3 i hi).fr hf (by simp), fun i hi => (h.i4 i hi).fr hf (by simp)⟩, hf⟩
  have e : sgV (k.sg ++ [(s, x)]) = sgV k.sg ++ [(s, iV x)] := by simp [sgV]
  show MapAt w1 r (sgV (k.sg ++ [(s, x)]))
  rw [e]
  exact hm
end Go.Proofs.YtdmaijmglblccaaGreatDoor

/- Memory: closure's classes: a term more; a row within a row put; a row behind a row. -/
namespace Go.Proofs.YtdmaijmglblccaaGreatDoor
open Go.RowKit
set_option linter.unusedSimpArgs false
set_option linter.unusedVariables false
set_option maxRecDepth 8000

theorem setCell_comm (w : World) (a b : Addr) (u v : Value) (h : a.block ≠ b.block) : (w.setCell a u).setCell b v = (w.setCell b v).setCell a u := by
  unfold World.setCell
  simp only [World.mk.injEq, and_true, true_and]
  apply Array.ext
  · simp
  · intro i h1 h2
    simp only [Array.getElem_modify]
    by_cases hb : b.block = i
    · by_cases ha : a.block = i
      · exact absurd (ha.trans hb.symm) h
      · simp [ha, hb]
    · by_cases ha : a.block = i
      · simp [ha, hb]
      · simp [ha, hb]
/-- A term more. -/
theorem KlAt.push_ts {N B r : Nat} {X : Nat → Prop} {w : World} {o : Nat → Oid} {k : Kl} {m : Km} (h : KlAt N B r X w o k m) (hl : k.ts.length ≤ 1000000) (t : Tm) (a : Option Addr) (c : Nat) (ht : Sl w X a t.args) :
    ∃ g cap w3 o', (Builtin.append_ #[23, 23] 23 #[m.v0, .slice (some ⟨w.heap.size, 0, none⟩) 1 1]).run Tryz.prog (w.alloc (.cells #[.string ⟨#[]⟩, .slice none 0 0] 25)) = .ok (.slice (some ⟨g, 0, none⟩) (k.ts.length + 1) cap) w3 ∧ g ≠ B ∧
      Blk w3 B #[m.v0, m.v1, m.v2, m.v3, m.v4, .map (some r)] 65 ∧
      (w3.cell? ⟨g, k.ts.length * 2, none⟩ = some (.string ⟨#[]⟩) ∧ w3.cell? ⟨g, k.ts.length * 2 + 1, none⟩ = some (.slice none 0 0) ∧ ∀ i, w3.frozen? ⟨g, i, none⟩ = false) ∧
      KlAt N B r X (((w3.setCell ⟨g, k.ts.length * 2, none⟩ (.string t.name)).setCell ⟨g, k.ts.length * 2 + 1, none⟩ (.slice a t.args.length c)).setCell ⟨B, 0, none⟩ (.slice (some ⟨g, 0, none⟩) (k.ts.length + 1) cap)) o' { k with ts := k.ts ++ [t] } { m with v0 := .slice (some ⟨g, 0, none⟩) (k.ts.length + 1) cap, cs := m.cs ++ [(t, a, c)] } ∧
      Fr (fun i => i = (3, 0) ∨ i = (1, 0)) o w o' (((w3.setCell ⟨g, k.ts.length * 2, none⟩ (.string t.name)).setCell ⟨g, k.ts.length * 2 + 1, none⟩ (.slice a t.args.length c)).setCell ⟨B, 0, none⟩ (.slice (some ⟨g, 0, none⟩) (k.ts.length + 1) cap)) := by
  have hz : m.cs.length = k.ts.length := by rw [← h.ts]; simp
  obtain ⟨i0, hi, hz0, hz1, hz2⟩ := info_parts Tryz.infoTerm
  have h0 := h.r0
  obtain ⟨g, cap, w3, hr, ho, hg, hat, _⟩ := run_append_lies (P := Tryz.prog) (w := w.alloc (.cells #[.string ⟨#[]⟩, .slice none 0 0] 25)) 23 23 N 25 i0 _ 2 40 Tryz.underlying23 hi hz0 hz1 hz2 rfl (by decide) m.v0 m.cs.length (flatT m.cs) (h0.1.alloc _) ⟨w.heap.size, 0, none⟩ 1 1 [.string ⟨#[]⟩, .slice none 0 0] rfl (World.news_of_block (cs := #[.string ⟨#[]⟩, .slice none 0 0]) (heap_alloc_new w _)) (by simp [Value.oneCell']) (by omega) (by unfold maxLen; omega) (by omega) (by have := h.nN; simp; omega) _ rfl
  have hfl := flatT_len m.cs
  have hne : ∀ b, b < w.heap.size → o b ≠ (3, 0) → g ≠ b ∧ m.v0.ownBlock ≠ some b := fun b hb hn => by
    have h1 : m.v0.ownBlock ≠ some b := fun e => hn (h0.2 b e)
    refine ⟨fun e => ?_, h1⟩
    subst e
    rcases hat with e | e
    · exact h1 e
    · rw [World.size_alloc] at e; omega
  have hf1 : Fr (fun i => i = (3, 0)) o w (upV o (.slice (some ⟨g, 0, none⟩) (m.cs.length + 1) cap) (3, 0)) w3 := ⟨hg.os, hg.tape, hg.output, Nat.le_trans (by simp) hg.size, fun b hb hn => by
    obtain ⟨n1, n2⟩ := hne b hb hn
    exact ⟨by rw [hg.block b (by simp; omega) (fun e => n2 e.symm), Below.heap_alloc _ _ _ hb], upV_no (by simpa [Value.ownBlock] using n1)⟩⟩
  rw [hz] at hr ho hf1 hfl
  have hB := hf1.blk B h.box.lt (by rw [h.oB]; simp)
  have hgB := (hne B h.box.lt (by rw [h.oB]; decide)).1
  have hB3 : Blk w3 B #[m.v0, m.v1, m.v2, m.v3, m.v4, .map (some r)] 65 := hB.1.trans h.box
  have og : upV o (.slice (some ⟨g, 0, none⟩) (k.ts.length + 1) cap) (3, 0) g = (3, 0) := upV_yes rfl
  have hxl : (flatT m.cs).length = k.ts.length * 2 := hfl
  have s1 := ho.stored (k.ts.length * 2) (.string t.name)
  have s2 := s1.1.stored (k.ts.length * 2 + 1) (.slice a t.args.length c)
  have e2 : ((flatT m.cs ++ [Value.string ⟨#[]⟩, .slice none 0 0]).set (k.ts.length * 2) (.string t.name)).set (k.ts.length * 2 + 1) (.slice a t.args.length c) = flatT (m.cs ++ [(t, a, c)]) := by
    rw [flatT_app, List.set_append_right _ _ (by omega), List.set_append_right _ _ (by omega), hxl, Nat.sub_self, show k.ts.length * 2 + 1 - k.ts.length * 2 = 1 by omega]; rfl
  rw [e2] at s2
  have hf2 : Fr (fun i => i = (3, 0) ∨ i = (1, 0)) o w (upV o (.slice (some ⟨g, 0, none⟩) (k.ts.length + 1) cap) (3, 0)) (((w3.setCell ⟨g, k.ts.length * 2, none⟩ (.string t.name)).setCell ⟨g, k.ts.length * 2 + 1, none⟩ (.slice a t.args.length c)).setCell ⟨B, 0, none⟩ (.slice (some ⟨g, 0, none⟩) (k.ts.length + 1) cap)) :=
    (((hf1.mono fun i hi => Or.inl hi).trans ((fr_box og _ _).mono fun i hi => Or.inl hi)).trans ((fr_box og _ _).mono fun i hi => Or.inl hi)).trans ((fr_box (hB.2.trans h.oB) 0 _).mono fun i hi => Or.inr hi)
  have hrow : Rwo (((w3.setCell ⟨g, k.ts.length * 2, none⟩ (.string t.name)).setCell ⟨g, k.ts.length * 2 + 1, none⟩ (.slice a t.args.length c)).setCell ⟨B, 0, none⟩ (.slice (some ⟨g, 0, none⟩) (k.ts.length + 1) cap)) N (upV o (.slice (some ⟨g, 0, none⟩) (k.ts.length + 1) cap) (3, 0)) (3, 0) 25 2 (.slice (some ⟨g, 0, none⟩) (k.ts.length + 1) cap) (k.ts.length + 1) (flatT (m.cs ++ [(t, a, c)])) :=
    ⟨ownsRow_at s2.1 fun b hb => Below.heap_setCell _ _ _ _ (by intro e; simp [Value.ownBlock] at hb; exact hgB (hb.trans e)), fun b hb => upV_yes hb⟩
  have hbb : Blk (((w3.setCell ⟨g, k.ts.length * 2, none⟩ (.string t.name)).setCell ⟨g, k.ts.length * 2 + 1, none⟩ (.slice a t.args.length c)).setCell ⟨B, 0, none⟩ (.slice (some ⟨g, 0, none⟩) (k.ts.length + 1) cap)) B #[.slice (some ⟨g, 0, none⟩) (k.ts.length + 1) cap, m.v1, m.v2, m.v3, m.v4, .map (some r)] 65 := by
    have h1 := ((hB3.setOther (b' := g) (k.ts.length * 2) (.string t.name) (fun e => hgB e.symm)).setOther (b' := g) (k.ts.length * 2 + 1) (.slice a t.args.length c) (fun e => hgB e.symm)).set 0 (.slice (some ⟨g, 0, none⟩) (k.ts.length + 1) cap)
    simpa using h1
  have hRr := hf2.blk r h.map.lt (by rw [h.oR]; simp)
  refine ⟨g, cap, w3, _, hr, hgB, hB3, ⟨?_, ?_, fun i => ho.frozenAt i⟩, ⟨hbb, h.map.kept hRr.1, h.nB, h.nr, Nat.le_trans h.nN hf2.size, hB.2.trans h.oB, hRr.2.trans h.oR, ?_, ?_, fun x hx => ?_, fun b hb => ⟨Nat.lt_of_lt_of_le (h.hX b hb).1 hf2.size, (hf2.blk b (h.hX b hb).1 (by rw [(h.hX b hb).2]; simp)).2.trans (h.hX b hb).2⟩, h.r1.fr hf2 (by simp), h.r2.fr hf2 (by simp), h.r3.fr hf2 (by simp), h.r4.fr hf2 (by simp), h.l1, h.l3, h.l4, fun i hi => (h.i1 i hi).fr hf2 (by simp), fun i hi => (h.i3 i hi).fr hf2 (by simp), fun i hi => (h.i4 i hi).fr hf2 (by simp)⟩, hf2⟩
  · rw [ho.cellAt (k.ts.length * 2) (by omega), List.getElem?_append_right (by omega), hxl, Nat.sub_self]; rfl
  · rw [ho.cellAt (k.ts.length * 2 + 1) (by omega), List.getElem?_append_right (by omega), hxl, show k.ts.length * 2 + 1 - k.ts.length * 2 = 1 by omega]; rfl
  · have e : (m.cs ++ [(t, a, c)]).length = k.ts.length + 1 := by simp [hz]
    show Rwo _ N _ (3, 0) 25 2 _ (m.cs ++ [(t, a, c)]).length _
    rw [e]
    exact hrow
  · show (m.cs ++ [(t, a, c)]).map (·.1) = k.ts ++ [t]
    rw [List.map_append, h.ts]; rfl
  · have hk : ∀ (al : Option Addr) (q : List Tm), Sl w X al q → Sl (((w3.setCell ⟨g, k.ts.length * 2, none⟩ (.string t.name)).setCell ⟨g, k.ts.length * 2 + 1, none⟩ (.slice a t.args.length c)).setCell ⟨B, 0, none⟩ (.slice (some ⟨g, 0, none⟩) (k.ts.length + 1) cap)) X al q := fun al q hq => hq.kept fun b hb => (hf2.blk b (h.hX b hb).1 (by rw [(h.hX b hb).2]; simp)).1
    rcases List.mem_append.1 hx with hx | hx
    · exact hk _ _ (h.tx x hx)
    · rw [List.mem_singleton.1 hx]; exact hk _ _ ht
/-- A row behind a row. -/
theorem app_sp {w : World} {N : Nat} {o : Nat → Oid} {i1 i2 : Oid} {v1 v2 : Value} {l1 l2 : List Nat} (h1 : Rwo w N o i1 3 1 v1 (iL l1).length (iL l1)) (h2 : Rwo w N o i2 3 1 v2 (iL l2).length (iL l2)) (hN : N ≤ w.heap.size) (hl : l1.length + l2.length ≤ 1000000) :
    ∃ v3 w3 o', (Builtin.append_ #[45, 45] 45 #[v1, v2]).run Tryz.prog w = .ok v3 w3 ∧ Rwo w3 N o' i1 3 1 v3 (iL (l1 ++ l2)).length (iL (l1 ++ l2)) ∧ Fr (fun i => i = i1) o w o' w3 := by
  obtain ⟨i0, hi, hz0, hz1, hz2⟩ := info_parts Tryz.infoInt
  have ez : (iL l1).length = l1.length := iL_len l1
  have ez2 : (iL l2).length = l2.length := iL_len l2
  have e3 : iL (l1 ++ l2) = iL l1 ++ iL l2 := by simp [iL]
  by_cases h0 : l2 = []
  · subst h0
    refine ⟨v1, w, o, ?_, by simpa using h1, Fr.refl _ _ _⟩
    rcases h1.1.2 with ⟨hv, hn⟩ | ⟨g, cap, cur, hv, _, _, hle, _⟩
    · rcases h2.1.2 with ⟨hv2, hn2⟩ | ⟨g2, cap2, cur2, hv2, _⟩
      · rw [hv, hv2]
        simp [Builtin.append_, run_underlying Tryz.underlying45, sizeOf, typeInfo, hi, hz1, Builtin.lenOf, Builtin.firstCells, Result.andThen, storeCells, loadCells, loadCellsFrom]
      · rw [hv, hv2]
        simp [iL, Builtin.append_, run_underlying Tryz.underlying45, sizeOf, typeInfo, hi, hz1, Builtin.lenOf, Builtin.firstCells, Result.andThen, storeCells, loadCells, loadCellsFrom]
    · rcases h2.1.2 with ⟨hv2, hn2⟩ | ⟨g2, cap2, cur2, hv2, _⟩
      · rw [hv, hv2]
        simp [Builtin.append_, run_underlying Tryz.underlying45, sizeOf, typeInfo, hi, hz1, Builtin.lenOf, Builtin.firstCells, hle, Result.andThen, storeCells, loadCells, loadCellsFrom]
      · rw [hv, hv2]
        have hle2 : (iL l1).length + (iL ([] : List Nat)).length ≤ cap := by rw [show (iL ([] : List Nat)).length = 0 from rfl]; omega
        simp [iL] at hle2
        simp [iL, Builtin.append_, run_underlying Tryz.underlying45, sizeOf, typeInfo, hi, hz1, Builtin.lenOf, Builtin.firstCells, hle2, Result.andThen, storeCells, loadCells, loadCellsFrom]
  · have hp : 0 < l2.length := List.length_pos_iff.2 h0
    obtain ⟨g2, c2, hv2, hg2, hgl2⟩ := h2.1.form (by omega)
    subst hv2
    obtain ⟨g, cap, w3, hr, ho, hg, hat, _⟩ := run_append_lies (P := Tryz.prog) (w := w) 45 45 N 3 i0 _ 1 8 Tryz.underlying45 hi hz0 hz1 hz2 rfl (by decide) v1 (iL l1).length (iL l1) h1.1 ⟨g2, 0, none⟩ (iL l2).length c2 (iL l2) (by omega) (h2.1.cells (g := g2) rfl) (by intro u hu; unfold iL at hu; obtain ⟨n, _, rfl⟩ := List.mem_map.1 hu; rfl) (by omega) (by unfold maxLen; omega) (by omega) hN _ rfl
    refine ⟨_, w3, upV o (.slice (some ⟨g, 0, none⟩) ((iL l1).length + (iL l2).length) cap) i1, hr, ⟨?_, fun b hb => upV_yes hb⟩, ⟨hg.os, hg.tape, hg.output, hg.size, fun b hb hn => ?_⟩⟩
    · rw [e3, List.length_append]; exact ho
    · have hne : v1.ownBlock ≠ some b := fun e => hn (h1.2 b e)
      have hgb : g ≠ b := fun e => by
        subst e
        rcases hat with e | e
        · exact hne e
        · omega
      exact ⟨hg.block b hb (fun e => hne e.symm), upV_no (by simpa [Value.ownBlock] using hgb)⟩
/-- A row within mb is another one now. -/
theorem KlAt.row_mb {N B r : Nat} {X : Nat → Prop} {w w3 : World} {o o3 : Nat → Oid} {k : Kl} {m : Km} (h : KlAt N B r X w o k m) {i : Nat} (hi : i < k.mb.length) (hf : Fr (fun j => j = (9, i)) o w o3 w3) {v : Value} {l : List Nat} (hrow : Rwo w3 N o3 (9, i) 3 1 v (iL l).length (iL l)) :
    ∃ g c, m.v3 = .slice (some ⟨g, 0, none⟩) m.vm.length c ∧ w3.cell? ⟨g, i, none⟩ = some (gd m.vm nV i) ∧ w3.frozen? ⟨g, i, none⟩ = false ∧
      KlAt N B r X (w3.setCell ⟨g, i, none⟩ v) o3 { k with mb := k.mb.set i l } { m with vm := m.vm.set i v } ∧ Fr (fun j => j = (9, i) ∨ j = (6, 0)) o w o3 (w3.setCell ⟨g, i, none⟩ v) := by
  have hll := h.l3
  have hr3 := h.r3.fr hf (by simp)
  obtain ⟨a, c, hv⟩ := hr3.shape
  rw [hv] at hr3
  obtain ⟨g, u, rfl, hu, hcell, hfz, hog, hglt, _⟩ := hr3.at (i := i) (by omega)
  have hue : u = gd m.vm nV i := by unfold gd; rw [hu]; rfl
  obtain ⟨hp, hpf⟩ := hr3.put i v
  have hF : Fr (fun j => j = (9, i) ∨ j = (6, 0)) o w o3 (w3.setCell ⟨g, i, none⟩ v) := (hf.mono fun j hj => Or.inl hj).trans (hpf.mono fun j hj => Or.inr hj)
  have hrow2 := hrow.fr hpf (by simp)
  have hBb := hF.blk B h.box.lt (by rw [h.oB]; simp)
  have hRr := hF.blk r h.map.lt (by rw [h.oR]; simp)
  refine ⟨g, c, hv, by rw [hcell, hue], hfz, ⟨hBb.1.trans h.box, h.map.kept hRr.1, h.nB, h.nr, Nat.le_trans h.nN hF.size, hBb.2.trans h.oB, hRr.2.trans h.oR, h.r0.fr hF (by simp), h.ts, fun x hx => (h.tx x hx).kept fun b hb => (hF.blk b (h.hX b hb).1 (by rw [(h.hX b hb).2]; simp)).1, fun b hb => ⟨Nat.lt_of_lt_of_le (h.hX b hb).1 hF.size, (hF.blk b (h.hX b hb).1 (by rw [(h.hX b hb).2]; simp)).2.trans (h.hX b hb).2⟩, h.r1.fr hF (by simp), h.r2.fr hF (by simp), ?_, h.r4.fr hF (by simp), h.l1, by simp [hll], h.l4, fun j hj => (h.i1 j hj).fr hF (by simp), ?_, fun j hj => (h.i4 j hj).fr hF (by simp)⟩, hF⟩
  · show Rwo _ N o3 (6, 0) 45 1 m.v3 (m.vm.set i v).length (m.vm.set i v)
    rw [hv, List.length_set]
    exact hp
  · intro j hj
    have hj : j < k.mb.length := by simpa using hj
    by_cases hij : i = j
    · subst hij
      have e1 : gd (m.vm.set i v) nV i = v := gd_set (by omega)
      have e2 : Kl.M { k with mb := k.mb.set i l } i = l := gd_set hi
      show Rwo _ N o3 (9, i) 3 1 (gd (m.vm.set i v) nV i) (iL (Kl.M { k with mb := k.mb.set i l } i)).length (iL (Kl.M { k with mb := k.mb.set i l } i))
      rw [e1, e2]
      exact hrow2
    · have e1 : gd (m.vm.set i v) nV j = gd m.vm nV j := gd_set_ne hij
      have e2 : Kl.M { k with mb := k.mb.set i l } j = k.M j := gd_set_ne hij
      show Rwo _ N o3 (9, j) 3 1 (gd (m.vm.set i v) nV j) (iL (Kl.M { k with mb := k.mb.set i l } j)).length (iL (Kl.M { k with mb := k.mb.set i l } j))
      rw [e1, e2]
      exact (h.i3 j hj).fr hF (by simp; exact fun e => hij e.symm)
/-- A row within ab is another one now. -/
theorem KlAt.row_ab {N B r : Nat} {X : Nat → Prop} {w w3 : World} {o o3 : Nat → Oid} {k : Kl} {m : Km} (h : KlAt N B r X w o k m) {i : Nat} (hi : i < k.ab.length) (hf : Fr (fun j => j = (10, i)) o w o3 w3) {v : Value} {l : List Nat} (hrow : Rwo w3 N o3 (10, i) 3 1 v (iL l).length (iL l)) :
    ∃ g c, m.v4 = .slice (some ⟨g, 0, none⟩) m.va.length c ∧ w3.cell? ⟨g, i, none⟩ = some (gd m.va nV i) ∧ w3.frozen? ⟨g, i, none⟩ = false ∧
      KlAt N B r X (w3.setCell ⟨g, i, none⟩ v) o3 { k with ab := k.ab.set i l } { m with va := m.va.set i v } ∧ Fr (fun j => j = (10, i) ∨ j = (7, 0)) o w o3 (w3.setCell ⟨g, i, none⟩ v) := by
  have hll := h.l4
  have hr3 := h.r4.fr hf (by simp)
  obtain ⟨a, c, hv⟩ := hr3.shape
  rw [hv] at hr3
  obtain ⟨g, u, rfl, hu, hcell, hfz, hog, hglt, _⟩ := hr3.at (i := i) (by omega)
  have hue : u = gd m.va nV i := by unfold gd; rw [hu]; rfl
  obtain ⟨hp, hpf⟩ := hr3.put i v
  have hF : Fr (fun j => j = (10, i) ∨ j = (7, 0)) o w o3 (w3.setCell ⟨g, i, none⟩ v) := (hf.mono fun j hj => Or.inl hj).trans (hpf.mono fun j hj => Or.inr hj)
  have hrow2 := hrow.fr hpf (by simp)
  have hBb := hF.blk B h.box.lt (by rw [h.oB]; simp)
  have hRr := hF.blk r h.map.lt (by rw [h.oR]; simp)
  refine ⟨g, c, hv, by rw [hcell, hue], hfz, ⟨hBb.1.trans h.box, h.map.kept hRr.1, h.nB, h.nr, Nat.le_trans h.nN hF.size, hBb.2.trans h.oB, hRr.2.trans h.oR, h.r0.fr hF (by simp), h.ts, fun x hx => (h.tx x hx).kept fun b hb => (hF.blk b (h.hX b hb).1 (by rw [(h.hX b hb).2]; simp)).1, fun b hb => ⟨Nat.lt_of_lt_of_le (h.hX b hb).1 hF.size, (hF.blk b (h.hX b hb).1 (by rw [(h.hX b hb).2]; simp)).2.trans (h.hX b hb).2⟩, h.r1.fr hF (by simp), h.r2.fr hF (by simp), h.r3.fr hF (by simp), ?_, h.l1, h.l3, by simp [hll], fun j hj => (h.i1 j hj).fr hF (by simp), fun j hj => (h.i3 j hj).fr hF (by simp), ?_⟩, hF⟩
  · show Rwo _ N o3 (7, 0) 45 1 m.v4 (m.va.set i v).length (m.va.set i v)
    rw [hv, List.length_set]
    exact hp
  · intro j hj
    have hj : j < k.ab.length := by simpa using hj
    by_cases hij : i = j
    · subst hij
      have e1 : gd (m.va.set i v) nV i = v := gd_set (by omega)
      have e2 : Kl.A { k with ab := k.ab.set i l } i = l := gd_set hi
      show Rwo _ N o3 (10, i) 3 1 (gd (m.va.set i v) nV i) (iL (Kl.A { k with ab := k.ab.set i l } i)).length (iL (Kl.A { k with ab := k.ab.set i l } i))
      rw [e1, e2]
      exact hrow2
    · have e1 : gd (m.va.set i v) nV j = gd m.va nV j := gd_set_ne hij
      have e2 : Kl.A { k with ab := k.ab.set i l } j = k.A j := gd_set_ne hij
      show Rwo _ N o3 (10, j) 3 1 (gd (m.va.set i v) nV j) (iL (Kl.A { k with ab := k.ab.set i l } j)).length (iL (Kl.A { k with ab := k.ab.set i l } j))
      rw [e1, e2]
      exact (h.i4 j hj).fr hF (by simp; exact fun e => hij e.symm)
end Go.Proofs.YtdmaijmglblccaaGreatDoor

/- Memory: bytes of one's own, also those that were a text's; what is appended to them. -/
namespace Go.Proofs.YtdmaijmglblccaaGreatDoor
open Go.RowKit
set_option linter.unusedSimpArgs false
set_option linter.unusedVariables false
set_option maxRecDepth 8000

theorem setCells_heap (b : Nat) (T : Nat) (fz : Nat × Nat) : ∀ (vs : List Value) (o : Nat) (w : World) (cur : Array Value), w.heap[b]? = some (.cells cur T fz) → o + vs.length ≤ cur.size →
    ∃ cur', (w.setCells b o vs).heap[b]? = some (.cells cur' T fz) ∧ cur'.size = cur.size ∧ cur'.toList.take (o + vs.length) = cur.toList.take o ++ vs ∧ (w.setCells b o vs).heap.size = w.heap.size ∧ (∀ k, k ≠ b → (w.setCells b o vs).heap[k]? = w.heap[k]?) ∧ (w.setCells b o vs).os = w.os ∧ (w.setCells b o vs).tape = w.tape ∧ (w.setCells b o vs).output = w.output
  | [], o, w, cur, h, _ => ⟨cur, h, rfl, by simp, rfl, fun _ _ => rfl, rfl, rfl, rfl⟩
  | v :: r, o, w, cur, h, hl => by
    simp only [List.length_cons] at hl
    have hlt : b < w.heap.size := (Array.getElem?_eq_some_iff.1 h).1
    have h1 : (w.setCell ⟨b, o, none⟩ v).heap[b]? = some (.cells (cur.setIfInBounds o v) T fz) := by
      obtain ⟨hl1, he⟩ := Array.getElem?_eq_some_iff.1 h
      simp [World.setCell, Array.getElem?_modify, h]
    obtain ⟨cur', g1, g2, g3, g4, g5, g6, g7, g8⟩ := setCells_heap b T fz r (o + 1) (w.setCell ⟨b, o, none⟩ v) _ h1 (by simp; omega)
    refine ⟨cur', g1, by simpa using g2, ?_, g4.trans (by simp [World.setCell]), fun k hk => (g5 k hk).trans (Below.heap_setCell _ _ _ _ (by simpa using hk)), g6, g7, g8⟩
    have e1 : o + (v :: r).length = o + 1 + r.length := by simp only [List.length_cons]; omega
    rw [e1, g3]
    have e2 : (cur.setIfInBounds o v).toList.take (o + 1) = cur.toList.take o ++ [v] := by
      rw [Array.toList_setIfInBounds, List.take_set, List.take_succ_eq_append_getElem (by simp; omega)]
      have hz : (cur.toList.take o).length = o := by simp; omega
      rw [List.set_append_right _ _ (by omega), hz, Nat.sub_self]
      rfl
    rw [e2]
    simp
/-- Bytes of one's own: no cell of theirs is shut. -/
def ByM (w : World) (N : Nat) (v : Value) (l : List UInt8) : Prop :=
  ∃ g cap cur fz, v = .slice (some ⟨g, 0, none⟩) l.length cap ∧ N ≤ g ∧ w.heap[g]? = some (.cells cur 5 fz) ∧ l.length ≤ cap ∧ cap ≤ maxLen ∧ cur.size = cap ∧ (∀ j, j < cap → ¬ (fz.1 ≤ j ∧ j < fz.2)) ∧ cur.toList.take l.length = Lib.byteCells l
theorem ByM.lt {w : World} {N : Nat} {v : Value} {l : List UInt8} (h : ByM w N v l) : ∀ k, v.ownBlock = some k → N ≤ k ∧ k < w.heap.size := by
  obtain ⟨g, cap, cur, fz, rfl, h1, h2, _⟩ := h
  intro k hk
  have e : g = k := by simpa [Value.ownBlock] using hk
  subst e
  exact ⟨h1, (Array.getElem?_eq_some_iff.1 h2).1⟩
theorem ByM.later {w w' : World} {N : Nat} {v : Value} {l : List UInt8} (h : ByM w N v l) (hb : Below w.heap.size w w') : ByM w' N v l := by
  obtain ⟨g, cap, cur, fz, rfl, h1, h2, h3⟩ := h
  exact ⟨g, cap, cur, fz, rfl, h1, (hb.block g (Array.getElem?_eq_some_iff.1 h2).1).trans h2, h3⟩
theorem ByM.shape {w : World} {N : Nat} {v : Value} {l : List UInt8} (h : ByM w N v l) : ∃ a c, v = .slice a l.length c := by
  obtain ⟨g, cap, cur, fz, rfl, _⟩ := h
  exact ⟨_, _, rfl⟩
theorem ByM.cells {w : World} {N : Nat} {v : Value} {l : List UInt8} (h : ByM w N v l) : ∃ g cap, v = .slice (some ⟨g, 0, none⟩) l.length cap ∧ ∀ j u, (Lib.byteCells l)[j]? = some u → w.cell? ((⟨g, 0, none⟩ : Addr).add j) = some u := by
  obtain ⟨g, cap, cur, fz, rfl, h1, h2, h3, h4, h5, h6, h7⟩ := h
  refine ⟨g, cap, rfl, fun j u hj => ?_⟩
  have hadd : (⟨g, 0, none⟩ : Addr).add j = ⟨g, j, none⟩ := by unfold Addr.add; split <;> simp_all
  rw [hadd, cell_of_row w g j cur 5 fz h2]
  rw [← h7, List.getElem?_take] at hj
  split at hj
  · simpa using hj
  · cases hj
theorem byM_conv (w : World) (N : Nat) (s : ByteArray) (hN : N ≤ w.heap.size) (hs : s.size ≤ 100000) : ∃ v w', (convert 9 98 (.string s)).run Tryz.prog w = .ok v w' ∧ ByM w' N v s.data.toList ∧ Below w.heap.size w w' := by
  have hsz : s.data.toList.length = s.size := Array.length_toList
  have hge := grownCap_ge w s.size 0 5
  have hz : (bytesRow s (grownCap w s.size 0 5)).size = grownCap w s.size 0 5 := by
    rw [bytesRow, Array.size_append, Array.size_map, Array.size_replicate]
    have : s.data.size = s.size := rfl
    omega
  refine ⟨_, _, run_bytes_of_string (P := Tryz.prog) w 9 98 5 s Tryz.underlying9 Tryz.underlying98 Tryz.underlying5, ⟨w.heap.size, grownCap w s.size 0 5, _, _, ?_, hN, heap_alloc_new w.drew _, ?_, ?_, ?_, ?_, ?_⟩, ?_⟩
  · rw [hsz]
  · rw [hsz]; exact hge
  · exact grownCap_le_maxLen w s.size 0 5 (by unfold maxLen; omega)
  · exact hz
  · intro j hj h
    simp only [hz] at h
    omega
  · rw [bytesRow, Array.toList_append, Array.toList_map, Lib.byteCells, List.take_left' (by simp)]
  · exact (below_drewN (Below.refl _ _) 1).alloc (Nat.le_refl _) _
section
variable {w : World} {N : Nat} {v : Value} {l : List UInt8}
theorem byM_new {w : World} {N : Nat} {l news : List UInt8} {old : Nat} (hN : N ≤ w.heap.size) (hl : l.length + news.length ≤ 100000) : ∀ row, ByM (w.drew.alloc (.cells ((Lib.byteCells l).toArray ++ (Lib.byteCells news).toArray ++ Builtin.zeroCells (Value.int .u8 0).cells (grownCap w (l.length + news.length) old 5 - (l.length + news.length))) 5)) N (.slice (some ⟨w.heap.size, 0, none⟩) (l.length + news.length) (grownCap w (l.length + news.length) old 5)) (l ++ news) ∧
    w.grownBy (w.drew.alloc (.cells ((Lib.byteCells l).toArray ++ (Lib.byteCells news).toArray ++ Builtin.zeroCells (Value.int .u8 0).cells (grownCap w (l.length + news.length) old 5 - (l.length + news.length))) 5)) row := by
  intro row
  have hge := grownCap_ge w (l.length + news.length) old 5
  have hcm := grownCap_le_maxLen w (l.length + news.length) old 5 (by unfold maxLen; omega)
  have hz1 : (Value.int IntKind.u8 0).cells.size = 1 := rfl
  refine ⟨⟨w.heap.size, _, _, (0, 0), by rw [List.length_append], hN, heap_alloc_new w.drew _, by rw [List.length_append]; exact hge, hcm, ?_, (fun j _ h => absurd h.2 (Nat.not_lt_zero _)), ?_⟩, ⟨rfl, rfl, rfl, by simp, fun k hk _ => heap_alloc_old w.drew _ hk⟩⟩
  · simp only [Array.size_append, List.size_toArray, size_zeroCells, hz1, Lib.byteCells_length]
    omega
  · simp only [Array.toList_append, List.append_assoc]
    rw [← List.append_assoc]
    have e : Lib.byteCells l ++ Lib.byteCells news = Lib.byteCells (l ++ news) := by simp [Lib.byteCells]
    rw [e, ← Lib.byteCells_length (l ++ news)]
    exact List.take_left
theorem one_byteCells (l : List UInt8) : ∀ u ∈ Lib.byteCells l, u.oneCell' = true := by
  intro u hu
  simp only [Lib.byteCells, List.mem_map] at hu
  obtain ⟨b, _, rfl⟩ := hu
  rfl
theorem byM_room (h : ByM w N v l) {news : List UInt8} (hl : l.length + news.length ≤ 100000) : (∃ g cap, v = .slice (some ⟨g, 0, none⟩) l.length cap ∧ l.length + news.length ≤ cap ∧ (storeCells ⟨g, l.length, none⟩ (Lib.byteCells news)).run Tryz.prog w = .ok () (w.setCells g l.length (Lib.byteCells news)) ∧
      ByM (w.setCells g l.length (Lib.byteCells news)) N (.slice (some ⟨g, 0, none⟩) (l.length + news.length) cap) (l ++ news) ∧ w.grownBy (w.setCells g l.length (Lib.byteCells news)) v.ownBlock) ∨
    ∃ g cap, v = .slice (some ⟨g, 0, none⟩) l.length cap ∧ cap < l.length + news.length := by
  obtain ⟨g, cap, cur, fz, rfl, h1, h2, h3, h4, h5, h6, h7⟩ := h
  by_cases hr : l.length + news.length ≤ cap
  · refine Or.inl ⟨g, cap, rfl, hr, ?_, ?_⟩
    · have hs := run_storeCells_cells (P := Tryz.prog) g l.length (Lib.byteCells news) 0 w (fun j hj => ?_) (fun j hj => ?_) (one_byteCells news)
      · simpa using hs
      · rw [Lib.byteCells_length] at hj
        rw [cell_of_row w g _ cur 5 fz h2, Array.getElem?_eq_getElem (by omega)]
        rfl
      · rw [Lib.byteCells_length] at hj
        have := h6 (l.length + j) (by omega)
        simp [World.frozen?, h2]
        intro h
        exact Nat.le_of_not_lt fun h9 => this ⟨h, h9⟩
    · obtain ⟨cur', g1, g2, g3, g4, g5, g6, g7, g8⟩ := setCells_heap g 5 fz (Lib.byteCells news) l.length w cur h2 (by rw [Lib.byteCells_length]; omega)
      refine ⟨⟨g, cap, cur', fz, by rw [List.length_append], h1, g1, by rw [List.length_append]; exact hr, h4, by omega, h6, ?_⟩, ⟨g6, g7, g8, by omega, fun k _ hk => g5 k fun e => hk (by simp [Value.ownBlock, e])⟩⟩
      rw [List.length_append, ← Lib.byteCells_length news, g3, h7]
      simp [Lib.byteCells]
  · exact Or.inr ⟨g, cap, rfl, by omega⟩
/-- Bytes behind bytes. -/
theorem app_byM (h : ByM w N v l) (hN : N ≤ w.heap.size) (ad : Addr) (c : Nat) (news : List UInt8) (hn : ∀ j u, (Lib.byteCells news)[j]? = some u → w.cell? (ad.add j) = some u) (hl : l.length + news.length ≤ 100000) :
    ∃ v' w', (Builtin.append_ #[98, 98] 98 #[v, .slice (some ad) news.length c]).run Tryz.prog w = .ok v' w' ∧ ByM w' N v' (l ++ news) ∧ w.grownBy w' v.ownBlock := by
  obtain ⟨i0, hi, hz, hz1, hz2⟩ := info_parts Tryz.infoByte
  have ht := Tryz.underlying98
  rcases byM_room h hl with ⟨g, cap, rfl, hr, hst, hb, hg⟩ | ⟨g, cap, rfl, hr⟩
  · refine ⟨_, _, ?_, hb, hg⟩
    have hf := run_firstCells_some (P := Tryz.prog) w 1 news.length ad news.length c (Lib.byteCells news) (by rw [Lib.byteCells_length]; omega) hn
    simp [Builtin.append_, run_underlying ht, sizeOf, typeInfo, hi, hz1, Builtin.lenOf, hr, hf, Addr.add_lit, hst]
  · obtain ⟨g', cap', e, hc⟩ := h.cells
    cases e
    have hgr := byM_new (old := cap) (news := news) (l := l) hN hl (Value.ownBlock (.slice (some ⟨g, 0, none⟩) l.length cap))
    refine ⟨_, _, ?_, hgr.1, hgr.2⟩
    exact run_append_grow (P := Tryz.prog) w 98 98 5 i0 (.int .u8 0) ht hi hz ⟨g, 0, none⟩ l.length cap (Lib.byteCells l) (by rw [hz1, Lib.byteCells_length]; omega) hc ad news.length c (Lib.byteCells news) (by rw [hz1, Lib.byteCells_length]; omega) hn hr (by omega) (by rw [hz2]; exact growslice_fits (by omega) (by omega))
/-- A text behind bytes. -/
theorem app_byS (h : ByM w N v l) (hN : N ≤ w.heap.size) (s : ByteArray) (hl : l.length + s.size ≤ 100000) :
    ∃ v' w', (Builtin.append_ #[98, 9] 98 #[v, .string s]).run Tryz.prog w = .ok v' w' ∧ ByM w' N v' (l ++ s.data.toList) ∧ w.grownBy w' v.ownBlock := by
  obtain ⟨i0, hi, hz, hz1, hz2⟩ := info_parts Tryz.infoByte
  have ht := Tryz.underlying98
  have hu := Tryz.underlying9
  have hsz : s.data.toList.length = s.size := Array.length_toList
  have hsc : Lib.strCells s = Lib.byteCells s.data.toList := rfl
  rcases byM_room (news := s.data.toList) h (by rw [hsz]; exact hl) with ⟨g, cap, rfl, hr, hst, hb, hg⟩ | ⟨g, cap, rfl, hr⟩
  · rw [hsz] at hr hb
    refine ⟨_, _, ?_, hb, hg⟩
    have hf := Lib.run_firstCells_string (P := Tryz.prog) w 1 s
    rw [hsc] at hf
    simp [Builtin.append_, run_underlying ht, run_underlying hu, sizeOf, typeInfo, hi, hz1, Builtin.lenOf, hr, hf, Addr.add_lit, hst]
  · rw [hsz] at hr
    obtain ⟨g', cap', e, hc⟩ := h.cells
    cases e
    have hgr := byM_new (old := cap) (news := s.data.toList) (l := l) hN (by rw [hsz]; exact hl) (Value.ownBlock (.slice (some ⟨g, 0, none⟩) l.length cap))
    rw [hsz] at hgr
    refine ⟨_, _, ?_, hgr.1, hgr.2⟩
    exact Lib.run_append_grow_string (P := Tryz.prog) w 98 9 98 5 i0 (.int .u8 0) ht hu hi hz ⟨g, 0, none⟩ l.length cap (Lib.byteCells l) (by rw [hz1, Lib.byteCells_length]; omega) hc s hr (by omega) (by rw [hz2]; exact growslice_fits (by omega) (by omega))
end
end Go.Proofs.YtdmaijmglblccaaGreatDoor

/- The text of a lambda term. -/
namespace Go.Proofs.YtdmaijmglblccaaGreatDoor

end Go.Proofs.YtdmaijmglblccaaGreatDoor


/- Walks: a number's decimals, as the document writes them. -/
namespace Go.Proofs.YtdmaijmglblccaaGreatDoor
open Go.RowKit
set_option linter.unusedSimpArgs false
set_option linter.unusedVariables false
set_option maxRecDepth 8000

end Go.Proofs.YtdmaijmglblccaaGreatDoor


/- Walks: names from outside, by the program and by the document. -/
namespace Go.Proofs.YtdmaijmglblccaaGreatDoor
open Go.RowKit
set_option linter.unusedSimpArgs false
set_option linter.unusedVariables false
set_option maxRecDepth 8000

end Go.Proofs.YtdmaijmglblccaaGreatDoor


/- Walks: writing into a Builder that is part of a writer, with all else as it was. -/
namespace Go.Proofs.YtdmaijmglblccaaGreatDoor
open Go.RowKit
set_option linter.unusedSimpArgs false
set_option linter.unusedVariables false

end Go.Proofs.YtdmaijmglblccaaGreatDoor


/- Walks: the text of a lambda term, as the document writes it. -/
namespace Go.Proofs.YtdmaijmglblccaaGreatDoor
open Go.RowKit
set_option linter.unusedSimpArgs false
set_option linter.unusedVariables false
set_option maxRecDepth 8000

end Go.Proofs.YtdmaijmglblccaaGreatDoor


/- Walks: the text of a lambda term, as the program writes it. -/
namespace Go.Proofs.YtdmaijmglblccaaGreatDoor
open Go.RowKit
set_option linter.unusedSimpArgs false
set_option linter.unusedVariables false
set_option maxRecDepth 8000

/-- The library's table of powers, whatever is done from block B on. -/
def Tb (B : Nat) (w : World) : Prop := Lib.TabBelow Tryz.prog B w "internal/strconv.uint64pow10" .u64 Lib.pow10Tab
theorem Tb.on {B : Nat} {w w1 : World} (h : Tb B w) (hb : Below B w w1) : Tb B w1 := Lib.TabBelow.on h hb
theorem MV.bfr {w w' : World} {X : Nat → Prop} {v : Value} {t : Lm} {B : Nat} (h : MV w X v t) (hb : Below B w w') (hX : ∀ x, X x → x < B) : MV w' X v t := h.below hb (fun b hb _ => hX b hb)
theorem LV.bfr {w w' : World} {Y : Nat → Prop} {v : Value} {l : List ByteArray} {B : Nat} (h : LV Value.string w Y v l) (hb : Below B w w') (hX : ∀ x, Y x → x < B) : LV Value.string w' Y v l := h.below hb (fun b hb _ => hX b hb)
end Go.Proofs.YtdmaijmglblccaaGreatDoor

/- Walks: a number's digits behind bytes (strconv.AppendInt). -/
namespace Go.Proofs.YtdmaijmglblccaaGreatDoor
open Go.RowKit Go.Sort Go.Lib
set_option linter.unusedSimpArgs false
set_option linter.unusedVariables false
set_option maxRecDepth 8000

/-- Bytes with digits behind them. -/
def AiP (N : Nat) (l : List UInt8) (u : Nat) (w : World) (e : Ending) (w' : World) : Prop := ∃ v', e = .returned v' ∧ ByM w' N v' (l ++ Lib.decDigits u) ∧ Below N w w'
theorem dig_size (u : Nat) : (⟨(Lib.decDigits u).toArray⟩ : ByteArray).size = (Lib.decDigits u).length := by simp [ByteArray.size]
set_option maxHeartbeats 4000000 in
theorem appUint_small (N : Nat) (l : List UInt8) (u : Nat) (hu : u < 100) (v : Value) (w : World) (h : ByM w N v l) (hN : N ≤ w.heap.size) (hl : l.length ≤ 90000) :
    Calls Tryz.prog 114 #[v, .int .u64 (u : Int), .int .i64 10] w (AiP N l u w) := by
  have hlen : (Lib.decDigits u).length ≤ 20 := by
    rw [Lib.decDigits_length]
    by_cases h10 : u < 10
    · rw [Lib.nDigits_small h10]; omega
    · rw [Lib.nDigits_big h10, Lib.nDigits_small (show u / 10 < 10 by omega)]; omega
  obtain ⟨v', w', hr, hb, hg⟩ := app_byS h hN ⟨(Lib.decDigits u).toArray⟩ (by rw [dig_size]; omega)
  have HR := hide hr
  have HB := hide hb
  have HG : Hid (Below N w w') := (Below.refl N w).grown hg hN fun k hk => (h.lt k hk).1
  have hui : (u : Int) < 100 := by omega
  obtain ⟨a, c, rfl⟩ := h.shape
  clear hr hb hg h hlen
  go_enter Tryz.func114, Tryz.ntmps114
  go_wp2_with fail
  refine (Tryz.internal_strconv_small u hu _).mono ?_
  rintro e w1 ⟨rfl, rfl⟩
  go_wp2_with (at_builtin; refine wpList_append_eq rfl _ _ _ _ rfl rfl rfl HR.out ?_)
  go_ret
  exact ⟨v', rfl, by simpa using HB.out, HG.out⟩
set_option maxHeartbeats 8000000 in
theorem appUint_big (N : Nat) (l : List UInt8) (u : Nat) (hu : 100 ≤ u) (hu2 : u < 100000) (v : Value) (w : World) (h : ByM w N v l) (hN : N ≤ w.heap.size) (hl : l.length ≤ 90000) (hT : Tb N w) :
    Calls Tryz.prog 114 #[v, .int .u64 (u : Int), .int .i64 10] w (AiP N l u w) := by
  have hu1 : 1 ≤ u := by omega
  have hu64 : u < 18446744073709551616 := by omega
  have hnd20 : Lib.nDigits u ≤ 20 := by have := Lib.numDigits_eq u hu1 hu64; split at this <;> omega
  have hal : Tryz.prog.arrayLen 150 = 24 := by kernel_rfl
  have hsl : ∀ W, (Instr.sliceAt 150 (.pointer (some ⟨w.heap.size, 0, none⟩)) none (some (.int .i64 (Lib.nDigits u : Int))) none).run Tryz.prog W = .ok (.slice (some ⟨w.heap.size, 0, none⟩) (Lib.nDigits u) 24) W := fun W => by
    rw [run_sliceAt_array_h W 150 ⟨w.heap.size, 0, none⟩ (by kernel_rfl) .i64 (Lib.nDigits u : Int) (by omega) (by rw [hal]; omega)]
    go_simp
  have hH0 := Lib.holds_zero0 w 150 (Lib.nDigits u) (by omega)
  have hfmt := Tryz.internal_strconv_formatBase10 w.heap.size 0 24 u (Array.replicate (Lib.nDigits u) 0) (w.alloc (.cells Lib.zeros24 150)) hH0 (by rw [Array.size_replicate]; exact Lib.lt_pow_nDigits u) hu64 (by rw [Array.size_replicate]; omega)
  rw [Array.size_replicate] at hfmt
  have HH0 := hide hH0
  have HF := hide hfmt
  have HBY := hide h
  have iu : ¬ (u : Int) < 100 := by omega
  obtain ⟨a, c, rfl⟩ := h.shape
  clear hH0 hal hfmt h
  go_enter Tryz.func114, Tryz.ntmps114
  go_wp2_with fail
  refine (Tryz.internal_strconv_numDigits u hu1 hu64 _ (Lib.tabIs_alloc hT.here _)).mono ?_
  rintro e w' ⟨rfl, rfl⟩
  go_wp2_with fail
  refine HF.out.mono ?_
  rintro e w' ⟨rfl, k, v', dk, rfl, hF⟩
  have hcells : ∀ j u', (Lib.byteCells (Lib.decDigits u))[j]? = some u' → ((putRow (fun (b : UInt8) => Value.int .u8 (b.toNat : Int)) (w.alloc (.cells Lib.zeros24 150)) w.heap.size 0 dk).drewN k).cell? ((⟨w.heap.size, 0, none⟩ : Addr).add j) = some u' := by
    intro j u' hj
    have hjl : j < (Lib.decDigits u).length := by
      have h5 := (List.getElem?_eq_some_iff.1 hj).1
      rwa [Lib.byteCells_length] at h5
    have e5 : (Lib.byteCells (Lib.decDigits u))[j]? = some (Value.int .u8 ((Lib.decDigits u)[j].toNat : Int)) := by simp [Lib.byteCells, hjl]
    rw [e5] at hj
    cases hj
    rw [Lib.row_is_numeral hF j hjl, Lib.add_plain, World.cell?_drewN]
    exact cell?_putRow (fun (b : UInt8) => Value.int .u8 (b.toNat : Int)) _ w.heap.size 0 _ dk HH0.out (by rw [hF.size, Array.size_replicate]) j (by rw [hF.size]; rw [Lib.decDigits_length] at hjl; exact hjl)
  obtain ⟨os, eo⟩ := Lib.fin_at w (.cells Lib.zeros24 150) dk k 0
  have hnx : Below w.heap.size w ((putRow (fun (b : UInt8) => Value.int .u8 (b.toNat : Int)) (w.alloc (.cells Lib.zeros24 150)) w.heap.size 0 dk).drewN k) := by rw [eo]; exact Lib.below_grow w.heap.size w (Nat.le_refl _) k os
  generalize (putRow (fun (b : UInt8) => Value.int .u8 (b.toNat : Int)) (w.alloc (.cells Lib.zeros24 150)) w.heap.size 0 dk).drewN k = W2 at hcells hnx ⊢
  have h2 := HBY.out.later hnx
  obtain ⟨v2, w3, hr, hb, hg⟩ := app_byM h2 (Nat.le_trans hN hnx.size) ⟨w.heap.size, 0, none⟩ 24 (Lib.decDigits u) hcells (by rw [Lib.decDigits_length]; omega)
  rw [Lib.decDigits_length] at hr
  have HR := hide hr
  have HB := hide hb
  have HG : Hid (Below N w w3) := (hnx.mono hN).grown hg (Nat.le_trans hN hnx.size) fun k hk => (h2.lt k hk).1
  clear hr hb hg eo HH0 HF hcells hnx h2
  go_wp2_with (at_builtin; refine wpList_append_eq rfl _ _ _ _ rfl rfl rfl HR.out ?_)
  go_ret
  exact ⟨v2, rfl, HB.out, HG.out⟩
theorem appUint_any (N : Nat) (l : List UInt8) (u : Nat) (hu : u < 100000) (v : Value) (w : World) (h : ByM w N v l) (hN : N ≤ w.heap.size) (hl : l.length ≤ 90000) (hT : Tb N w) :
    Calls Tryz.prog 114 #[v, .int .u64 (u : Int), .int .i64 10] w (AiP N l u w) := by
  by_cases h1 : u < 100
  · exact appUint_small N l u h1 v w h hN hl
  · exact appUint_big N l u (by omega) hu v w h hN hl hT
set_option maxHeartbeats 4000000 in
theorem appInt1_any (N : Nat) (l : List UInt8) (u : Nat) (hu : u < 100000) (v : Value) (w : World) (h : ByM w N v l) (hN : N ≤ w.heap.size) (hl : l.length ≤ 90000) (hT : Tb N w) :
    Calls Tryz.prog 104 #[v, .int .i64 (u : Int), .int .i64 10] w (AiP N l u w) := by
  have HC := hide (appUint_any N l u hu v w h hN hl hT)
  obtain ⟨a, c, rfl⟩ := h.shape
  have hwr : IntKind.u64.wrap (u : Int) = (u : Int) := by rw [IntKind.wrap_u64]; omega
  have hng : ¬ (u : Int) < 0 := by omega
  clear h hT
  go_enter Tryz.func104, Tryz.ntmps104
  go_wp2_with fail
  refine HC.out.mono ?_
  rintro e w1 ⟨v1, rfl, hb, hbl⟩
  go_wp2_with fail
  go_ret
  exact ⟨v1, rfl, hb, hbl⟩
set_option maxHeartbeats 4000000 in
theorem appInt_any (N : Nat) (l : List UInt8) (u : Nat) (hu : u < 100000) (v : Value) (w : World) (h : ByM w N v l) (hN : N ≤ w.heap.size) (hl : l.length ≤ 90000) (hT : Tb N w) :
    Calls Tryz.prog 78 #[v, .int .i64 (u : Int), .int .i64 10] w (AiP N l u w) := by
  have HC := hide (appInt1_any N l u hu v w h hN hl hT)
  obtain ⟨a, c, rfl⟩ := h.shape
  clear h hT
  go_enter Tryz.func78, Tryz.ntmps78
  go_wp2_with fail
  refine HC.out.mono ?_
  rintro e w1 ⟨v1, rfl, hb, hbl⟩
  go_wp2_with fail
  go_ret
  exact ⟨v1, rfl, hb, hbl⟩
end Go.Proofs.YtdmaijmglblccaaGreatDoor

/- Walks: a term's sign (closure's classes.sign). -/
namespace Go.Proofs.YtdmaijmglblccaaGreatDoor
open Go.RowKit
set_option linter.unusedSimpArgs false
set_option linter.unusedVariables false
set_option maxRecDepth 8000

theorem byM_back {w : World} {N : Nat} {v : Value} {l : List UInt8} (h : ByM w N v l) : (convert 98 9 v).run Tryz.prog w = .ok (.string ⟨l.toArray⟩) w := by
  obtain ⟨g, cap, rfl, hc⟩ := h.cells
  refine run_convert_bytes_back (P := Tryz.prog) w 98 9 5 ⟨g, 0, none⟩ cap l Tryz.underlying98 Tryz.underlying5 Tryz.underlying9 fun j hj => ?_
  exact hc j _ (by simp [Lib.byteCells, List.getElem?_map, List.getElem?_eq_getElem hj])
theorem dec_lenK (u : Nat) (h : u < 100000) : (Lib.decDigits u).length ≤ 20 := by
  rw [Lib.decDigits_length]
  by_cases h0 : 1 ≤ u
  · have := Lib.numDigits_eq u h0 (by omega)
    split at this <;> omega
  · have : u = 0 := by omega
    subst this
    rw [Lib.nDigits_small (by omega)]
    omega
theorem sgW_len (f : Nat → Nat) (hf : ∀ b, f b < 100000) : ∀ l : List Nat, (sgW (l.map f)).length ≤ 21 * l.length
  | [] => Nat.le_refl _
  | c :: r => by
    have h1 := dec_lenK (f c) (hf c)
    have h2 := sgW_len f hf r
    simp only [List.map_cons, sgW, List.length_cons, List.length_append]
    omega
theorem sgW_snoc (f : Nat → Nat) (l : List Nat) (j : Nat) (h : j < l.length) : sgW ((l.take (j + 1)).map f) = sgW ((l.take j).map f) ++ ([32] ++ Lib.decDigits (f l[j])) := by
  rw [List.take_succ_eq_append_getElem h, List.map_append, sgW_app]
  simp [sgW]
set_option maxHeartbeats 4000000 in
theorem sign_any {BT N B r : Nat} {X : Nat → Prop} {w : World} {o : Nat → Oid} {k : Kl} {m : Km} (h : KlAt N B r X w o k m) (hT : Tb BT w) (hBT : BT ≤ w.heap.size) {id : Oid} {v : Value} {bs : List Nat} (hb : Rwo w N o id 3 1 v (iL bs).length (iL bs)) (hlt : ∀ b ∈ bs, b < k.cl.length) (hc : ∀ b, k.C b < 100000) (s : ByteArray) (hs : s.size ≤ 1000) (hbl : bs.length ≤ 1000) :
    Calls Tryz.prog 61 #[.pointer (some ⟨B, 0, none⟩), .string s, v] w fun e w' => e = .returned (.string (sgn s (bs.map k.C))) ∧ Below w.heap.size w w' := by
  obtain ⟨a, c, rfl⟩ := hb.shape
  rw [iL_len] at hb
  obtain ⟨sv, w1, hconv, hby, hb1⟩ := byM_conv w w.heap.size s (Nat.le_refl _) (by omega)
  have HK := hide h
  have HB := hide hb
  have HLT := hide hlt
  have HC := hide hc
  have HT := hide (show Tb w.heap.size w from fun w' h => hT w' (h.mono hBT))
  have HBY : Hid (ByM w1 w.heap.size sv (s.data.toList ++ sgW ((bs.take 0).map k.C))) := by unfold Hid; simpa [sgW] using hby
  have HB1 := hide hb1
  have hsz : s.data.toList.length = s.size := Array.length_toList
  rw [iL_len]
  clear hlt hc hT hBT hby hb1 hb h
  go_enter Tryz.func61, Tryz.ntmps61
  go_wp2_with fail
  clear hconv
  go_loopw [7, 14] (fun v i wr => ∃ j : Nat, j ≤ bs.length ∧ i = .int .i64 (j : Int) ∧ ByM wr w.heap.size v (s.data.toList ++ sgW ((bs.take j).map k.C)) ∧ Below w.heap.size w wr) (fun v i wr => bs.length - (intOf i).toNat)
  case atStart => exact ⟨0, Nat.zero_le _, rfl, HBY.out, HB1.out⟩
  case round =>
    obtain ⟨j, hj, rfl, hby, hbw⟩ := hrel
    have HBW := hide hbw
    have HBYR := hide hby
    by_cases hin : j < bs.length
    · have hji : (j : Int) < (bs.length : Int) := by omega
      obtain ⟨g, u, rfl, hu, hcell, -, -, -, -⟩ := (HB.out.later hbw).at hin
      have hu2 := iL_at hu
      rw [gd_get hin] at hu2
      subst hu2
      have hbj := HLT.out bs[j] (List.getElem_mem hin)
      have hlen : (s.data.toList ++ sgW ((bs.take j).map k.C)).length ≤ 80000 := by
        have := sgW_len k.C HC.out (bs.take j)
        rw [List.length_append, hsz]
        rw [List.length_take] at this
        omega
      have hcj := HC.out bs[j]
      have hz := hbw.size
      obtain ⟨v2, w2, hr2, hby2, hg2⟩ := app_byM (hby.later ((Below.refl _ _).alloc (Nat.le_refl _) (.cells #[.int .u8 32] 5))) (by simp; omega) ⟨wr.heap.size, 0, none⟩ 1 [32] (World.news_of_block (cs := #[.int .u8 32]) (heap_alloc_new wr _)) (by rw [show ([32] : List UInt8).length = 1 from rfl]; omega)
      have hlt2 := hby.lt
      have HB2 : Hid (Below w.heap.size w w2) := (hbw.alloc hz _).grown hg2 (by simp; omega) fun q hq => (hlt2 q hq).1
      obtain ⟨a2, c2, rfl⟩ := hby2.shape
      have HR2 := hide hr2
      have K2 := HK.out.later HB2.out
      have bx := K2.box
      have b2 := bx.cell 2
      simp at b2
      have hr := K2.r2
      obtain ⟨ca, cc, hv2⟩ := hr.shape
      rw [hv2] at b2 hr
      rw [iL_len] at b2 hr
      obtain ⟨gc, uc, rfl, huc, hcc, -, -, -, -⟩ := hr.at (i := bs[j]) hbj
      have hue : uc = iV (k.C bs[j]) := iL_at huc
      subst hue
      have hbji : ((bs[j] : Nat) : Int) < (k.cl.length : Int) := by omega
      have HTW : Hid (Tb w.heap.size w2) := HT.out.on HB2.out
      have HAI := hide (appInt_any w.heap.size ((s.data.toList ++ sgW ((bs.take j).map k.C)) ++ [32]) (k.C bs[j]) hcj _ w2 hby2 (by have := HB2.out.size; omega) (by simp at hlen ⊢; omega) HTW.out)
      have HE : Hid ((s.data.toList ++ sgW ((bs.take j).map k.C)) ++ [32] ++ Lib.decDigits (k.C bs[j]) = s.data.toList ++ sgW ((bs.take (j + 1)).map k.C)) := by unfold Hid; rw [sgW_snoc k.C bs j hin]; simp
      have hl1 : ((s.data.toList ++ sgW ((bs.take j).map k.C)) ++ [32]).length < 9223372036854775807 := by simp at hlen ⊢; omega
      clear hu huc hby hbw hz hr2 hby2 hg2 hlt2 hr bx K2 hlen
      generalize (s.data.toList ++ sgW ((bs.take j).map k.C)) ++ [32] = L at *
      generalize bs[j] = bj at *
      go_wp2_with (at_builtin; refine wpList_append_eq rfl _ _ _ _ rfl rfl rfl HR2.out ?_)
      refine HAI.out.mono ?_
      rintro e w3 ⟨v3, rfl, hby3, hb3⟩
      have HB3 := hide (HB2.out.trans hb3)
      have HBY3 := hide hby3
      rw [HE.out] at HBY3
      clear hby3 hb3
      go_wp2_with fail
      go_roundw
      case rel => exact ⟨j + 1, hin, by go_num, HBY3.out, HB3.out⟩
      case measure => simp [intOf]; omega
    · have hji : ¬ (j : Int) < (bs.length : Int) := by omega
      have hbk := byM_back hby
      have HE : Hid ((⟨(s.data.toList ++ sgW ((bs.take j).map k.C)).toArray⟩ : ByteArray) = sgn s (bs.map k.C)) := by unfold Hid sgn; rw [List.take_of_length_le (by omega)]
      rw [HE.out] at hbk
      clear hby hbw HE
      go_wp2_with fail
      go_ret
      exact ⟨rfl, HBW.out⟩
end Go.Proofs.YtdmaijmglblccaaGreatDoor

/- Walks: a term right above another one is noted (closure's classes.noteAbove). -/
namespace Go.Proofs.YtdmaijmglblccaaGreatDoor
open Go.RowKit
set_option linter.unusedSimpArgs false
set_option linter.unusedVariables false
set_option maxRecDepth 8000

theorem step_append_eqK {P : Program} {ops : Array Oper} {o : Oper} {a : Act} {K : Act → World → Prop} {Q : Exit → Act → World → Prop} {E : Prop} {w w' : World} {v u v' : Value} (hgd : o.guard = none) (s x : Operand) (t t' : TypeId)
    (ho : o.op = .call { callee := .builtin .append, args := #[s, x], argTypes := #[t, t'] }) (hs : a.eval s = v) (hx : a.eval x = u)
    (hr : (Builtin.append_ #[t, t'] o.type #[v, u]).run P w = .ok v' w') (h : K (a.put o.dst v') w') : if Region.wanted o (yielded ops a.tmps) = true then Oper.wp P o a w K Q else E := by
  have hw : Region.wanted o (yielded ops a.tmps) = true := by simp [Region.wanted, hgd]
  rw [if_pos hw]
  unfold Oper.wp execOp
  simp only [ho, resolve, invoke, builtin, Sem.run_bind, Sem.run_pure, Result.andThen_ok, List.map_toArray, List.map_cons, List.map_nil, hs, hx, hr]
  exact h
theorem last_none {l : List Nat} {p n : Nat} (h : l.length = p + 1) : l.getLast? = some n ↔ gd l 0 p = n := by
  rw [List.getLast?_eq_getElem?, h, Nat.add_sub_cancel]
  unfold gd
  have hp : p < l.length := by omega
  rw [List.getElem?_eq_getElem hp]
  simp
/-- One more in a row within above. -/
theorem note_step {N B r : Nat} {X : Nat → Prop} {w : World} {o : Nat → Oid} {k : Kl} {m : Km} (h : KlAt N B r X w o k m) {b : Nat} (n : Nat) (hb : b < k.ab.length) (hl : (k.A b).length ≤ 900000) :
    ∃ g cap w3 g4 c4 va o', m.v4 = .slice (some ⟨g4, 0, none⟩) m.va.length c4 ∧ (Builtin.append_ #[45, 45] 45 #[gd m.va nV b, .slice (some ⟨w.heap.size, 0, none⟩) 1 1]).run Tryz.prog (w.alloc (.cells #[iV n] 3)) = .ok (.slice (some ⟨g, 0, none⟩) ((k.A b).length + 1) cap) w3 ∧
      Blk w3 B #[m.v0, m.v1, m.v2, m.v3, m.v4, .map (some r)] 65 ∧ w3.cell? ⟨g4, b, none⟩ = some (gd m.va nV b) ∧ w3.frozen? ⟨g4, b, none⟩ = false ∧ g4 ≠ B ∧
      KlAt N B r X (w3.setCell ⟨g4, b, none⟩ (.slice (some ⟨g, 0, none⟩) ((k.A b).length + 1) cap)) o' { k with ab := k.ab.set b (k.A b ++ [n]) } { m with va := va } ∧ Exo o w o' (w3.setCell ⟨g4, b, none⟩ (.slice (some ⟨g, 0, none⟩) ((k.A b).length + 1) cap)) := by
  obtain ⟨g, cap, w3, hr, ho, hf⟩ := app_cell Tryz.underlying45 Tryz.infoInt rfl (by decide) (h.i4 b hb) h.nN (by rw [iL_len]; omega) (iV n) rfl
  rw [iL_len] at hr ho hf
  have e : iL (k.A b) ++ [iV n] = iL (k.A b ++ [n]) := by simp [iL]
  rw [e] at ho
  obtain ⟨g4, c4, h1, h2, h3, h4, h5⟩ := h.row_ab hb hf ho
  have hB := hf.blk B h.box.lt (by rw [h.oB]; simp)
  refine ⟨g, cap, w3, g4, c4, _, _, h1, hr, hB.1.trans h.box, h2, h3, fun e => ?_, h4, h5.exo (by simp)⟩
  have h6 := h.r4.2 g4 (by rw [h1]; rfl)
  rw [e, h.oB] at h6
  cases h6
set_option maxHeartbeats 4000000 in
theorem note_any {N B r : Nat} {X : Nat → Prop} {w : World} {o : Nat → Oid} {k : Kl} {m : Km} (h : KlAt N B r X w o k m) {b n : Nat} (hb : b < k.ab.length) (hl : (k.A b).length ≤ 900000) :
    Calls Tryz.prog 62 #[.pointer (some ⟨B, 0, none⟩), .int .i64 (b : Int), .int .i64 (n : Int)] w fun e w' => e = .returned (.tuple #[]) ∧ ∃ o' va, KlAt N B r X w' o' (k.note b n) { m with va := va } ∧ Exo o w o' w' := by
  have row := h.i4 b hb
  obtain ⟨a, c, hv⟩ := row.shape
  have h4 := h.r4
  obtain ⟨a4, c4, hv4⟩ := h4.shape
  rw [hv4] at h4
  obtain ⟨g4, u4, rfl, hu4, hc4, -, -, -, -⟩ := h4.at (i := b) (by rw [h.l4]; exact hb)
  have hue : u4 = gd m.va nV b := by unfold gd; rw [hu4]; rfl
  rw [hue, hv, iL_len] at hc4
  have bx4 : w.cell? ⟨B, 4, none⟩ = some (.slice (some ⟨g4, 0, none⟩) m.va.length c4) := by rw [h.box.cell]; simp [hv4]
  have hbi : ((b : Nat) : Int) < (m.va.length : Int) := by rw [h.l4]; omega
  have HH := hide h
  have HB := hide hb
  have HLL := hide hl
  obtain ⟨q, hq⟩ : ∃ q, q = (k.A b).length := ⟨_, rfl⟩
  have HQ := hide hq
  rw [hv, iL_len, ← hq] at row
  rw [← hq] at hc4
  have HV := hide hv
  have HV4 := hide hv4
  have hz : Below w.heap.size w w.drew := (Below.refl _ _).drew
  obtain ⟨g, cap, w3, g4', c4', va, o', n1, n2, n3, n4, n5, n6, n7, n8⟩ := note_step (h.later hz) n hb hl
  rw [hv4] at n1
  obtain ⟨rfl, rfl⟩ : g4 = g4' ∧ c4 = c4' := by cases n1; exact ⟨rfl, rfl⟩
  rw [hv, iL_len, ← hq] at n2 n4
  rw [← hq] at n7 n8
  have HR2 := hide n2
  have HB3 := hide n3
  have HC3 := hide n4
  have HF3 := hide n5
  have HN := hide n6
  have HK := hide n7
  have HX : Hid (Exo o w o' (w3.setCell ⟨g4, b, none⟩ (.slice (some ⟨g, 0, none⟩) (q + 1) cap))) := (Exo.below hz fun _ _ => rfl).trans n8
  have HD : Hid (w.drew.cell? ⟨B, 4, none⟩ = some (.slice (some ⟨g4, 0, none⟩) m.va.length c4)) := bx4
  clear h4 hu4 hue hl h hq hv hv4 n1 n2 n3 n4 n5 n6 n7 n8 hb
  go_enter Tryz.func62, Tryz.ntmps62
  by_cases hq0 : q = 0
  · subst hq0
    have HE : Hid (k.note b n = { k with ab := k.ab.set b (k.A b ++ [n]) }) := by
      have h0 : k.A b = [] := List.eq_nil_of_length_eq_zero HQ.out.symm
      unfold Hid Kl.note
      rw [if_neg (by rw [h0]; simp)]
    clear row
    go_upto_region 2 with fail
    refine wp_region_held_drew (S := fun w' => w'.cell? ⟨B, 4, none⟩ = some (.slice (some ⟨g4, 0, none⟩) m.va.length c4)) (by kernel_rfl) HD.out (fun hHeld => ?_)
    clear bx4 hc4
    generalize w.drew = wd at *
    refine wpAnyH_take (i := 0) (v := ?_) rfl (by kernel_rfl) (by kernel_rfl) (by kernel_rfl) (fun _ _ _ h => h) (Or.inl ⟨by rfl, ?_⟩) (by assumption) ?_
    rotate_left
    · intro w' hSw
      go_simp <;> with_reducible rfl
    try simp only [Act.put, List.setIfInBounds_toArray, List.set_cons_zero, List.set_cons_succ, List.getElem_toArray, List.getElem_cons_succ, List.getElem_cons_zero]
    refine wpAnyH_take (i := 1) (v := ?_) rfl (by kernel_rfl) (by kernel_rfl) (by kernel_rfl) (fun _ _ _ h => h) (Or.inl ⟨by rfl, ?_⟩) (by assumption) ?_
    rotate_left
    · intro w' hSw
      go_simp <;> with_reducible rfl
    try simp only [Act.put, List.setIfInBounds_toArray, List.set_cons_zero, List.set_cons_succ, List.getElem_toArray, List.getElem_cons_succ, List.getElem_cons_zero]
    refine wpAnyH_take (i := 2) (v := ?_) rfl (by kernel_rfl) (by kernel_rfl) (by kernel_rfl) (fun _ _ _ h => h) (Or.inl ⟨by rfl, ?_⟩) (by assumption) ?_
    rotate_left
    · intro w' hSw
      go_simp <;> with_reducible rfl
    try simp only [Act.put, List.setIfInBounds_toArray, List.set_cons_zero, List.set_cons_succ, List.getElem_toArray, List.getElem_cons_succ, List.getElem_cons_zero]
    refine wpAnyH_take (i := 3) (v := ?_) rfl (by kernel_rfl) (by kernel_rfl) (by kernel_rfl) (fun _ _ _ h => h) (Or.inl ⟨by rfl, ?_⟩) (by assumption) ?_
    rotate_left
    · intro w' hSw
      have x0 : w'.cell? ⟨B, 4, none⟩ = some (.slice (some ⟨g4, 0, none⟩) m.va.length c4) := hSw
      go_simp <;> with_reducible rfl
    try simp only [Act.put, List.setIfInBounds_toArray, List.set_cons_zero, List.set_cons_succ, List.getElem_toArray, List.getElem_cons_succ, List.getElem_cons_zero]
    refine wpAnyH_take (i := 4) (v := ?_) rfl (by kernel_rfl) (by kernel_rfl) (by kernel_rfl) (fun _ _ _ h => h) (Or.inl ⟨by rfl, ?_⟩) (by assumption) ?_
    rotate_left
    · intro w' hSw
      go_simp <;> with_reducible rfl
    try simp only [Act.put, List.setIfInBounds_toArray, List.set_cons_zero, List.set_cons_succ, List.getElem_toArray, List.getElem_cons_succ, List.getElem_cons_zero]
    refine wpAnyH_take (i := 5) (v := ?_) rfl (by kernel_rfl) (by kernel_rfl) (by kernel_rfl) (fun _ _ _ h => h) (Or.inl ⟨by rfl, ?_⟩) (by assumption) ?_
    rotate_left
    · intro w' hSw
      go_simp <;> with_reducible rfl
    try simp only [Act.put, List.setIfInBounds_toArray, List.set_cons_zero, List.set_cons_succ, List.getElem_toArray, List.getElem_cons_succ, List.getElem_cons_zero]
    refine wpAnyH_take (i := 6) (v := ?_) rfl (by kernel_rfl) (by kernel_rfl) (by kernel_rfl) (fun _ _ _ h => h) (Or.inl ⟨by rfl, ?_⟩) (by assumption) ?_
    rotate_left
    · intro w' hSw
      go_simp <;> with_reducible rfl
    try simp only [Act.put, List.setIfInBounds_toArray, List.set_cons_zero, List.set_cons_succ, List.getElem_toArray, List.getElem_cons_succ, List.getElem_cons_zero]
    refine wpAnyH_ready (rs := [7]) (by kernel_rfl) (by simp) ?_
    refine AllReadyH.cons rfl (fun K hK => ?_) AllReadyH.nil
    go_simp
    refine hK.out _ _ (by exact (World.cell?_of_block (Below.heap_alloc wd _ B (World.block_lt_of_cell? wd _ HD.out))).trans HD.out) (fun hHeld => ?_)
    clear hK K
    try simp only [Act.put, List.setIfInBounds_toArray, List.set_cons_zero, List.set_cons_succ, List.getElem_toArray, List.getElem_cons_succ, List.getElem_cons_zero]
    have qB : w3.cell? ⟨B, 4, none⟩ = some (.slice (some ⟨g4, 0, none⟩) m.va.length c4) := by rw [HB3.out.cell]; simp [HV4.out]
    refine wpAnyH_ready (rs := [8]) (by kernel_rfl) (by simp) ?_
    refine AllReadyH.cons rfl (fun K hK => ?_) AllReadyH.nil
    refine step_append_eqK rfl _ _ _ _ rfl rfl rfl HR2.out ?_
    refine hK.out _ _ (by exact qB) (fun hHeld => ?_)
    clear hK K
    try simp only [Act.put, List.setIfInBounds_toArray, List.set_cons_zero, List.set_cons_succ, List.getElem_toArray, List.getElem_cons_succ, List.getElem_cons_zero]
    refine wpAnyH_take (i := 9) (v := ?_) rfl (by kernel_rfl) (by kernel_rfl) (by kernel_rfl) (fun _ _ _ h => h) (Or.inl ⟨by rfl, ?_⟩) (by assumption) ?_
    rotate_left
    · intro w' hSw
      go_simp <;> with_reducible rfl
    try simp only [Act.put, List.setIfInBounds_toArray, List.set_cons_zero, List.set_cons_succ, List.getElem_toArray, List.getElem_cons_succ, List.getElem_cons_zero]
    have qc := HC3.out
    have qf := HF3.out
    refine wpAnyH_ready (rs := [10]) (by kernel_rfl) (by simp) ?_
    refine AllReadyH.cons rfl (fun K hK => ?_) AllReadyH.nil
    go_simp
    refine hK.out _ _ (by exact (World.cell?_of_block (Below.heap_setCell _ _ _ _ (by simpa using fun e => HN.out e.symm))).trans qB) (fun hHeld => ?_)
    clear hK K
    try simp only [Act.put, List.setIfInBounds_toArray, List.set_cons_zero, List.set_cons_succ, List.getElem_toArray, List.getElem_cons_succ, List.getElem_cons_zero]
    refine wpAnyH_done (by kernel_rfl) ?_ _
    clear hHeld qB qc qf
    go_wp2_with fail
    go_end0
    exact ⟨rfl, o', va, by rw [HE.out]; exact HK.out, HX.out⟩
  · obtain ⟨p, rfl⟩ : ∃ p, q = p + 1 := ⟨q - 1, by omega⟩
    obtain ⟨ga, ua, rfl, hua, hca, -, -, -, -⟩ := row.at (i := p) (by omega)
    have hua2 := iL_at hua
    subst hua2
    obtain ⟨z, hz9⟩ : ∃ z, z = gd (k.A b) 0 p := ⟨_, rfl⟩
    have HZ := hide hz9
    rw [← hz9] at hca
    have hpl : p ≤ 900000 := by have := HLL.out; have := HQ.out; omega
    have hpi : ((p + 1 : Nat) : Int) - 1 = ((p : Nat) : Int) := by omega
    clear row hua hz9 hq0
    by_cases hzn : z = n
    · subst hzn
      have HE : Hid (k.note b z = k) := by
        unfold Hid Kl.note
        rw [if_pos ((last_none HQ.out.symm).2 HZ.out.symm)]
      clear hz HR2 HB3 HC3 HF3 HN HK HX HD
      go_wp2_with fail
      go_end0
      exact ⟨rfl, o, m.va, by rw [HE.out]; exact HH.out, Exo.refl _ _⟩
    · have hzi : ((z : Int) != (n : Int)) = true := by
        rw [bne_iff_ne]
        omega
      have HE : Hid (k.note b n = { k with ab := k.ab.set b (k.A b ++ [n]) }) := by
        unfold Hid Kl.note
        rw [if_neg fun e => hzn (HZ.out.trans ((last_none HQ.out.symm).1 e))]
      clear hzn
      go_upto_region 2 with fail
      refine wp_region_held_drew (S := fun w' => w'.cell? ⟨B, 4, none⟩ = some (.slice (some ⟨g4, 0, none⟩) m.va.length c4)) (by kernel_rfl) HD.out (fun hHeld => ?_)
      clear bx4 hc4
      generalize w.drew = wd at *
      refine wpAnyH_take (i := 0) (v := ?_) rfl (by kernel_rfl) (by kernel_rfl) (by kernel_rfl) (fun _ _ _ h => h) (Or.inl ⟨by rfl, ?_⟩) (by assumption) ?_
      rotate_left
      · intro w' hSw
        go_simp <;> with_reducible rfl
      try simp only [Act.put, List.setIfInBounds_toArray, List.set_cons_zero, List.set_cons_succ, List.getElem_toArray, List.getElem_cons_succ, List.getElem_cons_zero]
      refine wpAnyH_take (i := 1) (v := ?_) rfl (by kernel_rfl) (by kernel_rfl) (by kernel_rfl) (fun _ _ _ h => h) (Or.inl ⟨by rfl, ?_⟩) (by assumption) ?_
      rotate_left
      · intro w' hSw
        go_simp <;> with_reducible rfl
      try simp only [Act.put, List.setIfInBounds_toArray, List.set_cons_zero, List.set_cons_succ, List.getElem_toArray, List.getElem_cons_succ, List.getElem_cons_zero]
      refine wpAnyH_take (i := 2) (v := ?_) rfl (by kernel_rfl) (by kernel_rfl) (by kernel_rfl) (fun _ _ _ h => h) (Or.inl ⟨by rfl, ?_⟩) (by assumption) ?_
      rotate_left
      · intro w' hSw
        go_simp <;> with_reducible rfl
      try simp only [Act.put, List.setIfInBounds_toArray, List.set_cons_zero, List.set_cons_succ, List.getElem_toArray, List.getElem_cons_succ, List.getElem_cons_zero]
      refine wpAnyH_take (i := 3) (v := ?_) rfl (by kernel_rfl) (by kernel_rfl) (by kernel_rfl) (fun _ _ _ h => h) (Or.inl ⟨by rfl, ?_⟩) (by assumption) ?_
      rotate_left
      · intro w' hSw
        have x0 : w'.cell? ⟨B, 4, none⟩ = some (.slice (some ⟨g4, 0, none⟩) m.va.length c4) := hSw
        go_simp <;> with_reducible rfl
      try simp only [Act.put, List.setIfInBounds_toArray, List.set_cons_zero, List.set_cons_succ, List.getElem_toArray, List.getElem_cons_succ, List.getElem_cons_zero]
      refine wpAnyH_take (i := 4) (v := ?_) rfl (by kernel_rfl) (by kernel_rfl) (by kernel_rfl) (fun _ _ _ h => h) (Or.inl ⟨by rfl, ?_⟩) (by assumption) ?_
      rotate_left
      · intro w' hSw
        go_simp <;> with_reducible rfl
      try simp only [Act.put, List.setIfInBounds_toArray, List.set_cons_zero, List.set_cons_succ, List.getElem_toArray, List.getElem_cons_succ, List.getElem_cons_zero]
      refine wpAnyH_take (i := 5) (v := ?_) rfl (by kernel_rfl) (by kernel_rfl) (by kernel_rfl) (fun _ _ _ h => h) (Or.inl ⟨by rfl, ?_⟩) (by assumption) ?_
      rotate_left
      · intro w' hSw
        go_simp <;> with_reducible rfl
      try simp only [Act.put, List.setIfInBounds_toArray, List.set_cons_zero, List.set_cons_succ, List.getElem_toArray, List.getElem_cons_succ, List.getElem_cons_zero]
      refine wpAnyH_take (i := 6) (v := ?_) rfl (by kernel_rfl) (by kernel_rfl) (by kernel_rfl) (fun _ _ _ h => h) (Or.inl ⟨by rfl, ?_⟩) (by assumption) ?_
      rotate_left
      · intro w' hSw
        go_simp <;> with_reducible rfl
      try simp only [Act.put, List.setIfInBounds_toArray, List.set_cons_zero, List.set_cons_succ, List.getElem_toArray, List.getElem_cons_succ, List.getElem_cons_zero]
      refine wpAnyH_ready (rs := [7]) (by kernel_rfl) (by simp) ?_
      refine AllReadyH.cons rfl (fun K hK => ?_) AllReadyH.nil
      go_simp
      refine hK.out _ _ (by exact (World.cell?_of_block (Below.heap_alloc wd _ B (World.block_lt_of_cell? wd _ HD.out))).trans HD.out) (fun hHeld => ?_)
      clear hK K
      try simp only [Act.put, List.setIfInBounds_toArray, List.set_cons_zero, List.set_cons_succ, List.getElem_toArray, List.getElem_cons_succ, List.getElem_cons_zero]
      have qB : w3.cell? ⟨B, 4, none⟩ = some (.slice (some ⟨g4, 0, none⟩) m.va.length c4) := by rw [HB3.out.cell]; simp [HV4.out]
      refine wpAnyH_ready (rs := [8]) (by kernel_rfl) (by simp) ?_
      refine AllReadyH.cons rfl (fun K hK => ?_) AllReadyH.nil
      refine step_append_eqK rfl _ _ _ _ rfl rfl rfl HR2.out ?_
      refine hK.out _ _ (by exact qB) (fun hHeld => ?_)
      clear hK K
      try simp only [Act.put, List.setIfInBounds_toArray, List.set_cons_zero, List.set_cons_succ, List.getElem_toArray, List.getElem_cons_succ, List.getElem_cons_zero]
      refine wpAnyH_take (i := 9) (v := ?_) rfl (by kernel_rfl) (by kernel_rfl) (by kernel_rfl) (fun _ _ _ h => h) (Or.inl ⟨by rfl, ?_⟩) (by assumption) ?_
      rotate_left
      · intro w' hSw
        go_simp <;> with_reducible rfl
      try simp only [Act.put, List.setIfInBounds_toArray, List.set_cons_zero, List.set_cons_succ, List.getElem_toArray, List.getElem_cons_succ, List.getElem_cons_zero]
      have qc := HC3.out
      have qf := HF3.out
      refine wpAnyH_ready (rs := [10]) (by kernel_rfl) (by simp) ?_
      refine AllReadyH.cons rfl (fun K hK => ?_) AllReadyH.nil
      go_simp
      refine hK.out _ _ (by exact (World.cell?_of_block (Below.heap_setCell _ _ _ _ (by simpa using fun e => HN.out e.symm))).trans qB) (fun hHeld => ?_)
      clear hK K
      try simp only [Act.put, List.setIfInBounds_toArray, List.set_cons_zero, List.set_cons_succ, List.getElem_toArray, List.getElem_cons_succ, List.getElem_cons_zero]
      refine wpAnyH_done (by kernel_rfl) ?_ _
      clear hHeld qB qc qf
      go_wp2_with fail
      go_end0
      exact ⟨rfl, o', va, by rw [HE.out]; exact HK.out, HX.out⟩
end Go.Proofs.YtdmaijmglblccaaGreatDoor

/- Memory and plain: what numbering a term keeps. -/
namespace Go.Proofs.YtdmaijmglblccaaGreatDoor
open Go.RowKit
set_option linter.unusedSimpArgs false
set_option linter.unusedVariables false
set_option maxRecDepth 8000

theorem Tb.heapK {B : Nat} {w w' : World} (h : Tb B w) (hs : w.heap.size ≤ w'.heap.size) (hk : ∀ b, b < B → w'.heap[b]? = w.heap[b]?) : Tb B w' := fun w'' h2 => by
  have h3 := h { w'' with os := w.os, tape := w.tape, output := w.output } ⟨rfl, rfl, rfl, Nat.le_trans hs h2.size, fun b hb => (h2.block b hb).trans (hk b hb)⟩
  exact h3
/-- The library's table, below what is the classes'. -/
def TbO (BT : Nat) (o : Nat → Oid) (w : World) : Prop := Tb BT w ∧ BT ≤ w.heap.size ∧ ∀ b, b < BT → o b = eX
theorem TbO.exo {BT : Nat} {o o' : Nat → Oid} {w w' : World} (h : TbO BT o w) (e : Exo o w o' w') : TbO BT o' w' :=
  ⟨h.1.heapK e.2.2.2.1 fun b hb => (e.2.2.2.2 b (Nat.lt_of_lt_of_le hb h.2.1) (h.2.2 b hb)).1, Nat.le_trans h.2.1 e.2.2.2.1, fun b hb => (e.2.2.2.2 b (Nat.lt_of_lt_of_le hb h.2.1) (h.2.2 b hb)).2⟩
theorem Sl.exo {w w' : World} {o o' : Nat → Oid} {X : Nat → Prop} {a : Option Addr} {l : List Tm} (h : Sl w X a l) (hX : ∀ b, X b → b < w.heap.size ∧ o b = eX) (e : Exo o w o' w') : Sl w' X a l := h.kept fun b hb => (e.2.2.2.2 b (hX b hb).1 (hX b hb).2).1
theorem exo_X {w w' : World} {o o' : Nat → Oid} {X : Nat → Prop} (hX : ∀ b, X b → b < w.heap.size ∧ o b = eX) (e : Exo o w o' w') : ∀ b, X b → b < w'.heap.size ∧ o' b = eX := fun b hb => ⟨Nat.lt_of_lt_of_le (hX b hb).1 e.2.2.2.1, (e.2.2.2.2 b (hX b hb).1 (hX b hb).2).2⟩
theorem Rwo.exo {w w' : World} {N : Nat} {o o' : Nat → Oid} {T e : Nat} {v : Value} {n : Nat} {xs : List Value} (h : Rwo w N o eX T e v n xs) (f : Exo o w o' w') : Rwo w' N o' eX T e v n xs := h.keep fun b hb he => f.2.2.2.2 b hb he
theorem Blk.exo {w w' : World} {o o' : Nat → Oid} {b T : Nat} {cs : Array Value} (h : Blk w b cs T) (f : Exo o w o' w') (he : o b = eX) : Blk w' b cs T := (f.2.2.2.2 b h.lt he).1.trans h
/-- A block that is new is none of theirs. -/
def upN (o : Nat → Oid) (n : Nat) : Nat → Oid := fun b => if b < n then o b else eX
theorem upN_lt {o : Nat → Oid} {n b : Nat} (h : b < n) : upN o n b = o b := if_pos h
theorem upN_ge {o : Nat → Oid} {n b : Nat} (h : n ≤ b) : upN o n b = eX := if_neg (by omega)
theorem KlAt.upn {N B r : Nat} {X : Nat → Prop} {w w' : World} {o : Nat → Oid} {k : Kl} {m : Km} (h : KlAt N B r X w o k m) (hb : Below w.heap.size w w') : KlAt N B r X w' (upN o w.heap.size) k m ∧ Exo o w (upN o w.heap.size) w' :=
  ⟨h.fresh hb fun b h1 => upN_lt h1, Exo.below hb fun b h1 => upN_lt h1⟩
/-- One more in a row that is none of theirs. -/
theorem app_loc {N B r : Nat} {X : Nat → Prop} {w : World} {o : Nat → Oid} {k : Kl} {m : Km} (h : KlAt N B r X w o k m) {TL T by_ : Nat} {z : Value} {v : Value} {xs : List Value} (hT : Tryz.prog.underlying TL = some (.slice T)) (hinfo : (Tryz.prog.info? T).map (fun i => (i.zero, i.size, i.bytes)) = some (some z, 1, by_)) (hz : z.cells.size = 1) (hby : by_ ≤ 100)
    (hv : Rwo w N o eX T 1 v xs.length xs) (hnX : ∀ b, v.ownBlock = some b → ¬ X b) (hl : xs.length ≤ 1000000) (x : Value) (hx : x.oneCell' = true) :
    ∃ g cap w3 o', (Builtin.append_ #[TL, TL] TL #[v, .slice (some ⟨w.heap.size, 0, none⟩) 1 1]).run Tryz.prog (w.alloc (.cells #[x] T)) = .ok (.slice (some ⟨g, 0, none⟩) (xs.length + 1) cap) w3 ∧
      Rwo w3 N o' eX T 1 (.slice (some ⟨g, 0, none⟩) (xs.length + 1) cap) (xs ++ [x]).length (xs ++ [x]) ∧ KlAt N B r X w3 o' k m ∧ (v.ownBlock = some g ∨ w.heap.size ≤ g) ∧
      (w3.os = w.os ∧ w3.tape = w.tape ∧ w3.output = w.output ∧ w.heap.size ≤ w3.heap.size) ∧ (∀ b, b < w.heap.size → v.ownBlock ≠ some b → w3.heap[b]? = w.heap[b]?) ∧ ∀ b, b < w.heap.size → o' b = o b := by
  obtain ⟨i0, hi, hz0, hz1, hz2⟩ := info_parts hinfo
  obtain ⟨g, cap, w3, hr, ho, hg, hat, _⟩ := run_append_lies (P := Tryz.prog) (w := w.alloc (.cells #[x] T)) TL TL N T i0 _ 1 by_ hT hi hz0 hz1 hz2 hz (by decide) v xs.length xs (hv.1.alloc _) ⟨w.heap.size, 0, none⟩ 1 1 [x] rfl (World.news_of_block (cs := #[x]) (heap_alloc_new w _)) (by simpa using hx) (by omega) (by unfold maxLen; omega) (by have : (xs.length + 1) * by_ ≤ 1000001 * 100 := Nat.mul_le_mul (by omega) hby; omega) (by have := h.nN; simp; omega) _ rfl
  have hblk : ∀ b, b < w.heap.size → v.ownBlock ≠ some b → w3.heap[b]? = w.heap[b]? := fun b hb hne => by rw [hg.block b (by simp; omega) (fun e => hne e.symm), Below.heap_alloc _ _ _ hb]
  have hsz : w.heap.size ≤ w3.heap.size := Nat.le_trans (by simp) hg.size
  have hoo : ∀ b, b < w.heap.size → upN o w.heap.size b = o b := fun b hb => upN_lt hb
  refine ⟨g, cap, w3, upN o w.heap.size, hr, ⟨by simpa using ho, fun b hb => ?_⟩, h.mv hsz fun b hb hor => ⟨hblk b hb fun e => ?_, hoo b hb⟩, ?_, ⟨hg.os, hg.tape, hg.output, hsz⟩, hblk, hoo⟩
  · have e : g = b := by simpa [Value.ownBlock] using hb
    subst e
    rcases hat with e | e
    · rw [upN_lt (hv.1.lt g e).2]; exact hv.2 g e
    · rw [World.size_alloc] at e; exact upN_ge (by omega)
  · rcases hor with hne | hx
    · exact hne (hv.2 b e)
    · exact hnX b e hx
  · rcases hat with e | e
    · exact Or.inl e
    · rw [World.size_alloc] at e; exact Or.inr (by omega)
theorem NumI.full {k : Kl} {U : Nat → Nat → Prop} (h : NumI k U) (hU : ∀ m, m < k.ts.length → ∀ b ∈ k.B m, U m b) : NumI k AllU := ⟨h.lb, h.lc, h.lm, h.la, h.nd, h.may, h.arg, h.own, fun m hm b hb _ => h.up m hm b hb (hU m hm b hb), h.alt, h.ent, h.has⟩
theorem kT_pre {k k' : Kl} (h : k.ts <+: k'.ts) {b : Nat} (hb : b < k.ts.length) : k'.T b = k.T b := by
  obtain ⟨r, hr⟩ := h
  unfold Kl.T
  rw [← hr, gd_app hb]
/-- What numbering the first of a term's parts does. -/
structure NumJ (k : Kl) (l : List Tm) (k' : Kl) (bs : List Nat) : Prop where
  ok : NumI k' AllU
  lt : ∀ b ∈ bs, b < k'.ts.length
  eq : bs.map k'.T = l
  pre : k.ts <+: k'.ts
  old : ∀ x ∈ k'.ts, x ∈ k.ts ∨ x ∈ preL l
  all : ∀ x ∈ preL l, x ∈ k'.ts
  len : k'.ts.length ≤ k.ts.length + sizeL l
  sum : sumN k'.ab + l.length ≤ sumN k.ab + sizeL l
theorem NumJ.start {k : Kl} (h : NumI k AllU) : NumJ k [] k [] := ⟨h, by simp, rfl, List.prefix_refl _, fun x hx => Or.inl hx, by simp [preL], by simp [sizeL], by simp [sizeL]⟩
theorem NumJ.next {k k1 k2 : Kl} {l : List Tm} {bs : List Nat} {t : Tm} {i : Nat} (h : NumJ k l k1 bs) (g : NumR k1 t k2 i) : NumJ k (l ++ [t]) k2 (bs ++ [i]) := by
  have hlt : ∀ b ∈ bs, b < k2.ts.length := fun b hb => Nat.lt_of_lt_of_le (h.lt b hb) g.pre.length_le
  refine ⟨g.ok, fun b hb => ?_, ?_, h.pre.trans g.pre, fun x hx => ?_, fun x hx => ?_, ?_, ?_⟩
  · rcases List.mem_append.1 hb with hb | hb
    · exact hlt b hb
    · rw [List.mem_singleton.1 hb]; exact g.lt
  · rw [List.map_append, List.map_singleton, g.eq, ← h.eq]
    congr 1
    exact List.map_congr_left fun b hb => kT_pre g.pre (h.lt b hb)
  · rw [preL_append, List.mem_append]
    rcases g.old x hx with hx | hx
    · rcases h.old x hx with hx | hx
      · exact Or.inl hx
      · exact Or.inr (Or.inl hx)
    · exact Or.inr (Or.inr hx)
  · rw [preL_append, List.mem_append] at hx
    rcases hx with hx | hx
    · exact g.pre.subset (h.all x hx)
    · exact g.all x hx
  · have := h.len; have := g.len; rw [sizeL_append]; omega
  · have := h.sum; have := g.sum; rw [sizeL_append, List.length_append, List.length_singleton]; omega
/-- The term is there. -/
theorem numR_found {k k1 : Kl} {t : Tm} {bs : List Nat} {i : Nat} (h : NumJ k t.args k1 bs) (he : errL [t] = 0) (hs : sgG k1.sg (sgn t.name bs) = some i) : NumR k t k1 i := by
  obtain ⟨h1, h2⟩ := num_found h.ok he h.eq.symm hs
  have e : preL [t] = t :: preL t.args := by obtain ⟨s, l⟩ := t; simp [preL]
  have ez : sizeL [t] = 1 + sizeL t.args := by obtain ⟨s, l⟩ := t; simp [sizeL]
  refine ⟨h.ok, h1, h2, h.pre, fun x hx => ?_, num_within h.ok t (by rw [← h2]; exact kT_mem h1), ?_, ?_⟩
  · rw [e]
    rcases h.old x hx with hx | hx
    · exact Or.inl hx
    · exact Or.inr (List.mem_cons_of_mem _ hx)
  · have := h.len; omega
  · have := h.sum; omega
/-- The term is new. -/
theorem numR_new {k k1 : Kl} {t : Tm} {bs : List Nat} (h : NumJ k t.args k1 bs) (he : errL [t] = 0) (hs : sgG k1.sg (sgn t.name bs) = none) : NumR k t ((k1.more t bs).notes bs k1.ts.length) k1.ts.length := by
  obtain ⟨h1, h2, h3⟩ := num_more h.ok he h.lt h.eq.symm hs
  have hz : (k1.more t bs).ts.length = k1.ts.length + 1 := by simp [Kl.more]
  obtain ⟨e1, e2, e3, e4, e5, e6⟩ := notes_same k1.ts.length bs (k1.more t bs)
  obtain ⟨n1, n2⟩ := num_notes bs h1 (fun b hb => by have := h.lt b hb; omega) (by omega : k1.ts.length < (k1.more t bs).ts.length)
  have e : preL [t] = t :: preL t.args := by obtain ⟨s, l⟩ := t; simp [preL]
  have ez : sizeL [t] = 1 + sizeL t.args := by obtain ⟨s, l⟩ := t; simp [sizeL]
  have hT : ((k1.more t bs).notes bs k1.ts.length).T = (k1.more t bs).T := by unfold Kl.T; rw [e1]
  have hB : ((k1.more t bs).notes bs k1.ts.length).B = (k1.more t bs).B := by unfold Kl.B; rw [e2]
  have hblen : bs.length = t.args.length := by rw [← h.eq]; simp
  refine ⟨n1.full fun m hm b hb => ?_, by rw [e1]; omega, by rw [hT]; exact h2, ?_, fun x hx => ?_, fun x hx => ?_, ?_, ?_⟩
  · rw [e1, hz] at hm
    by_cases hmn : m < k1.ts.length
    · exact Or.inl hmn
    · have : m = k1.ts.length := by omega
      subst this
      rw [hB, h3] at hb
      exact Or.inr ⟨rfl, hb⟩
  · rw [e1]; exact h.pre.trans (List.prefix_append _ _)
  · rw [e1] at hx
    rw [e]
    rcases List.mem_append.1 hx with hx | hx
    · rcases h.old x hx with hx | hx
      · exact Or.inl hx
      · exact Or.inr (List.mem_cons_of_mem _ hx)
    · rw [List.mem_singleton.1 hx]; exact Or.inr (by simp)
  · rw [e1]
    rw [e] at hx
    rcases List.mem_cons.1 hx with hx | hx
    · rw [hx]; exact List.mem_append_right _ (by simp)
    · exact List.mem_append_left _ (h.all x hx)
  · rw [e1, hz, ez]; have := h.len; omega
  · have h4 := h.sum
    have h5 : sumN (k1.more t bs).ab = sumN k1.ab := by show sumN (k1.ab ++ [[]]) = _; rw [sumN_app]; simp [sumN]
    omega
theorem num_C {k : Kl} {U : Nat → Nat → Prop} (h : NumI k U) (hz : k.ts.length ≤ 90000) : ∀ b, k.C b < 100000 := fun b => by
  by_cases hb : b < k.ts.length
  · rw [(h.own b hb).1]; omega
  · unfold Kl.C gd
    rw [List.getElem?_eq_none (by rw [h.lc]; omega)]
    simp
theorem num_S {k : Kl} {U : Nat → Nat → Prop} (h : NumI k U) {bs : List Nat} (hb : ∀ b ∈ bs, b < k.ts.length) : bs.map k.C = bs := by
  have : bs.map k.C = bs.map id := List.map_congr_left fun b hb2 => (h.own b (hb b hb2)).1
  rw [this, List.map_id]
end Go.Proofs.YtdmaijmglblccaaGreatDoor

/- Walks: pairs of which nothing is said; whether pairs may be. -/
namespace Go.Proofs.YtdmaijmglblccaaGreatDoor
open Go.RowKit
set_option linter.unusedSimpArgs false
set_option linter.unusedVariables false
set_option maxRecDepth 8000

def hugeQ1 (p : Pr) : Bool := decide (3000 < sizeL [p.l]) || decide (3000 < sizeL [p.r])
def hugeQL (l : List Pr) : Bool := l.any hugeQ1
def hugeQ (ls : List Pr) : Bool := hugeQL ls || decide (100 < ls.length)
theorem hugeQL_take {l : List Pr} {k : Nat} (h : k < l.length) : hugeQL (l.take (k + 1)) = (hugeQL (l.take k) || hugeQ1 l[k]) := by
  unfold hugeQL; rw [List.take_succ_eq_append_getElem h, List.any_append]; simp
theorem hugeQL_yes {l : List Pr} {k : Nat} (h : k < l.length) (h0 : hugeQ1 l[k] = true) : hugeQ l = true := by
  have e : hugeQL l = true := by
    unfold hugeQL
    rw [List.any_eq_true]
    exact ⟨l[k], List.getElem_mem h, h0⟩
  unfold hugeQ
  rw [e]; rfl
def HqInv (ls : List Pr) (w : World) (v : Value) (wr : World) : Prop := ∃ k : Nat, v = .int .i64 (k : Int) ∧ k ≤ ls.length ∧ hugeQL (ls.take k) = false ∧ Below w.heap.size w wr

set_option maxHeartbeats 1000000 in
theorem hugePairs_any (ls : List Pr) (u : Value) (w : World) (X : Nat → Prop) (hu : QV w X u ls) :
    Calls Tryz.prog 6 #[u] w fun e w' => e = .returned (.bool (hugeQ ls)) ∧ Below w.heap.size w w' := by
  have HU := hide (hu.mono (Y := fun b => X b ∧ b < w.heap.size) fun b h1 h2 => ⟨h1, h2⟩)
  obtain ⟨a, c, rfl, hl, hu2⟩ := hu
  clear hu2
  go_enter Tryz.func6, Tryz.ntmps6
  go_wp2_with fail
  go_loopw [3] (fun v wr => HqInv ls w v wr) (fun v wr => ls.length - (intOf v).toNat)
  case atStart => exact ⟨0, rfl, Nat.zero_le _, rfl, Below.refl _ _⟩
  case round =>
    obtain ⟨k, rfl, hk, hT, hb⟩ := hrel
    have HB := hide hb
    have HT := hide hT
    clear hT
    by_cases hlt : k < ls.length
    · obtain ⟨b, o, a1, c1, a2, c2, rfl, d0, d1, d2, d3, hs1, hs2⟩ := (HU.out.later hb).get k hlt
      have hlt2 : (k : Int) < (ls.length : Int) := by omega
      have HX1 := hide hs1
      have HX2 := hide hs2
      have HY := hide (hugeQL_yes hlt)
      have HN := hide (hugeQL_take hlt)
      clear hs1 hs2 hb
      generalize ls[k] = d at *
      go_wp2_with fail
      refine (huge_any d.l _ _ _ ⟨a1, c1, rfl, HX1.out⟩).mono ?_
      rintro e w1 ⟨rfl, hb1⟩
      have HB1 := hide (HB.out.trans (hb1.mono HB.out.size))
      have HX3 := hide (HX2.out.later hb1)
      have d2' := cell_later hb1 d2
      have d3' := cell_later hb1 d3
      clear hb1
      cases hq : decide (3000 < sizeL [d.l]) with
      | true =>
        have HF := hide (HY.out (by unfold hugeQ1; rw [hq]; rfl))
        clear hq
        go_wp2_with fail
        go_ret
        exact ⟨ret_bool HF.out.symm, HB1.out⟩
      | false =>
        have HQ := hide hq
        clear hq
        go_wp2_with fail
        refine (huge_any d.r _ _ _ ⟨a2, c2, rfl, HX3.out⟩).mono ?_
        rintro e w2 ⟨rfl, hb2⟩
        have HB2 := hide (HB1.out.trans (hb2.mono HB1.out.size))
        clear hb2
        cases hq : decide (3000 < sizeL [d.r]) with
        | true =>
          have HF := hide (HY.out (by unfold hugeQ1; rw [hq]; simp))
          clear hq
          go_wp2_with fail
          go_ret
          exact ⟨ret_bool HF.out.symm, HB2.out⟩
        | false =>
          have HF : Hid (hugeQL (ls.take (k + 1)) = false) := by unfold Hid; rw [HN.out, HT.out]; unfold hugeQ1; rw [HQ.out, hq]; rfl
          clear hq
          go_wp2_with fail
          go_roundw
          case rel => exact ⟨k + 1, by go_num, by omega, HF.out, HB2.out⟩
          case measure => simp [intOf]; omega
    · have HF : Hid (decide (100 < ls.length) = hugeQ ls) := by
        have h := HT.out
        rw [List.take_of_length_le (by omega)] at h
        unfold Hid hugeQ
        rw [h]; rfl
      go_wp2_with fail
      go_ret
      exact ⟨ret_bool (by rw [← HF.out, Bool.eq_iff_iff]; simp; omega), HB.out⟩

def PmInv (ls : List Pr) (w : World) (v : Value) (wr : World) : Prop := ∃ k : Nat, v = .int .i64 (k : Int) ∧ k ≤ ls.length ∧ pmT ls k = 0 ∧ Below w.heap.size w wr

set_option maxHeartbeats 1000000 in
theorem pairsMay_any (ls : List Pr) (u : Value) (w : World) (X : Nat → Prop) (hu : QV w X u ls) :
    Calls Tryz.prog 24 #[u] w fun e w' => e = .returned (.int .i64 (pairsE ls)) ∧ Below w.heap.size w w' := by
  have HU := hide (hu.mono (Y := fun b => X b ∧ b < w.heap.size) fun b h1 h2 => ⟨h1, h2⟩)
  obtain ⟨a, c, rfl, hl, hu2⟩ := hu
  clear hu2
  go_enter Tryz.func24, Tryz.ntmps24
  by_cases h40 : 40 < ls.length
  · go_wp2_with fail
    go_ret
    exact ⟨ret_int (by unfold pairsE; rw [if_pos h40]), Below.refl _ _⟩
  · go_wp2_with fail
    go_loopw [3] (fun v wr => PmInv ls w v wr) (fun v wr => ls.length - (intOf v).toNat)
    case atStart => exact ⟨0, rfl, Nat.zero_le _, rfl, Below.refl _ _⟩
    case round =>
      obtain ⟨k, rfl, hk, hT, hb⟩ := hrel
      have HB := hide hb
      have HT := hide hT
      clear hT
      by_cases hlt : k < ls.length
      · obtain ⟨b, o, a1, c1, a2, c2, rfl, d0, d1, d2, d3, hs1, hs2⟩ := (HU.out.later hb).get k hlt
        have hlt2 : (k : Int) < (ls.length : Int) := by omega
        have HX1 := hide hs1
        have HX2 := hide hs2
        have HY := hide (pmT_err hlt h40 HT.out)
        have HN := hide (pmT_next hlt HT.out)
        clear hs1 hs2 hb
        generalize ls[k] = d at *
        go_wp2_with fail
        have HS0 := hide (And.intro d0 (And.intro d1 (And.intro d2 d3)))
        have TM : Hid (∀ w', Below wr.heap.size wr w' → Calls Tryz.prog 41 #[.agg #[.string d.l.name, .slice a1 d.l.args.length c1], .agg #[.string d.r.name, .slice a2 d.r.args.length c2]] w' fun e w'' => e = .returned (.int .i64 (twoE d.l d.r)) ∧ Below w.heap.size w w'' ∧ (w''.cell? ⟨b, o + k * 4, none⟩ = some (.string d.l.name) ∧ w''.cell? ⟨b, o + k * 4 + 1, none⟩ = some (.slice a1 d.l.args.length c1) ∧ w''.cell? ⟨b, o + k * 4 + 2, none⟩ = some (.string d.r.name) ∧ w''.cell? ⟨b, o + k * 4 + 3, none⟩ = some (.slice a2 d.r.args.length c2))) := fun w' hb => by
          refine (twoMay_any d.l d.r _ _ w' _ ⟨_, _, rfl, HX1.out.later hb⟩ ⟨_, _, rfl, HX2.out.later hb⟩).mono ?_
          rintro e w'' ⟨rfl, hb2⟩
          have hb3 := hb.trans (hb2.mono hb.size)
          exact ⟨rfl, HB.out.trans (hb3.mono HB.out.size), cell_later hb3 d0, cell_later hb3 d1, cell_later hb3 d2, cell_later hb3 d3⟩
        go_region_held3 (fun w' => w'.cell? ⟨b, o + k * 4, none⟩ = some (.string d.l.name) ∧ w'.cell? ⟨b, o + k * 4 + 1, none⟩ = some (.slice a1 d.l.args.length c1) ∧ w'.cell? ⟨b, o + k * 4 + 2, none⟩ = some (.string d.r.name) ∧ w'.cell? ⟨b, o + k * 4 + 3, none⟩ = some (.slice a2 d.r.args.length c2)) (first | exact hS | exact HS0.out | go_keep)
          (first
            | (go_at_call 41; refine (TM.out _ (by first | exact Below.refl _ _ | exact (Below.refl _ _).drew)).mono ?_; rintro e w5 ⟨rfl, hb5, hS⟩))
        have HB5 := hide hb5
        clear hb5 hS TM HX1 HX2 HS0 d0 d1 d2 d3
        by_cases hm : twoE d.l d.r = 0
        · rw [hm] at HN
          rw [hm]
          clear hm
          go_wp2_with fail
          go_roundw
          case rel => exact ⟨k + 1, by go_num, by omega, HN.out, HB5.out⟩
          case measure => simp [intOf]; omega
        · have hm2 : (twoE d.l d.r == 0) = false := by simpa using hm
          have HM := hide hm
          clear hm
          go_wp2_with fail
          go_ret
          exact ⟨ret_int (HY.out HM.out).symm, HB5.out⟩
      · have hkl : k = ls.length := by omega
        go_wp2_with fail
        go_ret
        exact ⟨ret_int (by unfold pairsE; rw [if_neg h40, ← hkl]; exact HT.out.symm), HB.out⟩

theorem twoE_fst {a b : Tm} (h : mayE a ≠ 0) : twoE a b = mayE a := by unfold twoE; rw [if_neg h]
theorem twoE_snd {a b : Tm} (h : mayE a = 0) : twoE a b = mayE b := by unfold twoE; rw [if_pos h]
set_option maxHeartbeats 1000000 in
theorem ucheck_any (ls : List Pr) (u : Value) (w : World) (X : Nat → Prop) (hu : QV w X u ls) :
    Calls Tryz.prog 33 #[u] w fun e w' => e = .returned (.int .i64 (pairsE ls)) ∧ Below w.heap.size w w' := by
  have HU := hide (hu.mono (Y := fun b => X b ∧ b < w.heap.size) fun b h1 h2 => ⟨h1, h2⟩)
  obtain ⟨a, c, rfl, hl, hu2⟩ := hu
  clear hu2
  go_enter Tryz.func33, Tryz.ntmps33
  by_cases h40 : 40 < ls.length
  · go_wp2_with fail
    go_ret
    exact ⟨ret_int (by unfold pairsE; rw [if_pos h40]), Below.refl _ _⟩
  · go_wp2_with fail
    go_loopw [12] (fun v wr => PmInv ls w v wr) (fun v wr => ls.length - (intOf v).toNat)
    case atStart => exact ⟨0, rfl, Nat.zero_le _, rfl, Below.refl _ _⟩
    case round =>
      obtain ⟨k, rfl, hk, hT, hb⟩ := hrel
      have HB := hide hb
      have HT := hide hT
      clear hT
      by_cases hlt : k < ls.length
      · obtain ⟨b, o, a1, c1, a2, c2, rfl, d0, d1, d2, d3, hs1, hs2⟩ := (HU.out.later hb).get k hlt
        have hlt2 : (k : Int) < (ls.length : Int) := by omega
        have hbA : Below wr.heap.size wr (wr.alloc (.cells #[.string ls[k].l.name, .slice a1 ls[k].l.args.length c1, .string ls[k].r.name, .slice a2 ls[k].r.args.length c2] 35)) := (Below.refl _ _).alloc (Nat.le_refl _) _
        have HX1 := hide (hs1.later hbA)
        have HX2 := hide (hs2.later hbA)
        have P1 := hide (Blk.new wr #[.string ls[k].l.name, .slice a1 ls[k].l.args.length c1, .string ls[k].r.name, .slice a2 ls[k].r.args.length c2] 35)
        have HB1 := hide (hb.trans (hbA.mono hb.size))
        have HY := hide (pmT_err hlt h40 HT.out)
        have HN := hide (pmT_next hlt HT.out)
        clear hs1 hs2 hb hbA
        generalize ls[k] = d at *
        go_wp2_with fail
        generalize wr.alloc (.cells #[.string d.l.name, .slice a1 d.l.args.length c1, .string d.r.name, .slice a2 d.r.args.length c2] 35) = w1 at *
        generalize wr.heap.size = P at *
        refine (check_any d.l _ _ _ ⟨a1, c1, rfl, HX1.out⟩).mono ?_
        rintro e w2 ⟨rfl, hb2⟩
        have HX3 := hide (HX2.out.later hb2)
        have HB2 := hide (HB1.out.trans (hb2.mono HB1.out.size))
        have p2 := cell_later hb2 (P1.out.cell 2)
        have p3 := cell_later hb2 (P1.out.cell 3)
        clear hb2
        by_cases hm : mayE d.l = 0
        · have HM := hide (twoE_snd (b := d.r) hm)
          rw [hm]
          clear hm
          go_wp2_with fail
          refine (check_any d.r _ _ _ ⟨a2, c2, rfl, HX3.out⟩).mono ?_
          rintro e w3 ⟨rfl, hb3⟩
          have HB3 := hide (HB2.out.trans (hb3.mono HB2.out.size))
          clear hb3
          by_cases hm : mayE d.r = 0
          · have HF : Hid (pmT ls (k + 1) = 0) := by unfold Hid; rw [HN.out, HM.out, hm]
            rw [hm]
            clear hm
            go_wp2_with fail
            go_roundw
            case rel => exact ⟨k + 1, by go_num, by omega, HF.out, HB3.out⟩
            case measure => simp [intOf]; omega
          · have hm2 : (mayE d.r == 0) = false := by simpa using hm
            have HF : Hid (pairsE ls = mayE d.r) := by unfold Hid; rw [HY.out (by rw [HM.out]; exact hm), HM.out]
            clear hm
            go_wp2_with fail
            go_ret
            exact ⟨ret_int HF.out.symm, HB3.out⟩
        · have hm2 : (mayE d.l == 0) = false := by simpa using hm
          have HF : Hid (pairsE ls = mayE d.l) := by unfold Hid; rw [HY.out (by rw [twoE_fst hm]; exact hm), twoE_fst hm]
          clear hm
          go_wp2_with fail
          go_ret
          exact ⟨ret_int HF.out.symm, HB2.out⟩
      · have hkl : k = ls.length := by omega
        go_wp2_with fail
        go_ret
        exact ⟨ret_int (by unfold pairsE; rw [if_neg h40, ← hkl]; exact HT.out.symm), HB.out⟩
end Go.Proofs.YtdmaijmglblccaaGreatDoor

/- Walks: whether two terms are the same. -/
namespace Go.Proofs.YtdmaijmglblccaaGreatDoor
open Go.RowKit
set_option linter.unusedSimpArgs false
set_option linter.unusedVariables false
set_option maxRecDepth 8000

def eqL : List Tm → List Tm → Bool
  | [], [] => true
  | ⟨s, a⟩ :: r, t :: ts => ((s.toList == t.name.toList) && ((a.length == t.args.length) && eqL a t.args)) && eqL r ts
  | _, _ => false
/-- Two terms are the same. -/
def sameB (a b : Tm) : Bool := (a.name.toList == b.name.toList) && ((a.args.length == b.args.length) && eqL a.args b.args)
theorem eqL_cons (x t : Tm) (r ts : List Tm) : eqL (x :: r) (t :: ts) = (sameB x t && eqL r ts) := by obtain ⟨s, a⟩ := x; simp only [eqL, sameB]
theorem eqL_append : ∀ (a b c d : List Tm), a.length = b.length → eqL (a ++ c) (b ++ d) = (eqL a b && eqL c d)
  | [], [], c, d, _ => by simp [eqL]
  | [], _ :: _, _, _, h => by simp at h
  | _ :: _, [], _, _, h => by simp at h
  | x :: r, t :: ts, c, d, h => by rw [List.cons_append, List.cons_append, eqL_cons, eqL_cons, eqL_append r ts c d (by simpa using h), Bool.and_assoc]
theorem eqL_take {l m : List Tm} {k : Nat} (h : k < l.length) (h2 : k < m.length) : eqL (l.take (k + 1)) (m.take (k + 1)) = (eqL (l.take k) (m.take k) && sameB l[k] m[k]) := by
  rw [List.take_succ_eq_append_getElem h, List.take_succ_eq_append_getElem h2, eqL_append _ _ _ _ (by simp; omega), eqL_cons]
  simp [eqL]
theorem eqL_no {l m : List Tm} {k : Nat} (h : k < l.length) (hlm : l.length = m.length) (h0 : sameB l[k] (m[k]'(by omega)) = false) : eqL l m = false := by
  have e1 : l = l.take (k + 1) ++ l.drop (k + 1) := (List.take_append_drop _ _).symm
  have e2 : m = m.take (k + 1) ++ m.drop (k + 1) := (List.take_append_drop _ _).symm
  rw [e1, e2, eqL_append _ _ _ _ (by simp; omega), eqL_take h (by omega), h0]
  simp

def SaInv (w : World) (l m : List Tm) (a a2 : Option Addr) (c c2 : Nat) (i : Value) (wr : World) : Prop :=
  ∃ (k : Nat), k ≤ l.length ∧ i = .int .i64 k ∧ eqL (l.take k) (m.take k) = true ∧ Below w.heap.size w wr ∧ wr.cell? ⟨w.heap.size, 1, none⟩ = some (.slice a l.length c) ∧ wr.cell? ⟨w.heap.size + 1, 1, none⟩ = some (.slice a2 l.length c2) ∧ w.heap.size + 2 ≤ wr.heap.size

set_option maxHeartbeats 2000000 in
theorem sameR_all (t : Tm) : ∀ (x : Tm) (v u : Value) (w : World) (X Y : Nat → Prop), TV w X v t → TV w Y u x →
    Calls Tryz.prog 29 #[v, u] w fun e w' => e = .returned (.bool (sameB t x)) ∧ Below w.heap.size w w' := by
  induction t using Tm.ind with
  | h s l ih =>
    intro x v u w X Y hv hu
    obtain ⟨s2, m⟩ := x
    have IH := hide ih
    clear ih
    obtain ⟨a, c, rfl, hs⟩ := hv
    obtain ⟨a2, c2, rfl, hs2⟩ := hu
    have hl := hs.1
    have hl2 := hs2.1
    dsimp only
    cases hn : (s.toList == s2.toList) with
    | false =>
      have HR : Hid (false = sameB ⟨s, l⟩ ⟨s2, m⟩) := by unfold Hid sameB; rw [hn]; rfl
      go_enter Tryz.func29, Tryz.ntmps29
      go_wp2_with fail
      go_ret
      exact ⟨ret_bool HR.out, below2 _ _⟩
    | true =>
      by_cases hm : l.length = m.length
      · have HR : Hid (eqL l m = sameB ⟨s, l⟩ ⟨s2, m⟩) := by unfold Hid sameB; simp [hn, hm]
        have HM := hide hm
        rw [← hm]
        clear hm
        go_enter Tryz.func29, Tryz.ntmps29
        go_wp2_with fail
        go_loopw [5] (fun i wr => SaInv w l m a a2 c c2 i wr) (fun i wr => l.length - (intOf i).toNat)
        case atStart => exact ⟨0, Nat.zero_le _, rfl, by simp [eqL], below2 _ _, by simp, by simp, by simp⟩
        case round =>
          obtain ⟨k, hk, rfl, hq, hb, hc1, hc2, hsz⟩ := hrel
          have HQ := hide hq
          clear hq
          by_cases hlt : k < l.length
          · obtain ⟨b, o, a', c', rfl, d0, d1, hx⟩ := hs.get hb (fun _ _ h => h) k hlt
            obtain ⟨b2, o2, a2', c2', rfl, e0, e1, hx2⟩ := hs2.get hb (fun _ _ h => h) k (by have := HM.out; omega)
            have hltm : k < m.length := by have := HM.out; omega
            have HX := hide hx
            have HX2 := hide hx2
            have HB := hide hb
            have HS0 := hide (And.intro hc1 (And.intro hc2 (And.intro d0 (And.intro d1 (And.intro e0 e1)))))
            have IHK := hide (fun (w' : World) => IH.out l[k] (List.getElem_mem hlt) m[k] (.agg #[.string l[k].name, .slice a' l[k].args.length c']) (.agg #[.string m[k].name, .slice a2' m[k].args.length c2']) w' X Y)
            have HT := hide (eqL_take hlt hltm)
            have HNO := hide (eqL_no hlt HM.out)
            clear hx hx2 hb
            generalize l[k] = y at *
            generalize m[k] = z at *
            go_wp2_with fail
            cases hsm : sameB y z with
            | true =>
              rw [hsm] at IHK HT
              go_region_held3 (fun w' => w'.cell? ⟨w.heap.size, 1, none⟩ = some (.slice (some ⟨b, o, none⟩) l.length c) ∧ w'.cell? ⟨w.heap.size + 1, 1, none⟩ = some (.slice (some ⟨b2, o2, none⟩) l.length c2) ∧ w'.cell? ⟨b, o + k * 2, none⟩ = some (.string y.name) ∧ w'.cell? ⟨b, o + k * 2 + 1, none⟩ = some (.slice a' y.args.length c') ∧ w'.cell? ⟨b2, o2 + k * 2, none⟩ = some (.string z.name) ∧ w'.cell? ⟨b2, o2 + k * 2 + 1, none⟩ = some (.slice a2' z.args.length c2')) (first | exact HS0.out | exact hS1 | go_keep)
                ((go_at_call 29; refine (IHK.out _ (by exact HX.out.later (below_drewN (Below.refl _ _) 1)) (by exact HX2.out.later (below_drewN (Below.refl _ _) 1))).mono ?_; rintro e w1 ⟨rfl, hb1⟩; have hS1 := same_cells (n := 1) hb1 HS0.out))
              go_wp2_with fail
              go_roundw
              case rel => exact ⟨k + 1, by omega, by go_num, by rw [HT.out, HQ.out]; rfl, (HB.out.trans (below_drewN (Below.refl _ _) 1)).trans (hb1.mono (by simp; omega)), hS1.1, hS1.2.1, by have := hb1.size; simp at this; omega⟩
              case measure => simp [intOf]; omega
            | false =>
              have HF : Hid (false = sameB ⟨s, l⟩ ⟨s2, m⟩) := by unfold Hid; rw [← HR.out, HNO.out hsm]
              rw [hsm] at IHK
              go_region_held3 (fun w' => w'.cell? ⟨w.heap.size, 1, none⟩ = some (.slice (some ⟨b, o, none⟩) l.length c) ∧ w'.cell? ⟨w.heap.size + 1, 1, none⟩ = some (.slice (some ⟨b2, o2, none⟩) l.length c2) ∧ w'.cell? ⟨b, o + k * 2, none⟩ = some (.string y.name) ∧ w'.cell? ⟨b, o + k * 2 + 1, none⟩ = some (.slice a' y.args.length c') ∧ w'.cell? ⟨b2, o2 + k * 2, none⟩ = some (.string z.name) ∧ w'.cell? ⟨b2, o2 + k * 2 + 1, none⟩ = some (.slice a2' z.args.length c2')) (first | exact HS0.out | exact hS1 | go_keep)
                ((go_at_call 29; refine (IHK.out _ (by exact HX.out.later (below_drewN (Below.refl _ _) 1)) (by exact HX2.out.later (below_drewN (Below.refl _ _) 1))).mono ?_; rintro e w1 ⟨rfl, hb1⟩; have hS1 := same_cells (n := 1) hb1 HS0.out))
              go_wp2_with fail
              go_ret
              exact ⟨ret_bool HF.out, (HB.out.trans (below_drewN (Below.refl _ _) 1)).trans (hb1.mono (by simp; omega))⟩
          · have HF : Hid (true = sameB ⟨s, l⟩ ⟨s2, m⟩) := by
              unfold Hid
              rw [← HR.out, ← HQ.out, List.take_of_length_le (by omega), List.take_of_length_le (by have := HM.out; omega)]
            go_wp2_with fail
            go_ret
            exact ⟨ret_bool HF.out, hb⟩
      · have HR : Hid (false = sameB ⟨s, l⟩ ⟨s2, m⟩) := by unfold Hid sameB; simp [hn, hm]
        have hm2 : ((l.length : Int) == (m.length : Int)) = false := beq_eq_false_iff_ne.2 (by omega)
        clear hm
        go_enter Tryz.func29, Tryz.ntmps29
        go_wp2_with fail
        go_ret
        exact ⟨ret_bool HR.out, below2 _ _⟩
end Go.Proofs.YtdmaijmglblccaaGreatDoor

/- One term as a case of another one: plain. -/
namespace Go.Proofs.YtdmaijmglblccaaGreatDoor
open Go.RowKit
set_option linter.unusedSimpArgs false
set_option linter.unusedVariables false

end Go.Proofs.YtdmaijmglblccaaGreatDoor
