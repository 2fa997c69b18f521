/- Plain: terms that are put together by ap, the rows that they are, one step, and where steps end. -/
import Derived.Test.YtgimfiffcalbfaaRow
import Derived.Test.YtgimfiffcalbfaaW1
namespace Go.Proofs.Ytgimfiffcalbfaa
open Go.RowKit
set_option linter.unusedSimpArgs false
set_option linter.unusedVariables false

def apB : ByteArray := ⟨#[97, 112]⟩
def sB : ByteArray := ⟨#[115]⟩
def kB : ByteArray := ⟨#[107]⟩
def iB : ByteArray := ⟨#[105]⟩
theorem nm_yes {s : ByteArray} {l : List UInt8} (h : s = ⟨l.toArray⟩) : (s.toList == l) = true := by subst h; rw [ByteArray.toList_eq]; simp
theorem nm_eq {s : ByteArray} {l : List UInt8} (h : s.toList = l) : s = ⟨l.toArray⟩ := by
  rw [ByteArray.toList_eq] at h
  subst h
  cases s; simp
theorem nm_no {s : ByteArray} {l : List UInt8} (h : s ≠ ⟨l.toArray⟩) : (s.toList == l) = false := beq_eq_false_iff_ne.2 fun e => h (by
  rw [ByteArray.toList_eq] at e
  subst e
  cases s; simp)
/-- One knot, put together by ap. -/
def okK (t : Tm) : Bool := decide (t.args.length = 0) || (decide (t.name = apB) && decide (t.args.length = 2))
/-- All of these are put together by ap. -/
def isCL : List Tm → Bool
  | [] => true
  | ⟨s, l⟩ :: r => okK ⟨s, l⟩ && isCL l && isCL r
def isC (t : Tm) : Bool := isCL [t]
theorem isCL_pre (l : List Tm) : isCL l = (preL l).all okK := by
  induction l using Tm.indL with
  | h0 => simp [isCL, preL]
  | h s l r ihl ihr => simp only [isCL, preL, List.all_cons, List.all_append, ihl, ihr, Bool.and_assoc]
def apT (f x : Tm) : Tm := ⟨apB, [f, x]⟩
theorem isC_leaf (s : ByteArray) : isC ⟨s, []⟩ = true := by simp [isC, isCL, okK]
theorem isCL_cons (t : Tm) (r : List Tm) : isCL (t :: r) = (isC t && isCL r) := by
  obtain ⟨s, l⟩ := t
  simp [isC, isCL]
theorem isCL_mem {l : List Tm} : isCL l = true ↔ ∀ x ∈ l, isC x = true := by
  induction l with
  | nil => simp [isCL]
  | cons t r ih => simp [isCL_cons, ih]
theorem isC_mk (s : ByteArray) (l : List Tm) : isC ⟨s, l⟩ = (okK ⟨s, l⟩ && isCL l) := by simp [isC, isCL]
theorem isC_ap (f x : Tm) : isC (apT f x) = (isC f && isC x) := by
  simp [apT, isC_mk, okK, isCL_cons, isCL]
theorem isC_cases {t : Tm} (h : isC t = true) : (∃ s, t = ⟨s, []⟩) ∨ ∃ f x, t = apT f x ∧ isC f = true ∧ isC x = true := by
  obtain ⟨s, l⟩ := t
  rw [isC_mk] at h
  simp only [okK, Bool.and_eq_true, Bool.or_eq_true, decide_eq_true_eq] at h
  obtain ⟨h1 | ⟨h1, h2⟩, h3⟩ := h
  · exact Or.inl ⟨s, by rw [List.length_eq_zero_iff.1 h1]⟩
  · obtain ⟨f, x, rfl⟩ : ∃ f x, l = [f, x] := by
      match l, h2 with
      | [f, x], _ => exact ⟨f, x, rfl⟩
    have h1' : s = apB := h1
    have := isCL_mem.1 h3
    exact Or.inr ⟨f, x, by rw [h1']; rfl, this f (by simp), this x (by simp)⟩
theorem sizeL_one (s : ByteArray) (l : List Tm) : sizeL [⟨s, l⟩] = 1 + sizeL l := by simp [sizeL]
theorem sizeL_cons1 (t : Tm) (r : List Tm) : sizeL (t :: r) = sizeL [t] + sizeL r := by
  rw [show t :: r = [t] ++ r from rfl, sizeL_append]
theorem size_ap (f x : Tm) : sizeL [apT f x] = 1 + sizeL [f] + sizeL [x] := by
  rw [apT, sizeL_one, sizeL_cons1]; omega
theorem size_posC (t : Tm) : 0 < sizeL [t] := by obtain ⟨s, l⟩ := t; rw [sizeL_one]; omega

/-- The row that a term is: its front, and what that is applied to. -/
def rowR : Nat → Tm → Tm × List Tm
  | 0, t => (t, [])
  | n + 1, ⟨s, [f, x]⟩ => ((rowR n f).1, (rowR n f).2 ++ [x])
  | _ + 1, t => (t, [])
def rowH (t : Tm) : Tm := (rowR (sizeL [t]) t).1
def rowL (t : Tm) : List Tm := (rowR (sizeL [t]) t).2
theorem rowR_more (n : Nat) : ∀ (t : Tm) (m : Nat), sizeL [t] ≤ n → n ≤ m → rowR m t = rowR n t := by
  induction n with
  | zero => intro t m h _; have := size_posC t; omega
  | succ n ih =>
    intro t m h hm
    obtain ⟨m, rfl⟩ : ∃ k, m = k + 1 := ⟨m - 1, by omega⟩
    obtain ⟨s, l⟩ := t
    match l, h with
    | [], _ => rfl
    | [_], _ => rfl
    | [f, x], h =>
      have hs : sizeL [(⟨s, [f, x]⟩ : Tm)] = 1 + sizeL [f] + sizeL [x] := by rw [sizeL_one, sizeL_cons1]; omega
      have := size_posC x
      simp only [rowR]
      rw [ih f m (by omega) (by omega)]
    | _ :: _ :: _ :: _, _ => rfl
theorem row_leaf (s : ByteArray) : rowH ⟨s, []⟩ = ⟨s, []⟩ ∧ rowL ⟨s, []⟩ = [] := by
  simp [rowH, rowL, sizeL_one, sizeL, rowR]
theorem row_ap (f x : Tm) : rowH (apT f x) = rowH f ∧ rowL (apT f x) = rowL f ++ [x] := by
  have h := size_ap f x
  have h2 := rowR_more (sizeL [f]) f (sizeL [f] + sizeL [x]) (Nat.le_refl _) (by omega)
  rw [rowH, rowL, h, show 1 + sizeL [f] + sizeL [x] = sizeL [f] + sizeL [x] + 1 by omega]
  simp only [apT, rowR, h2, rowH, rowL]
  simp
theorem row_facts (n : Nat) : ∀ t : Tm, sizeL [t] ≤ n → isC t = true → (rowH t).args = [] ∧ isC (rowH t) = true ∧ (∀ x ∈ rowL t, isC x = true ∧ sizeL [x] < sizeL [t]) ∧ (rowL t).length < sizeL [t] := by
  induction n with
  | zero => intro t h; have := size_posC t; omega
  | succ n ih =>
    intro t h hc
    rcases isC_cases hc with ⟨s, rfl⟩ | ⟨f, x, rfl, h1, h2⟩
    · rw [(row_leaf s).1, (row_leaf s).2]
      exact ⟨rfl, hc, by simp, by simp [sizeL]⟩
    · have hs := size_ap f x
      have hx := size_posC x
      obtain ⟨a1, a2, a3, a4⟩ := ih f (by omega) h1
      rw [(row_ap f x).1, (row_ap f x).2]
      refine ⟨a1, a2, fun y hy => ?_, by simp; omega⟩
      rcases List.mem_append.1 hy with hy | hy
      · have := a3 y hy; exact ⟨this.1, by omega⟩
      · simp at hy; subst hy; exact ⟨h2, by omega⟩
def apAll (h : Tm) (l : List Tm) : Tm := l.foldl apT h
theorem isC_apAll (l : List Tm) : ∀ h, isC h = true → (∀ x ∈ l, isC x = true) → isC (apAll h l) = true := by
  induction l with
  | nil => intro h hh _; exact hh
  | cons x r ih => intro h hh hl; exact ih _ (by rw [isC_ap, hh, hl x (by simp)]; rfl) fun y hy => hl y (by simp [hy])
theorem apAll_snoc (h : Tm) (l : List Tm) (x : Tm) : apAll h (l ++ [x]) = apT (apAll h l) x := by simp [apAll]
theorem apAll_take (h : Tm) (l : List Tm) (k : Nat) (hk : k < l.length) : apAll h (l.take (k + 1)) = apT (apAll h (l.take k)) l[k] := by
  rw [List.take_succ_eq_append_getElem hk, apAll_snoc]
/-- What a row comes to by the symbol at its front. -/
def workC (s : ByteArray) : List Tm → Option Tm
  | [] => none
  | x :: l => if s = iB then some (apAll x l) else
    match l with
    | [] => none
    | y :: l => if s = kB then some (apAll x l) else
      match l with
      | [] => none
      | z :: l => if s = sB then some (apAll (apT (apT x z) (apT y z)) l) else none
theorem workC_i (x : Tm) (l : List Tm) : workC iB (x :: l) = some (apAll x l) := by simp [workC]
theorem workC_k (x y : Tm) (l : List Tm) : workC kB (x :: y :: l) = some (apAll x l) := by
  simp only [workC]; rw [if_neg (by decide)]; simp
theorem workC_s (x y z : Tm) (l : List Tm) : workC sB (x :: y :: z :: l) = some (apAll (apT (apT x z) (apT y z)) l) := by
  simp only [workC]; rw [if_neg (by decide), if_neg (by decide)]; simp
theorem workC_none {s : ByteArray} {l : List Tm} (h1 : ¬(s = iB ∧ 1 ≤ l.length)) (h2 : ¬(s = kB ∧ 2 ≤ l.length)) (h3 : ¬(s = sB ∧ 3 ≤ l.length)) : workC s l = none := by
  match l with
  | [] => rfl
  | [x] => simp only [workC]; rw [if_neg fun e => h1 ⟨e, by simp⟩]
  | [x, y] => simp only [workC]; rw [if_neg fun e => h1 ⟨e, by simp⟩, if_neg fun e => h2 ⟨e, by simp⟩]
  | x :: y :: z :: l => simp only [workC]; rw [if_neg fun e => h1 ⟨e, by simp⟩, if_neg fun e => h2 ⟨e, by simp⟩, if_neg fun e => h3 ⟨e, by simp⟩]
theorem workC_isC {s : ByteArray} {l : List Tm} {x : Tm} (hl : ∀ y ∈ l, isC y = true) (h : workC s l = some x) : isC x = true := by
  match l with
  | [] => simp [workC] at h
  | a :: l =>
    simp only [workC] at h
    by_cases h1 : s = iB
    · rw [if_pos h1] at h; cases h; exact isC_apAll _ _ (hl a (by simp)) fun y hy => hl y (by simp [hy])
    · rw [if_neg h1] at h
      match l with
      | [] => cases h
      | b :: l =>
        dsimp only at h
        by_cases h2 : s = kB
        · rw [if_pos h2] at h; cases h; exact isC_apAll _ _ (hl a (by simp)) fun y hy => hl y (by simp [hy])
        · rw [if_neg h2] at h
          match l with
          | [] => cases h
          | c :: l =>
            dsimp only at h
            by_cases h3 : s = sB
            · rw [if_pos h3] at h; cases h
              exact isC_apAll _ _ (by simp [isC_ap, hl a, hl b, hl c]) fun y hy => hl y (by simp [hy])
            · rw [if_neg h3] at h; cases h
/-- The first of a row that a step is found in. -/
def firstC (f : Tm → Option Tm) (h : Tm) : List Tm → List Tm → Option Tm
  | _, [] => none
  | pre, x :: r => match f x with
    | some y => some (apAll h (pre ++ y :: r))
    | none => firstC f h (pre ++ [x]) r
theorem firstC_skip (f : Tm → Option Tm) (h : Tm) (k : Nat) : ∀ (pre r : List Tm) (hk : k ≤ r.length), (∀ j (hj : j < k), f (r[j]'(by omega)) = none) → firstC f h pre r = firstC f h (pre ++ r.take k) (r.drop k) := by
  induction k with
  | zero => intro pre r _ _; simp
  | succ k ih =>
    intro pre r hk hj
    match r, hk, hj with
    | x :: r, hk, hj =>
      have h0 : f x = none := hj 0 (by omega)
      rw [firstC, h0]
      dsimp only
      rw [ih (pre ++ [x]) r (by simpa using hk) fun j hj' => by have := hj (j + 1) (by omega); simpa using this]
      simp
theorem firstC_none {f : Tm → Option Tm} {h : Tm} {l : List Tm} (hn : ∀ j (hj : j < l.length), f l[j] = none) : firstC f h [] l = none := by
  rw [firstC_skip f h l.length [] l (Nat.le_refl _) hn]
  simp [firstC]
theorem firstC_some {f : Tm → Option Tm} {h y : Tm} {l : List Tm} {i : Nat} (hi : i < l.length) (hn : ∀ j (hj : j < i), f (l[j]'(by omega)) = none) (hy : f l[i] = some y) : firstC f h [] l = some (apAll h (l.set i y)) := by
  rw [firstC_skip f h i [] l (by omega) hn, List.drop_eq_getElem_cons hi]
  simp only [firstC, hy]
  congr 2
  rw [List.nil_append, List.set_eq_take_append_cons_drop, if_pos hi]
theorem firstC_isC {f : Tm → Option Tm} {h x : Tm} (hf : ∀ y z, f y = some z → isC y = true → isC z = true) (hh : isC h = true) : ∀ (r pre : List Tm), (∀ y ∈ pre, isC y = true) → (∀ y ∈ r, isC y = true) → firstC f h pre r = some x → isC x = true := by
  intro r
  induction r with
  | nil => intro pre _ _ h; simp [firstC] at h
  | cons a r ih =>
    intro pre hp hr hx
    rw [firstC] at hx
    cases ha : f a with
    | some y =>
      rw [ha] at hx
      cases hx
      refine isC_apAll _ _ hh fun z hz => ?_
      rcases List.mem_append.1 hz with hz | hz
      · exact hp z hz
      · rcases List.mem_cons.1 hz with rfl | hz
        · exact hf a _ ha (hr a (by simp))
        · exact hr z (by simp [hz])
    | none =>
      rw [ha] at hx
      exact ih _ (fun y hy => by rcases List.mem_append.1 hy with hy | hy; exact hp y hy; simp at hy; subst hy; exact hr _ (by simp)) (fun y hy => hr y (by simp [hy])) hx
/-- One step; none: there is none. -/
def stepN : Nat → Tm → Option Tm
  | 0, _ => none
  | n + 1, t => match workC (rowH t).name (rowL t) with
    | some x => some x
    | none => firstC (stepN n) (rowH t) [] (rowL t)
theorem stepN_isC (n : Nat) : ∀ t x, stepN n t = some x → isC t = true → isC x = true := by
  induction n with
  | zero => intro t x h; simp [stepN] at h
  | succ n ih =>
    intro t x h hc
    have hr := row_facts _ t (Nat.le_refl _) hc
    rw [stepN] at h
    cases hw : workC (rowH t).name (rowL t) with
    | some y => rw [hw] at h; cases h; exact workC_isC (fun y hy => (hr.2.2.1 y hy).1) hw
    | none => rw [hw] at h; exact firstC_isC ih hr.2.1 _ [] (by simp) (fun y hy => (hr.2.2.1 y hy).1) h
theorem stepN_work {n : Nat} {t x : Tm} (h : workC (rowH t).name (rowL t) = some x) : stepN (n + 1) t = some x := by rw [stepN, h]
theorem stepN_none {n : Nat} {t : Tm} (h : workC (rowH t).name (rowL t) = none) (hn : ∀ j (hj : j < (rowL t).length), stepN n (rowL t)[j] = none) : stepN (n + 1) t = none := by rw [stepN, h]; exact firstC_none hn
theorem stepN_some {n : Nat} {t y : Tm} (h : workC (rowH t).name (rowL t) = none) {i : Nat} (hi : i < (rowL t).length) (hn : ∀ j (hj : j < i), stepN n ((rowL t)[j]'(by omega)) = none) (hy : stepN n (rowL t)[i] = some y) : stepN (n + 1) t = some (apAll (rowH t) ((rowL t).set i y)) := by rw [stepN, h]; exact firstC_some hi hn hy

/-- Where steps end: what is wrong, the term, how many steps. -/
def endC : Nat → Tm → Int × Tm × Nat
  | 0, t => match stepN 2001 t with
    | none => (0, t, 0)
    | some _ => (9, t, 0)
  | k + 1, t => match stepN 2001 t with
    | none => (0, t, 0)
    | some x => if 2000 < sizeL [x] then (8, t, 0) else ((endC k x).1, (endC k x).2.1, (endC k x).2.2 + 1)
theorem endC_none {k : Nat} {t : Tm} (h : stepN 2001 t = none) : endC k t = (0, t, 0) := by cases k <;> simp [endC, h]
theorem endC_fuel {t x : Tm} (h : stepN 2001 t = some x) : (endC 0 t).1 = 9 := by simp [endC, h]
theorem endC_full {k : Nat} {t x : Tm} (h : stepN 2001 t = some x) (hs : 2000 < sizeL [x]) : (endC (k + 1) t).1 = 8 := by simp [endC, h, hs]
theorem endC_on {k : Nat} {t x : Tm} (h : stepN 2001 t = some x) (hs : ¬2000 < sizeL [x]) : (endC (k + 1) t).1 = (endC k x).1 ∧ (endC (k + 1) t).2.1 = (endC k x).2.1 ∧ (endC (k + 1) t).2.2 = (endC k x).2.2 + 1 := by simp [endC, h, hs]
/-- So many steps of at most m are done, and t is come to. -/
def OnWay (m : Nat) (t0 : Tm) (d : Nat) (t : Tm) : Prop := d ≤ m ∧ (endC m t0).1 = (endC (m - d) t).1 ∧ (endC m t0).2.1 = (endC (m - d) t).2.1 ∧ (endC m t0).2.2 = (endC (m - d) t).2.2 + d ∧ isC t = true ∧ sizeL [t] ≤ 2000
theorem OnWay.start {m : Nat} {t : Tm} (hc : isC t = true) (hs : sizeL [t] ≤ 2000) : OnWay m t 0 t := ⟨Nat.zero_le _, by simp, by simp, by simp, hc, hs⟩
theorem OnWay.fin {m d : Nat} {t0 t : Tm} (h : OnWay m t0 d t) (hn : stepN 2001 t = none) : (endC m t0).1 = 0 ∧ (endC m t0).2.1 = t ∧ (endC m t0).2.2 = d := by
  obtain ⟨h0, h1, h2, h3, _⟩ := h
  rw [endC_none hn] at h1 h2 h3
  exact ⟨h1, h2, by simpa using h3⟩
theorem OnWay.fuel {m : Nat} {t0 t x : Tm} (h : OnWay m t0 m t) (hn : stepN 2001 t = some x) : (endC m t0).1 = 9 := by
  obtain ⟨h0, h1, _⟩ := h
  rw [h1, Nat.sub_self]; exact endC_fuel hn
theorem OnWay.full {m d : Nat} {t0 t x : Tm} (h : OnWay m t0 d t) (hd : d ≠ m) (hn : stepN 2001 t = some x) (hs : 2000 < sizeL [x]) : (endC m t0).1 = 8 := by
  obtain ⟨h0, h1, _⟩ := h
  rw [h1, show m - d = (m - d - 1) + 1 by omega]; exact endC_full hn hs
theorem OnWay.on {m d : Nat} {t0 t x : Tm} (h : OnWay m t0 d t) (hd : d ≠ m) (hn : stepN 2001 t = some x) (hs : ¬2000 < sizeL [x]) : OnWay m t0 (d + 1) x := by
  obtain ⟨h0, h1, h2, h3, h4, h5⟩ := h
  rw [show m - d = (m - (d + 1)) + 1 by omega] at h1 h2 h3
  obtain ⟨e1, e2, e3⟩ := endC_on (k := m - (d + 1)) hn hs
  exact ⟨by omega, by rw [h1, e1], by rw [h2, e2], by rw [h3, e3]; omega, stepN_isC _ _ _ hn h4, by omega⟩
end Go.Proofs.Ytgimfiffcalbfaa
