/- Several texts in one. -/
import Derived.Test.YtfkjejpfhflanaaGreatDoorZTopWithoutOwn
import Derived.Test.YtfkjejpfhflanaaGreatDoorZCTopWithoutOwn
import Derived.BigQuiet
import Derived.Deep.RegionHeld
import Derived.Deep.RegionHeld3
import Derived.Deep.RegionLaw
import Derived.Laws.EntriesVeiled
import Derived.Laws.OwnMore
/- Plain: terms that are put together by ap, the rows that they are, one step, and where steps end. -/
namespace Go.Proofs.YtfkjejpfhflanaaGreatDoor
open Go.RowKit
set_option linter.unusedSimpArgs false
set_option linter.unusedVariables false

def apB : ByteArray := ⟨#[97, 112]⟩
def sB : ByteArray := ⟨#[115]⟩
def kB : ByteArray := ⟨#[107]⟩
def iB : ByteArray := ⟨#[105]⟩
theorem nm_yes {s : ByteArray} {l : List UInt8} (h : s = ⟨l.toArray⟩) : (s.toList == l) = true := by subst h; rw [ByteArray.toList_eq]; simp
theorem nm_no {s : ByteArray} {l : List UInt8} (h : s ≠ ⟨l.toArray⟩) : (s.toList == l) = false := beq_eq_false_iff_ne.2 fun e => h (by
  rw [ByteArray.toList_eq] at e
  subst e
  cases s; simp)
/-- One knot, put together by ap. -/
def okK (t : Tm) : Bool := decide (t.args.length = 0) || (decide (t.name = apB) && decide (t.args.length = 2))
/-- All of these are put together by ap. -/
def isCL : List Tm → Bool
  | [] => true
  | ⟨s, l⟩ :: r => okK ⟨s, l⟩ && isCL l && isCL r
def isC (t : Tm) : Bool := isCL [t]
def apT (f x : Tm) : Tm := ⟨apB, [f, x]⟩
theorem isC_leaf (s : ByteArray) : isC ⟨s, []⟩ = true := by simp [isC, isCL, okK]
theorem isCL_cons (t : Tm) (r : List Tm) : isCL (t :: r) = (isC t && isCL r) := by
  obtain ⟨s, l⟩ := t
  simp [isC, isCL]
theorem isCL_mem {l : List Tm} : isCL l = true ↔ ∀ x ∈ l, isC x = true := by
  induction l with
  | nil => simp [isCL]
  | cons t r ih => simp [isCL_cons, ih]
theorem isC_mk (s : ByteArray) (l : List Tm) : isC ⟨s, l⟩ = (okK ⟨s, l⟩ && isCL l) := by simp [isC, isCL]
theorem isC_ap (f x : Tm) : isC (apT f x) = (isC f && isC x) := by
  simp [apT, isC_mk, okK, isCL_cons, isCL]
theorem isC_cases {t : Tm} (h : isC t = true) : (∃ s, t = ⟨s, []⟩) ∨ ∃ f x, t = apT f x ∧ isC f = true ∧ isC x = true := by
  obtain ⟨s, l⟩ := t
  rw [isC_mk] at h
  simp only [okK, Bool.and_eq_true, Bool.or_eq_true, decide_eq_true_eq] at h
  obtain ⟨h1 | ⟨h1, h2⟩, h3⟩ := h
  · exact Or.inl ⟨s, by rw [List.length_eq_zero_iff.1 h1]⟩
  · obtain ⟨f, x, rfl⟩ : ∃ f x, l = [f, x] := by
      match l, h2 with
      | [f, x], _ => exact ⟨f, x, rfl⟩
    have h1' : s = apB := h1
    have := isCL_mem.1 h3
    exact Or.inr ⟨f, x, by rw [h1']; rfl, this f (by simp), this x (by simp)⟩
theorem sizeL_one (s : ByteArray) (l : List Tm) : sizeL [⟨s, l⟩] = 1 + sizeL l := by simp [sizeL]
theorem sizeL_cons1 (t : Tm) (r : List Tm) : sizeL (t :: r) = sizeL [t] + sizeL r := by
  rw [show t :: r = [t] ++ r from rfl, sizeL_append]
theorem size_ap (f x : Tm) : sizeL [apT f x] = 1 + sizeL [f] + sizeL [x] := by
  rw [apT, sizeL_one, sizeL_cons1]; omega
theorem size_posC (t : Tm) : 0 < sizeL [t] := by obtain ⟨s, l⟩ := t; rw [sizeL_one]; omega

/-- The row that a term is: its front, and what that is applied to. -/
def rowR : Nat → Tm → Tm × List Tm
  | 0, t => (t, [])
  | n + 1, ⟨s, [f, x]⟩ => ((rowR n f).1, (rowR n f).2 ++ [x])
  | _ + 1, t => (t, [])
def rowH (t : Tm) : Tm := (rowR (sizeL [t]) t).1
def rowL (t : Tm) : List Tm := (rowR (sizeL [t]) t).2
theorem rowR_more (n : Nat) : ∀ (t : Tm) (m : Nat), sizeL [t] ≤ n → n ≤ m → rowR m t = rowR n t := by
  induction n with
  | zero => intro t m h _; have := size_posC t; omega
  | succ n ih =>
    intro t m h hm
    obtain ⟨m, rfl⟩ : ∃ k, m = k + 1 := ⟨m - 1, by omega⟩
    obtain ⟨s, l⟩ := t
    match l, h with
    | [], _ => rfl
    | [_], _ => rfl
    | [f, x], h =>
      have hs : sizeL [(⟨s, [f, x]⟩ : Tm)] = 1 + sizeL [f] + sizeL [x] := by rw [sizeL_one, sizeL_cons1]; omega
      have := size_posC x
      simp only [rowR]
      rw [ih f m (by omega) (by omega)]
    | _ :: _ :: _ :: _, _ => rfl
theorem row_leaf (s : ByteArray) : rowH ⟨s, []⟩ = ⟨s, []⟩ ∧ rowL ⟨s, []⟩ = [] := by
  simp [rowH, rowL, sizeL_one, sizeL, rowR]
theorem row_ap (f x : Tm) : rowH (apT f x) = rowH f ∧ rowL (apT f x) = rowL f ++ [x] := by
  have h := size_ap f x
  have h2 := rowR_more (sizeL [f]) f (sizeL [f] + sizeL [x]) (Nat.le_refl _) (by omega)
  rw [rowH, rowL, h, show 1 + sizeL [f] + sizeL [x] = sizeL [f] + sizeL [x] + 1 by omega]
  simp only [apT, rowR, h2, rowH, rowL]
  simp
theorem row_facts (n : Nat) : ∀ t : Tm, sizeL [t] ≤ n → isC t = true → (rowH t).args = [] ∧ isC (rowH t) = true ∧ (∀ x ∈ rowL t, isC x = true ∧ sizeL [x] < sizeL [t]) ∧ (rowL t).length < sizeL [t] := by
  induction n with
  | zero => intro t h; have := size_posC t; omega
  | succ n ih =>
    intro t h hc
    rcases isC_cases hc with ⟨s, rfl⟩ | ⟨f, x, rfl, h1, h2⟩
    · rw [(row_leaf s).1, (row_leaf s).2]
      exact ⟨rfl, hc, by simp, by simp [sizeL]⟩
    · have hs := size_ap f x
      have hx := size_posC x
      obtain ⟨a1, a2, a3, a4⟩ := ih f (by omega) h1
      rw [(row_ap f x).1, (row_ap f x).2]
      refine ⟨a1, a2, fun y hy => ?_, by simp; omega⟩
      rcases List.mem_append.1 hy with hy | hy
      · have := a3 y hy; exact ⟨this.1, by omega⟩
      · simp at hy; subst hy; exact ⟨h2, by omega⟩
def apAll (h : Tm) (l : List Tm) : Tm := l.foldl apT h
theorem isC_apAll (l : List Tm) : ∀ h, isC h = true → (∀ x ∈ l, isC x = true) → isC (apAll h l) = true := by
  induction l with
  | nil => intro h hh _; exact hh
  | cons x r ih => intro h hh hl; exact ih _ (by rw [isC_ap, hh, hl x (by simp)]; rfl) fun y hy => hl y (by simp [hy])
/-- What a row comes to by the symbol at its front. -/
def workC (s : ByteArray) : List Tm → Option Tm
  | [] => none
  | x :: l => if s = iB then some (apAll x l) else
    match l with
    | [] => none
    | y :: l => if s = kB then some (apAll x l) else
      match l with
      | [] => none
      | z :: l => if s = sB then some (apAll (apT (apT x z) (apT y z)) l) else none
theorem workC_isC {s : ByteArray} {l : List Tm} {x : Tm} (hl : ∀ y ∈ l, isC y = true) (h : workC s l = some x) : isC x = true := by
  match l with
  | [] => simp [workC] at h
  | a :: l =>
    simp only [workC] at h
    by_cases h1 : s = iB
    · rw [if_pos h1] at h; cases h; exact isC_apAll _ _ (hl a (by simp)) fun y hy => hl y (by simp [hy])
    · rw [if_neg h1] at h
      match l with
      | [] => cases h
      | b :: l =>
        dsimp only at h
        by_cases h2 : s = kB
        · rw [if_pos h2] at h; cases h; exact isC_apAll _ _ (hl a (by simp)) fun y hy => hl y (by simp [hy])
        · rw [if_neg h2] at h
          match l with
          | [] => cases h
          | c :: l =>
            dsimp only at h
            by_cases h3 : s = sB
            · rw [if_pos h3] at h; cases h
              exact isC_apAll _ _ (by simp [isC_ap, hl a, hl b, hl c]) fun y hy => hl y (by simp [hy])
            · rw [if_neg h3] at h; cases h
/-- The first of a row that a step is found in. -/
def firstC (f : Tm → Option Tm) (h : Tm) : List Tm → List Tm → Option Tm
  | _, [] => none
  | pre, x :: r => match f x with
    | some y => some (apAll h (pre ++ y :: r))
    | none => firstC f h (pre ++ [x]) r
theorem firstC_isC {f : Tm → Option Tm} {h x : Tm} (hf : ∀ y z, f y = some z → isC y = true → isC z = true) (hh : isC h = true) : ∀ (r pre : List Tm), (∀ y ∈ pre, isC y = true) → (∀ y ∈ r, isC y = true) → firstC f h pre r = some x → isC x = true := by
  intro r
  induction r with
  | nil => intro pre _ _ h; simp [firstC] at h
  | cons a r ih =>
    intro pre hp hr hx
    rw [firstC] at hx
    cases ha : f a with
    | some y =>
      rw [ha] at hx
      cases hx
      refine isC_apAll _ _ hh fun z hz => ?_
      rcases List.mem_append.1 hz with hz | hz
      · exact hp z hz
      · rcases List.mem_cons.1 hz with rfl | hz
        · exact hf a _ ha (hr a (by simp))
        · exact hr z (by simp [hz])
    | none =>
      rw [ha] at hx
      exact ih _ (fun y hy => by rcases List.mem_append.1 hy with hy | hy; exact hp y hy; simp at hy; subst hy; exact hr _ (by simp)) (fun y hy => hr y (by simp [hy])) hx
/-- One step; none: there is none. -/
def stepN : Nat → Tm → Option Tm
  | 0, _ => none
  | n + 1, t => match workC (rowH t).name (rowL t) with
    | some x => some x
    | none => firstC (stepN n) (rowH t) [] (rowL t)
theorem stepN_isC (n : Nat) : ∀ t x, stepN n t = some x → isC t = true → isC x = true := by
  induction n with
  | zero => intro t x h; simp [stepN] at h
  | succ n ih =>
    intro t x h hc
    have hr := row_facts _ t (Nat.le_refl _) hc
    rw [stepN] at h
    cases hw : workC (rowH t).name (rowL t) with
    | some y => rw [hw] at h; cases h; exact workC_isC (fun y hy => (hr.2.2.1 y hy).1) hw
    | none => rw [hw] at h; exact firstC_isC ih hr.2.1 _ [] (by simp) (fun y hy => (hr.2.2.1 y hy).1) h
/-- Where steps end: what is wrong, the term, how many steps. -/
def endC : Nat → Tm → Int × Tm × Nat
  | 0, t => match stepN 2001 t with
    | none => (0, t, 0)
    | some _ => (9, t, 0)
  | k + 1, t => match stepN 2001 t with
    | none => (0, t, 0)
    | some x => if 2000 < sizeL [x] then (8, t, 0) else ((endC k x).1, (endC k x).2.1, (endC k x).2.2 + 1)
theorem endC_none {k : Nat} {t : Tm} (h : stepN 2001 t = none) : endC k t = (0, t, 0) := by cases k <;> simp [endC, h]
theorem endC_fuel {t x : Tm} (h : stepN 2001 t = some x) : (endC 0 t).1 = 9 := by simp [endC, h]
theorem endC_full {k : Nat} {t x : Tm} (h : stepN 2001 t = some x) (hs : 2000 < sizeL [x]) : (endC (k + 1) t).1 = 8 := by simp [endC, h, hs]
theorem endC_on {k : Nat} {t x : Tm} (h : stepN 2001 t = some x) (hs : ¬2000 < sizeL [x]) : (endC (k + 1) t).1 = (endC k x).1 ∧ (endC (k + 1) t).2.1 = (endC k x).2.1 ∧ (endC (k + 1) t).2.2 = (endC k x).2.2 + 1 := by simp [endC, h, hs]
/-- So many steps of at most m are done, and t is come to. -/
def OnWay (m : Nat) (t0 : Tm) (d : Nat) (t : Tm) : Prop := d ≤ m ∧ (endC m t0).1 = (endC (m - d) t).1 ∧ (endC m t0).2.1 = (endC (m - d) t).2.1 ∧ (endC m t0).2.2 = (endC (m - d) t).2.2 + d ∧ isC t = true ∧ sizeL [t] ≤ 2000
theorem OnWay.start {m : Nat} {t : Tm} (hc : isC t = true) (hs : sizeL [t] ≤ 2000) : OnWay m t 0 t := ⟨Nat.zero_le _, by simp, by simp, by simp, hc, hs⟩
theorem OnWay.fin {m d : Nat} {t0 t : Tm} (h : OnWay m t0 d t) (hn : stepN 2001 t = none) : (endC m t0).1 = 0 ∧ (endC m t0).2.1 = t ∧ (endC m t0).2.2 = d := by
  obtain ⟨h0, h1, h2, h3, _⟩ := h
  rw [endC_none hn] at h1 h2 h3
  exact ⟨h1, h2, by simpa using h3⟩
theorem OnWay.fuel {m : Nat} {t0 t x : Tm} (h : OnWay m t0 m t) (hn : stepN 2001 t = some x) : (endC m t0).1 = 9 := by
  obtain ⟨h0, h1, _⟩ := h
  rw [h1, Nat.sub_self]; exact endC_fuel hn
theorem OnWay.full {m d : Nat} {t0 t x : Tm} (h : OnWay m t0 d t) (hd : d ≠ m) (hn : stepN 2001 t = some x) (hs : 2000 < sizeL [x]) : (endC m t0).1 = 8 := by
  obtain ⟨h0, h1, _⟩ := h
  rw [h1, show m - d = (m - d - 1) + 1 by omega]; exact endC_full hn hs
theorem OnWay.on {m d : Nat} {t0 t x : Tm} (h : OnWay m t0 d t) (hd : d ≠ m) (hn : stepN 2001 t = some x) (hs : ¬2000 < sizeL [x]) : OnWay m t0 (d + 1) x := by
  obtain ⟨h0, h1, h2, h3, h4, h5⟩ := h
  rw [show m - d = (m - (d + 1)) + 1 by omega] at h1 h2 h3
  obtain ⟨e1, e2, e3⟩ := endC_on (k := m - (d + 1)) hn hs
  exact ⟨by omega, by rw [h1, e1], by rw [h2, e2], by rw [h3, e3]; omega, stepN_isC _ _ _ hn h4, by omega⟩
end Go.Proofs.YtfkjejpfhflanaaGreatDoor

/- Plain: steps by i, k and s come together again (parallel steps; towards TopBracket). -/
namespace Go.Proofs.YtfkjejpfhflanaaGreatDoor
set_option linter.unusedSimpArgs false
set_option linter.unusedVariables false

/-- Terms put together of i, k, s and other leaves. -/
inductive CT where
  | I
  | K
  | S
  | at (s : ByteArray)
  | ap (f x : CT)
/-- Some steps at once, none within another one's outcome. -/
inductive CPar : CT → CT → Prop
  | refl (t : CT) : CPar t t
  | ap {f f' x x' : CT} : CPar f f' → CPar x x' → CPar (.ap f x) (.ap f' x')
  | i {x x' : CT} : CPar x x' → CPar (.ap .I x) x'
  | k {x x' y : CT} : CPar x x' → CPar (.ap (.ap .K x) y) x'
  | s {x x' y y' z z' : CT} : CPar x x' → CPar y y' → CPar z z' → CPar (.ap (.ap (.ap .S x) y) z) (.ap (.ap x' z') (.ap y' z'))
/-- All steps at once. -/
def CT.dev : CT → CT
  | .ap .I x => x.dev
  | .ap (.ap .K x) y => x.dev
  | .ap (.ap (.ap .S x) y) z => .ap (.ap x.dev z.dev) (.ap y.dev z.dev)
  | .ap f x => .ap f.dev x.dev
  | t => t
/-- What a term with a leaf k, or s, ahead may come to. -/
theorem CPar.atom_I {t : CT} (h : CPar .I t) : t = .I := by cases h; rfl
theorem CPar.atom_K {t : CT} (h : CPar .K t) : t = .K := by cases h; rfl
theorem CPar.atom_S {t : CT} (h : CPar .S t) : t = .S := by cases h; rfl
theorem CPar.k1 {x t : CT} (h : CPar (.ap .K x) t) : ∃ x', t = .ap .K x' ∧ CPar x x' := by
  cases h with
  | refl => exact ⟨x, rfl, .refl _⟩
  | ap h1 h2 => rw [h1.atom_K]; exact ⟨_, rfl, h2⟩
theorem CPar.s1 {x t : CT} (h : CPar (.ap .S x) t) : ∃ x', t = .ap .S x' ∧ CPar x x' := by
  cases h with
  | refl => exact ⟨x, rfl, .refl _⟩
  | ap h1 h2 => rw [h1.atom_S]; exact ⟨_, rfl, h2⟩
theorem CPar.s2 {x y t : CT} (h : CPar (.ap (.ap .S x) y) t) : ∃ x' y', t = .ap (.ap .S x') y' ∧ CPar x x' ∧ CPar y y' := by
  cases h with
  | refl => exact ⟨x, y, rfl, .refl _, .refl _⟩
  | ap h1 h2 =>
    obtain ⟨x', rfl, hx⟩ := h1.s1
    exact ⟨x', _, rfl, hx, h2⟩
theorem CPar.dev_one {f x f' x' : CT} (hf : CPar f' f.dev) (hx : CPar x' x.dev) (h0 : CPar f f') : CPar (.ap f' x') (CT.dev (.ap f x)) := by
  match f, hf, h0 with
  | .I, hf, h0 => rw [h0.atom_I, CT.dev]; exact .i hx
  | .K, hf, h0 => rw [h0.atom_K]; exact .ap (.refl _) hx
  | .S, hf, h0 => rw [h0.atom_S]; exact .ap (.refl _) hx
  | .at nm, hf, h0 => cases h0; exact .ap (.refl _) hx
  | .ap .K y, hf, h0 =>
    obtain ⟨y', rfl, _⟩ := h0.k1
    have h1 : CT.dev (.ap .K y) = .ap .K y.dev := by simp [CT.dev]
    rw [h1] at hf
    obtain ⟨z, e, h2⟩ := hf.k1
    cases e
    rw [CT.dev]
    exact .k h2
  | .ap (.ap .S a) b, hf, h0 =>
    obtain ⟨a', b', rfl, _, _⟩ := h0.s2
    have h1 : CT.dev (.ap (.ap .S a) b) = .ap (.ap .S a.dev) b.dev := by simp [CT.dev]
    rw [h1] at hf
    obtain ⟨a2, b2, e, h2, h3⟩ := hf.s2
    cases e
    rw [CT.dev]
    exact .s h2 h3 hx
  | .ap .I b, hf, h0 => exact .ap hf hx
  | .ap .S b, hf, h0 => exact .ap hf hx
  | .ap (.at nm) b, hf, h0 => exact .ap hf hx
  | .ap (.ap .I a) b, hf, h0 => exact .ap hf hx
  | .ap (.ap .K a) b, hf, h0 => exact .ap hf hx
  | .ap (.ap (.at nm) a) b, hf, h0 => exact .ap hf hx
  | .ap (.ap (.ap c a) d) b, hf, h0 => exact .ap hf hx
theorem CPar.dev_refl : ∀ t : CT, CPar t t.dev
  | .I => .refl _
  | .K => .refl _
  | .S => .refl _
  | .at nm => .refl _
  | .ap f x => CPar.dev_one (dev_refl f) (dev_refl x) (.refl _)
/-- Whatever steps are done at once, the others can be done behind them. -/
theorem CPar.dev {a b : CT} (h : CPar a b) : CPar b a.dev := by
  induction h with
  | refl t => exact CPar.dev_refl t
  | ap h1 h2 i1 i2 => exact CPar.dev_one i1 i2 h1
  | i h ih => rw [CT.dev]; exact ih
  | k h ih => rw [CT.dev]; exact ih
  | s h1 h2 h3 i1 i2 i3 => rw [CT.dev]; exact .ap (.ap i1 i3) (.ap i2 i3)
/-- Many steps. -/
inductive CStar : CT → CT → Prop
  | refl (t : CT) : CStar t t
  | step {a b c : CT} : CPar a b → CStar b c → CStar a c
theorem CStar.strip {a b c : CT} (h : CStar a c) (h1 : CPar a b) : ∃ d, CStar b d ∧ CPar c d := by
  induction h generalizing b with
  | refl t => exact ⟨b, .refl _, h1⟩
  | step h2 h3 ih =>
    obtain ⟨d, hd, he⟩ := ih h2.dev
    exact ⟨d, .step h1.dev hd, he⟩
/-- Steps come together again. -/
theorem CStar.meet {a b c : CT} (h : CStar a b) (h1 : CStar a c) : ∃ d, CStar b d ∧ CStar c d := by
  induction h generalizing c with
  | refl t => exact ⟨c, h1, .refl _⟩
  | step h2 h3 ih =>
    obtain ⟨d, hd, he⟩ := h1.strip h2
    obtain ⟨f, hf, hg⟩ := ih hd
    exact ⟨f, hf, .step he hg⟩
/-- No step is left. -/
def CNorm (t : CT) : Prop := ∀ u, CPar t u → u = t
theorem CNorm.star {t u : CT} (h : CNorm t) (hs : CStar t u) : u = t := by
  induction hs with
  | refl t => rfl
  | step h1 h2 ih =>
    have e := h _ h1
    subst e
    exact ih h
/-- Two ends of one term are the same. -/
theorem CStar.ends {a b c : CT} (h1 : CStar a b) (h2 : CStar a c) (hb : CNorm b) (hc : CNorm c) : b = c := by
  obtain ⟨d, h3, h4⟩ := h1.meet h2
  rw [← hb.star h3, hc.star h4]
end Go.Proofs.YtfkjejpfhflanaaGreatDoor

/- Plain: the document's steps by i, k and s are steps that come together again; where it finds none, none is left (towards TopBracket). -/
namespace Go.Proofs.YtfkjejpfhflanaaGreatDoor
set_option linter.unusedSimpArgs false
set_option linter.unusedVariables false

def leafC (s : ByteArray) : CT := if s = iB then .I else if s = kB then .K else if s = sB then .S else .at s
def toCR : Nat → Tm → CT
  | 0, t => .at t.name
  | n + 1, ⟨s, [f, x]⟩ => .ap (toCR n f) (toCR n x)
  | _ + 1, t => leafC t.name
def toC (t : Tm) : CT := toCR (sizeL [t]) t
theorem toCR_more (n : Nat) : ∀ (t : Tm) (m : Nat), isC t = true → sizeL [t] ≤ n → n ≤ m → toCR m t = toCR n t := by
  induction n with
  | zero => intro t m _ h; have := size_posC t; omega
  | succ n ih =>
    intro t m hc h hm
    obtain ⟨m, rfl⟩ : ∃ k, m = k + 1 := ⟨m - 1, by omega⟩
    rcases isC_cases hc with ⟨s, rfl⟩ | ⟨f, x, rfl, h1, h2⟩
    · rfl
    · have hs := size_ap f x
      have a1 := size_posC f
      have a2 := size_posC x
      simp only [apT, toCR]
      rw [ih f m h1 (by omega) (by omega), ih x m h2 (by omega) (by omega)]
theorem toC_leaf (s : ByteArray) : toC ⟨s, []⟩ = leafC s := by simp [toC, sizeL_one, sizeL, toCR]
theorem toC_ap {f x : Tm} (h1 : isC f = true) (h2 : isC x = true) : toC (apT f x) = .ap (toC f) (toC x) := by
  have h := size_ap f x
  have a1 := size_posC f
  have a2 := size_posC x
  rw [toC, h, show 1 + sizeL [f] + sizeL [x] = (sizeL [f] + sizeL [x]) + 1 by omega]
  simp only [apT, toCR]
  rw [toCR_more (sizeL [f]) f _ h1 (Nat.le_refl _) (by omega), toCR_more (sizeL [x]) x _ h2 (Nat.le_refl _) (by omega)]
  rfl
theorem leafC_i : leafC iB = .I := by simp [leafC]
theorem leafC_k : leafC kB = .K := by unfold leafC; rw [if_neg (by decide), if_pos rfl]
theorem leafC_s : leafC sB = .S := by unfold leafC; rw [if_neg (by decide), if_neg (by decide), if_pos rfl]
end Go.Proofs.YtfkjejpfhflanaaGreatDoor

/- Plain: where steps by i, k and s end well, the end is the only one; a bracket's law follows from steps (towards TopBracket). -/
namespace Go.Proofs.YtfkjejpfhflanaaGreatDoor
set_option linter.unusedSimpArgs false
set_option linter.unusedVariables false

theorem CStar.trans {a b c : CT} (h : CStar a b) (h1 : CStar b c) : CStar a c := by
  induction h with
  | refl t => exact h1
  | step h2 _ ih => exact .step h2 (ih h1)
theorem CStar.one {a b : CT} (h : CPar a b) : CStar a b := .step h (.refl _)
theorem CStar.ap {f f' x x' : CT} (h1 : CStar f f') (h2 : CStar x x') : CStar (.ap f x) (.ap f' x') := by
  have e1 : CStar (.ap f x) (.ap f' x) := by
    induction h1 with
    | refl t => exact .refl _
    | step h _ ih => exact .step (.ap h (.refl _)) ih
  have e2 : CStar (.ap f' x) (.ap f' x') := by
    clear e1
    induction h2 with
    | refl t => exact .refl _
    | step h _ ih => exact .step (.ap (.refl _) h) ih
  exact e1.trans e2
end Go.Proofs.YtfkjejpfhflanaaGreatDoor

/- A term with what stands for its variables, as the document says. -/
namespace Go.Proofs.YtfkjejpfhflanaaGreatDoor
set_option linter.unusedSimpArgs false
set_option linter.unusedVariables false

/-- A knot with what stands for it, or above what has been made of those below. -/
def onN (l : List Bd) (s : ByteArray) (es0 bs : List Tm) : Tm :=
  match forT l s with
  | some x => if es0.isEmpty = true then x else ⟨s, bs⟩
  | none => ⟨s, bs⟩
def onL (l : List Bd) : List Tm → List Tm
  | [] => []
  | ⟨s, es0⟩ :: r => onN l s es0 (onL l es0) :: onL l r
def onT (l : List Bd) (t : Tm) : Tm := onN l t.name t.args (onL l t.args)

theorem onL_cons (l : List Bd) (t : Tm) (r : List Tm) : onL l (t :: r) = onT l t :: onL l r := by
  obtain ⟨s, es0⟩ := t
  simp only [onL, onT]
theorem onT_some {l : List Bd} {s : ByteArray} {x : Tm} (h : forT l s = some x) : onT l ⟨s, []⟩ = x := by simp [onT, onN, h]
theorem onT_deep {l : List Bd} {s : ByteArray} {es0 : List Tm} (h : es0 ≠ [] ∨ forT l s = none) : onT l ⟨s, es0⟩ = ⟨s, onL l es0⟩ := by
  unfold onT onN
  rcases h with h | h
  · cases forT l s with
    | none => rfl
    | some x => simp [h]
  · rw [h]
end Go.Proofs.YtfkjejpfhflanaaGreatDoor

/- Plain: what a bracket is, and that, applied to a thing, it comes to the term with the thing in it (towards TopBracket). -/
namespace Go.Proofs.YtfkjejpfhflanaaGreatDoor
set_option linter.unusedSimpArgs false
set_option linter.unusedVariables false

/-- A bracket's outcome, made such a term in any case. -/
def alw (p : Tm × Bool) : Tm := if p.2 = true then p.1 else apT ⟨kB, []⟩ p.1
/-- Such a term; or the term itself, where the variable doesn't stand in it. -/
def brR (v : ByteArray) : Nat → Tm → Tm × Bool
  | 0, t => (t, false)
  | n + 1, ⟨s, l⟩ => if s = v then (⟨iB, []⟩, true) else
    match l with
    | [f, x] => if (brR v n f).2 = false ∧ (brR v n x).2 = false then (⟨s, l⟩, false) else
        if (brR v n f).2 = false ∧ x.name = v then ((brR v n f).1, true) else
        (apT (apT ⟨sB, []⟩ (alw (brR v n f))) (alw (brR v n x)), true)
    | _ => (⟨s, l⟩, false)
theorem on_leaf1 (v s : ByteArray) (x : Tm) : onT [⟨v, x⟩] ⟨s, []⟩ = if v = s then x else ⟨s, []⟩ := by
  by_cases h : v = s
  · rw [if_pos h]; exact onT_some (by simp [forT, h])
  · rw [if_neg h, onT_deep (Or.inr (by simp [forT, h]))]; simp [onL]
theorem on_ap1 {v : ByteArray} (hv : v ≠ apB) (x f y : Tm) : onT [⟨v, x⟩] (apT f y) = apT (onT [⟨v, x⟩] f) (onT [⟨v, x⟩] y) := by
  unfold apT
  rw [onT_deep (Or.inl (by simp))]
  rw [onL_cons, onL_cons]
  simp [onL]
/-- What a bracket is worth. -/
theorem br_law {v : ByteArray} (hv : v ≠ apB) {x : Tm} (hx : isC x = true) (n : Nat) : ∀ t : Tm, sizeL [t] ≤ n → isC t = true →
    isC (brR v n t).1 = true ∧ isC (onT [⟨v, x⟩] t) = true ∧ ((brR v n t).2 = false → (brR v n t).1 = t ∧ onT [⟨v, x⟩] t = t) ∧ CStar (.ap (toC (alw (brR v n t))) (toC x)) (toC (onT [⟨v, x⟩] t)) := by
  induction n with
  | zero => intro t h; have := size_posC t; omega
  | succ n ih =>
    intro t h hc
    rcases isC_cases hc with ⟨s, rfl⟩ | ⟨f, y, rfl, h1, h2⟩
    · rw [on_leaf1]
      by_cases e : s = v
      · subst e
        rw [if_pos rfl]
        have e1 : brR s (n + 1) ⟨s, []⟩ = (⟨iB, []⟩, true) := by simp [brR]
        rw [e1]
        refine ⟨isC_leaf _, hx, by simp, ?_⟩
        simp only [alw, if_true]
        rw [toC_leaf, leafC_i]
        exact .one (.i (.refl _))
      · have e1 : brR v (n + 1) ⟨s, []⟩ = (⟨s, []⟩, false) := by simp [brR, e]
        rw [e1, if_neg (fun h => e h.symm)]
        refine ⟨isC_leaf _, isC_leaf _, fun _ => ⟨rfl, rfl⟩, ?_⟩
        have e2 : alw ((⟨s, []⟩ : Tm), false) = apT ⟨kB, []⟩ ⟨s, []⟩ := by simp [alw]
        rw [e2, toC_ap (isC_leaf _) (isC_leaf _), toC_leaf kB, leafC_k]
        exact .one (.k (.refl _))
    · have hs := size_ap f y
      have a1 := size_posC f
      have a2 := size_posC y
      obtain ⟨f1, f2, f3, f4⟩ := ih f (by omega) h1
      obtain ⟨y1, y2, y3, y4⟩ := ih y (by omega) h2
      have hna : ¬ apB = v := fun h => hv h.symm
      have e0 : brR v (n + 1) (apT f y) = if (brR v n f).2 = false ∧ (brR v n y).2 = false then (apT f y, false) else
        if (brR v n f).2 = false ∧ y.name = v then ((brR v n f).1, true) else
        (apT (apT ⟨sB, []⟩ (alw (brR v n f))) (alw (brR v n y)), true) := by
        unfold apT
        rw [brR, if_neg hna]
        rfl
      have hcaf : isC (alw (brR v n f)) = true := by unfold alw; split; exact f1; rw [isC_ap, isC_leaf, f1]; rfl
      have hcay : isC (alw (brR v n y)) = true := by unfold alw; split; exact y1; rw [isC_ap, isC_leaf, y1]; rfl
      have hon : isC (apT (onT [⟨v, x⟩] f) (onT [⟨v, x⟩] y)) = true := by rw [isC_ap, f2, y2]; rfl
      rw [e0, on_ap1 hv]
      by_cases c1 : (brR v n f).2 = false ∧ (brR v n y).2 = false
      · rw [if_pos c1]
        have g1 := (f3 c1.1).2
        have g2 := (y3 c1.2).2
        refine ⟨hc, hon, fun _ => ⟨rfl, by rw [g1, g2]⟩, ?_⟩
        have e2 : alw (apT f y, false) = apT ⟨kB, []⟩ (apT f y) := by simp [alw]
        rw [e2, toC_ap (isC_leaf _) hc, toC_leaf, leafC_k, g1, g2]
        exact .one (.k (.refl _))
      · rw [if_neg c1]
        by_cases c2 : (brR v n f).2 = false ∧ y.name = v
        · rw [if_pos c2]
          have g1 := f3 c2.1
          have hy : y = ⟨v, []⟩ := by
            rcases isC_cases h2 with ⟨q, rfl⟩ | ⟨p, q, rfl, _, _⟩
            · have := c2.2; simp only at this; rw [this]
            · exact absurd c2.2 hna
          refine ⟨f1, hon, by simp, ?_⟩
          have e2 : alw ((brR v n f).1, true) = f := by simp [alw, g1.1]
          rw [e2, g1.2, hy, on_leaf1, if_pos rfl, toC_ap h1 hx]
          exact .refl _
        · rw [if_neg c2]
          refine ⟨by rw [isC_ap, isC_ap, isC_leaf, hcaf, hcay]; rfl, hon, by simp, ?_⟩
          have e2 : ∀ q : Tm, alw (q, true) = q := fun q => by simp [alw]
          rw [e2, toC_ap (by rw [isC_ap, isC_leaf, hcaf]; rfl) hcay, toC_ap (isC_leaf _) hcaf, toC_leaf, leafC_s, toC_ap f2 y2]
          exact (CStar.one (.s (.refl _) (.refl _) (.refl _))).trans (.ap f4 y4)
end Go.Proofs.YtfkjejpfhflanaaGreatDoor


/- Walks: what stands at a place, as the document says. -/
namespace Go.Proofs.YtfkjejpfhflanaaGreatDoor
open Go.RowKit
set_option linter.unusedSimpArgs false
set_option linter.unusedVariables false

theorem PV.tail {w : World} {X : Nat → Prop} {b o c : Nat} {z : Int} {zs : List Int} (hl : zs.length + 1 ≤ 9223372036854775807 ∧ zs.length + 1 ≤ c) (hx : X b) (h : ∀ i (h : i < (z :: zs).length), w.cell? ⟨b, o + i, none⟩ = some (.int .i64 (z :: zs)[i])) :
    PV w X (.slice (some ⟨b, o + 1, none⟩) zs.length (c - 1)) zs := by
  refine ⟨_, _, rfl, by omega, Or.inr ⟨b, o + 1, rfl, hx, fun i hi => ?_⟩⟩
  have := h (i + 1) (by simpa using hi)
  rw [show o + 1 + i = o + (i + 1) by omega]
  simpa using this

theorem TV.back {w w' : World} {X : Nat → Prop} {v : Value} {t : Tm} {B : Nat} (h : TV w' X v t) (hb : Below B w w') (hX : ∀ b, X b → b < B) : TV w X v t := by
  obtain ⟨a, c, e, h⟩ := h
  exact ⟨a, c, e, h.back hb hX⟩

end Go.Proofs.YtfkjejpfhflanaaGreatDoor


/- Walks: two terms that are the same. -/
namespace Go.Proofs.YtfkjejpfhflanaaGreatDoor
open Go.RowKit
set_option linter.unusedSimpArgs false
set_option linter.unusedVariables false

end Go.Proofs.YtfkjejpfhflanaaGreatDoor


/- Walks: whether two terms are the same. -/
namespace Go.Proofs.YtfkjejpfhflanaaGreatDoor
open Go.RowKit
set_option linter.unusedSimpArgs false
set_option linter.unusedVariables false
set_option maxRecDepth 8000

end Go.Proofs.YtfkjejpfhflanaaGreatDoor

/- Bindings in the order of their names: plain. -/
namespace Go.Proofs.YtfkjejpfhflanaaGreatDoor
open Go.RowKit
set_option linter.unusedSimpArgs false
set_option linter.unusedVariables false

/-- One text is ahead of another one. -/
def ltB (a b : ByteArray) : Bool := Op.bytesLess a.toList b.toList
theorem bl_irrefl : ∀ a : List UInt8, Op.bytesLess a a = false
  | [] => rfl
  | x :: r => by simp [Op.bytesLess, bl_irrefl r]
theorem ltB_irrefl (a : ByteArray) : ltB a a = false := bl_irrefl _
/-- No name twice, and each ahead of the next. -/
def SortedB (l : List Bd) : Prop := l.Pairwise fun a b => ltB a.nm b.nm = true
/-- No name twice. -/
def ApartB (l : List Bd) : Prop := l.Pairwise fun a b => a.nm ≠ b.nm
theorem SortedB.apart {l : List Bd} (h : SortedB l) : ApartB l := h.imp fun {a b} h e => by rw [e, ltB_irrefl] at h; cases h
end Go.Proofs.YtfkjejpfhflanaaGreatDoor

/- Which term is above another one, by paths and by weights: plain. -/
namespace Go.Proofs.YtfkjejpfhflanaaGreatDoor
open Go.RowKit
set_option linter.unusedSimpArgs false
set_option linter.unusedVariables false

end Go.Proofs.YtfkjejpfhflanaaGreatDoor

/- Which term is above another one by weights: plain. -/
namespace Go.Proofs.YtfkjejpfhflanaaGreatDoor
open Go.RowKit
set_option linter.unusedSimpArgs false
set_option linter.unusedVariables false

end Go.Proofs.YtfkjejpfhflanaaGreatDoor

/- Plain: the variable no longer stands in a bracket; how great a bracket may be; both runs end alike (towards TopBracket). -/
namespace Go.Proofs.YtfkjejpfhflanaaGreatDoor
set_option linter.unusedSimpArgs false
set_option linter.unusedVariables false

end Go.Proofs.YtfkjejpfhflanaaGreatDoor


/- Walks: a copy of a term. -/
namespace Go.Proofs.YtfkjejpfhflanaaGreatDoor
open Go.RowKit
set_option linter.unusedSimpArgs false
set_option linter.unusedVariables false

theorem below3 {w : World} (o1 o2 o3 : Obj) : Below w.heap.size w (((w.alloc o1).alloc o2).alloc o3) := (below2 o1 o2).alloc (by simp; omega) o3

theorem below4 {w : World} (o1 o2 o3 o4 : Obj) : Below w.heap.size w ((((w.alloc o1).alloc o2).alloc o3).alloc o4) := (below3 o1 o2 o3).alloc (by simp; omega) o4

end Go.Proofs.YtfkjejpfhflanaaGreatDoor


/- Walks: one term applied to another; whether all is put together by ap. -/
namespace Go.Proofs.YtfkjejpfhflanaaGreatDoor
open Go.RowKit
set_option linter.unusedSimpArgs false
set_option linter.unusedVariables false
set_option maxRecDepth 8000

/-- A term is told, of old memory and of new. -/
def TPost (w : World) (X : Nat → Prop) (t : Tm) (e : Ending) (w' : World) : Prop :=
  ∃ v, e = .returned v ∧ TV w' (fun b => X b ∨ w.heap.size ≤ b) v t ∧ Below w.heap.size w w'
theorem TV.or {w : World} {X : Nat → Prop} {v : Value} {t : Tm} (h : TV w X v t) (n : Nat) : TV w (fun b => X b ∨ n ≤ b) v t := h.mono fun _ h _ => Or.inl h
theorem lies_two {w : World} {Y : Nat → Prop} {g T c c2 : Nat} {a a2 : Option Addr} {f x : Tm} (hB : Blk w g #[.string f.name, .slice a f.args.length c, .string x.name, .slice a2 x.args.length c2] T) (hY : Y g) (h1 : Sl w Y a f.args) (h2 : Sl w Y a2 x.args) : Sl w Y (some ⟨g, 0, none⟩) [f, x] := by
  obtain ⟨s, l⟩ := f
  obtain ⟨s2, l2⟩ := x
  refine ⟨by simp, Or.inr ⟨g, 0, rfl, ?_⟩⟩
  simp only [Lies]
  exact ⟨hY, hB.cell 0, ⟨a, c, hB.cell 1, h1⟩, hY, hB.cell 2, ⟨a2, c2, hB.cell 3, h2⟩, trivial⟩
theorem cbCell_lt {w : World} {b o : Nat} {v : Value} (h : w.cell? ⟨b, o, none⟩ = some v) : b < w.heap.size := by
  apply Classical.byContradiction
  intro hn
  have e : w.heap[b]? = none := Array.getElem?_eq_none (by omega)
  simp [World.cell?, e] at h
theorem sl_twoC {w : World} {X : Nat → Prop} {a : Option Addr} {f x : Tm} (h : Sl w X a [f, x]) : ∃ b o a1 c1 a2 c2, a = some ⟨b, o, none⟩ ∧ b < w.heap.size ∧ w.cell? ⟨b, o, none⟩ = some (.string f.name) ∧ w.cell? ⟨b, o + 1, none⟩ = some (.slice a1 f.args.length c1) ∧ w.cell? ⟨b, o + 2, none⟩ = some (.string x.name) ∧ w.cell? ⟨b, o + 3, none⟩ = some (.slice a2 x.args.length c2) ∧ Sl w X a1 f.args ∧ Sl w X a2 x.args := by
  obtain ⟨s, l⟩ := f
  obtain ⟨s2, l2⟩ := x
  obtain ⟨_, h | ⟨b, o, rfl, h⟩⟩ := h
  · cases h
  · simp only [Lies] at h
    obtain ⟨_, h1, ⟨a1, c1, h2, h3⟩, _, h4, ⟨a2, c2, h5, h6⟩, _⟩ := h
    exact ⟨b, o, a1, c1, a2, c2, rfl, cbCell_lt h1, h1, h2, h4, h5, h3, h6⟩
theorem put2_blk (w : World) (f x : Tm) (a a2 : Option Addr) (c c2 : Nat) :
    Blk ((((w.alloc (.cells #[.string f.name, .slice a f.args.length c] 30)).alloc (.cells #[.string x.name, .slice a2 x.args.length c2] 30)).alloc (.cells #[.string ⟨#[97, 112]⟩, .slice (some ⟨w.heap.size + 1 + 1 + 1, 0, none⟩) 2 2] 30)).alloc (.cells #[.string f.name, .slice a f.args.length c, .string x.name, .slice a2 x.args.length c2] 30)) (w.heap.size + 1 + 1) #[.string ⟨#[97, 112]⟩, .slice (some ⟨w.heap.size + 1 + 1 + 1, 0, none⟩) 2 2] 30 ∧
    Blk ((((w.alloc (.cells #[.string f.name, .slice a f.args.length c] 30)).alloc (.cells #[.string x.name, .slice a2 x.args.length c2] 30)).alloc (.cells #[.string ⟨#[97, 112]⟩, .slice (some ⟨w.heap.size + 1 + 1 + 1, 0, none⟩) 2 2] 30)).alloc (.cells #[.string f.name, .slice a f.args.length c, .string x.name, .slice a2 x.args.length c2] 30)) (w.heap.size + 1 + 1 + 1) #[.string f.name, .slice a f.args.length c, .string x.name, .slice a2 x.args.length c2] 30 := by
  constructor
  · have h := (Blk.new ((w.alloc (.cells #[.string f.name, .slice a f.args.length c] 30)).alloc (.cells #[.string x.name, .slice a2 x.args.length c2] 30)) #[.string ⟨#[97, 112]⟩, .slice (some ⟨w.heap.size + 1 + 1 + 1, 0, none⟩) 2 2] 30).alloc (.cells #[.string f.name, .slice a f.args.length c, .string x.name, .slice a2 x.args.length c2] 30)
    simpa using h
  · have h := Blk.new (((w.alloc (.cells #[.string f.name, .slice a f.args.length c] 30)).alloc (.cells #[.string x.name, .slice a2 x.args.length c2] 30)).alloc (.cells #[.string ⟨#[97, 112]⟩, .slice (some ⟨w.heap.size + 1 + 1 + 1, 0, none⟩) 2 2] 30)) #[.string f.name, .slice a f.args.length c, .string x.name, .slice a2 x.args.length c2] 30
    simpa using h

set_option maxHeartbeats 1000000 in
theorem ap_any (f x : Tm) (fv xv : Value) (w : World) (X : Nat → Prop) (hf : TV w X fv f) (hx : TV w X xv x) :
    Calls Tryz.prog 36 #[fv, xv] w fun e w' => TPost w X (apT f x) e w' := by
  obtain ⟨a, c, rfl, hs⟩ := hf
  obtain ⟨a2, c2, rfl, hs2⟩ := hx
  have HS := hide hs
  have HS2 := hide hs2
  clear hs hs2
  have HB : Hid (Below w.heap.size w ((((w.alloc (.cells #[.string f.name, .slice a f.args.length c] 30)).alloc (.cells #[.string x.name, .slice a2 x.args.length c2] 30)).alloc (.cells #[.string ⟨#[97, 112]⟩, .slice (some ⟨w.heap.size + 1 + 1 + 1, 0, none⟩) 2 2] 30)).alloc (.cells #[.string f.name, .slice a f.args.length c, .string x.name, .slice a2 x.args.length c2] 30))) := below4 _ _ _ _
  have q := put2_blk w f x a a2 c c2
  have q0 := q.1.cell 0
  have q1 := q.1.cell 1
  have HQ := hide q.2
  clear q
  simp at q0 q1
  go_enter Tryz.func36, Tryz.ntmps36
  go_wp2_with fail
  refine bodyPost_ret (v := .agg #[.string ⟨#[97, 112]⟩, .slice (some ⟨w.heap.size + 1 + 1 + 1, 0, none⟩) 2 2]) (by simp [results, Tryz.results36, go_sem, q0, q1]) rfl ?_
  refine ⟨_, rfl, ⟨_, _, rfl, lies_two HQ.out (Or.inr (by omega)) ?_ ?_⟩, HB.out⟩
  · exact (HS.out.later HB.out).mono fun b h _ => Or.inl h
  · exact (HS2.out.later HB.out).mono fun b h _ => Or.inl h

/-- What is wrong with a term of aps. -/
def combE (t : Tm) : Int := if mayE t = 0 then (if isC t then 0 else 2) else mayE t

end Go.Proofs.YtfkjejpfhflanaaGreatDoor


/- Walks: the row that a term is, as the document says. -/
namespace Go.Proofs.YtfkjejpfhflanaaGreatDoor
open Go.RowKit
set_option linter.unusedSimpArgs false
set_option linter.unusedVariables false
set_option maxRecDepth 8000

theorem Row.mono {w : World} {N N' T : Nat} {Y Y' : Nat → Prop} {v : Value} {l : List Tm} {xs : List Value} (h : Row w N T Y v l xs) (hY : ∀ b, Y b → Y' b) (hN : N' ≤ N) : Row w N' T Y' v l xs :=
  ⟨ownsRow_base h.own hN, h.row.imp fun a l hs => hs.mono fun b hb _ => hb.imp (hY b) fun h => ⟨by omega, h.2⟩⟩

end Go.Proofs.YtfkjejpfhflanaaGreatDoor


/- Walks: the row that a term is, as the program says: a closure tells its places. -/
namespace Go.Proofs.YtfkjejpfhflanaaGreatDoor
open Go.RowKit
set_option linter.unusedSimpArgs false
set_option linter.unusedVariables false
set_option maxRecDepth 8000

end Go.Proofs.YtfkjejpfhflanaaGreatDoor


/- Walks: one step, as the document says. -/
namespace Go.Proofs.YtfkjejpfhflanaaGreatDoor
open Go.RowKit
set_option linter.unusedSimpArgs false
set_option linter.unusedVariables false
set_option maxRecDepth 8000

/-- What one step comes to. -/
def StPost (w : World) (X : Nat → Prop) (r : Option Tm) (e : Ending) (w' : World) : Prop :=
  Below w.heap.size w w' ∧ ((∃ x v, r = some x ∧ e = .returned (.tuple #[v, .bool true]) ∧ TV w' (fun b => (X b ∧ b < w.heap.size) ∨ w.heap.size ≤ b) v x) ∨ (r = none ∧ ∃ s a n c, e = .returned (.tuple #[.agg #[.string s, .slice a n c], .bool false])))

/-- Memory that what is made may lie in. -/
def StY (w : World) (X : Nat → Prop) (O : Nat) (b : Nat) : Prop := (X b ∧ b < w.heap.size) ∨ (w.heap.size + 2 ≤ b ∧ b ≠ O)
/-- What is laid while a step is made: the front's box, the box of what is made, the result's. -/
def StI (w w1 : World) (X : Nat → Prop) (h : Tm) (ah : Option Addr) (ch : Nat) (x : Tm) (wr : World) : Prop :=
  Below w.heap.size w wr ∧ Below w1.heap.size w1 wr ∧ Blk wr w1.heap.size #[.string h.name, .slice ah 0 ch] 30 ∧ Blk wr (w.heap.size + 1) #[.string ⟨#[]⟩, .slice none 0 0] 30 ∧ w1.heap.size + 1 < wr.heap.size ∧
  ∃ ax cx, Blk wr (w1.heap.size + 1) #[.string x.name, .slice ax x.args.length cx] 30 ∧ Sl wr (StY w X (w1.heap.size + 1)) ax x.args

theorem StI.below {w w1 wr w2 : World} {X : Nat → Prop} {h x : Tm} {ah : Option Addr} {ch : Nat} (hi : StI w w1 X h ah ch x wr) (hb : Below wr.heap.size wr w2) (hw : w.heap.size + 2 ≤ w1.heap.size) : StI w w1 X h ah ch x w2 := by
  obtain ⟨h1, h2, h3, h4, h5, ax, cx, h6, h7⟩ := hi
  have := h1.size
  have := hb.size
  exact ⟨h1.trans (hb.mono (by omega)), h2.trans (hb.mono (by omega)), h3.below hb (by omega), h4.below hb (by omega), by omega, ax, cx, h6.below hb (by omega), h7.later hb⟩
/-- Another one is stored. -/
theorem StI.put {w w1 wr : World} {X : Nat → Prop} {h x y : Tm} {ah ay : Option Addr} {ch cy : Nat} (hi : StI w w1 X h ah ch x wr) (hw : w.heap.size + 2 ≤ w1.heap.size) (hy : Sl wr (StY w X (w1.heap.size + 1)) ay y.args) :
    StI w w1 X h ah ch y ((wr.setCell ⟨w1.heap.size + 1, 0, none⟩ (.string y.name)).setCell ⟨w1.heap.size + 1, 1, none⟩ (.slice ay y.args.length cy)) := by
  obtain ⟨h1, h2, h3, h4, h5, ax, cx, h6, h7⟩ := hi
  refine ⟨(h1.setCell (p := ⟨w1.heap.size + 1, 0, none⟩) (by simp; omega) _).setCell (p := ⟨w1.heap.size + 1, 1, none⟩) (by simp; omega) _, (h2.setCell (p := ⟨w1.heap.size + 1, 0, none⟩) (by simp) _).setCell (p := ⟨w1.heap.size + 1, 1, none⟩) (by simp) _, (h3.setOther _ _ (by omega)).setOther _ _ (by omega), (h4.setOther _ _ (by omega)).setOther _ _ (by omega), by simp [World.setCell]; omega, ay, cy, (h6.set 0 _).set 1 _, ?_⟩
  refine hy.kept fun b hb => ?_
  have hne : b ≠ w1.heap.size + 1 := by rcases hb with hb | hb <;> omega
  rw [Below.heap_setCell _ _ _ _ (by simpa using hne), Below.heap_setCell _ _ _ _ (by simpa using hne)]
theorem StI.fin {w w1 wr : World} {X : Nat → Prop} {h x : Tm} {ah : Option Addr} {ch : Nat} {r : Option Tm} (hi : StI w w1 X h ah ch x wr) (hw : w.heap.size + 2 ≤ w1.heap.size) {ax : Option Addr} {cx : Nat} (hs : Sl wr (StY w X (w1.heap.size + 1)) ax x.args) (hr : r = some x) (u u' : Value) :
    StPost w X r (.returned (.tuple #[.agg #[.string x.name, .slice ax x.args.length cx], .bool true])) ((wr.setCell ⟨w.heap.size + 1, 0, none⟩ u).setCell ⟨w.heap.size + 1, 1, none⟩ u') := by
  obtain ⟨h1, h2, h3, h4, h5, _⟩ := hi
  refine ⟨(h1.setCell (p := ⟨w.heap.size + 1, 0, none⟩) (by simp) _).setCell (p := ⟨w.heap.size + 1, 1, none⟩) (by simp) _, Or.inl ⟨x, _, hr, rfl, ax, cx, rfl, ?_⟩⟩
  refine (hs.kept fun b hb => ?_).mono fun b hb _ => hb.imp id fun h => by omega
  have hne : b ≠ w.heap.size + 1 := by rcases hb with hb | hb <;> omega
  rw [Below.heap_setCell _ _ _ _ (by simpa using hne), Below.heap_setCell _ _ _ _ (by simpa using hne)]
/-- What the row that a term is says of its step. -/
structure RwF (n : Nat) (t H : Tm) (L : List Tm) : Prop where
  args : H.args = []
  len : L.length < sizeL [t]
  isC : ∀ j (hj : j < L.length), isC L[j] = true ∧ sizeL [L[j]] < sizeL [t]
  work : ∀ x, workC H.name L = some x → stepN (n + 1) t = some x
  non : workC H.name L = none → (∀ j (hj : j < L.length), stepN n L[j] = none) → stepN (n + 1) t = none
  som : ∀ (y : Tm) (i : Nat) (hi : i < L.length), workC H.name L = none → (∀ j (hj : j < i), stepN n (L[j]'(by omega)) = none) → stepN n L[i] = some y → stepN (n + 1) t = some (apAll H (L.set i y))
theorem drew_below {w w2 : World} (h : Below w.heap.size w.drew w2) : Below w.heap.size w w2 := (below_drewN (Below.refl _ _) 1).trans h
end Go.Proofs.YtfkjejpfhflanaaGreatDoor


/- Walks: rows made of rows: what closures tell of their places; the term of a row. -/
namespace Go.Proofs.YtfkjejpfhflanaaGreatDoor
open Go.RowKit
set_option linter.unusedSimpArgs false
set_option linter.unusedVariables false
set_option maxRecDepth 8000

/-- A row R lies behind the closure over box B. -/
def RoL (w : World) (Y : Nat → Prop) (B : Nat) (R : List Tm) : Prop := ∃ al cl, Blk w B #[.slice al R.length cl] 28 ∧ Sl w Y al R.reverse ∧ R.length ≤ 100000
theorem RoL.later {w w' : World} {Y : Nat → Prop} {B : Nat} {R : List Tm} (h : RoL w Y B R) (hb : Below w.heap.size w w') : RoL w' Y B R := by
  obtain ⟨al, cl, h1, h2, h3⟩ := h
  exact ⟨al, cl, h1.below hb h1.lt, h2.later hb, h3⟩
theorem RoL.small {w : World} {Y : Nat → Prop} {B : Nat} {R : List Tm} (h : RoL w Y B R) : RoL w (fun b => Y b ∧ b < w.heap.size) B R := by
  obtain ⟨al, cl, h1, h2, h3⟩ := h
  exact ⟨al, cl, h1, h2.mono fun b h1 h2 => ⟨h1, h2⟩, h3⟩
theorem RoL.len {w : World} {Y : Nat → Prop} {B : Nat} {R : List Tm} (h : RoL w Y B R) : R.length ≤ 100000 := by
  obtain ⟨_, _, _, _, h⟩ := h
  exact h
end Go.Proofs.YtfkjejpfhflanaaGreatDoor


/- Walks: what s makes of a row; the terms of rows; a row worked on. -/
namespace Go.Proofs.YtfkjejpfhflanaaGreatDoor
open Go.RowKit
set_option linter.unusedSimpArgs false
set_option linter.unusedVariables false
set_option maxRecDepth 8000

theorem cl_end3 {w w1 : World} {Y : Nat → Prop} {x : Tm} {a : Option Addr} {c : Nat} (hs : Sl w1 (fun b => (Y b ∧ b < w.heap.size) ∨ w.heap.size + 2 ≤ b) a x.args) (h0 : Below w.heap.size w w1) (u u' : Value) :
    TPost w Y x (.returned (.agg #[.string x.name, .slice a x.args.length c])) ((w1.setCell ⟨w.heap.size + 1, 0, none⟩ u).setCell ⟨w.heap.size + 1, 1, none⟩ u') := by
  refine ⟨_, rfl, ⟨a, c, rfl, ?_⟩, (h0.setCell (p := ⟨w.heap.size + 1, 0, none⟩) (by simp) _).setCell (p := ⟨w.heap.size + 1, 1, none⟩) (by simp) _⟩
  refine (hs.kept fun b hb => ?_).mono fun b hb _ => hb.imp And.left fun h => by omega
  have hne : b ≠ w.heap.size + 1 := by rcases hb with hb | hb <;> omega
  rw [Below.heap_setCell _ _ _ _ (by simpa using hne), Below.heap_setCell _ _ _ _ (by simpa using hne)]
end Go.Proofs.YtfkjejpfhflanaaGreatDoor

/- Walks: brackets, as the program makes them. -/
namespace Go.Proofs.YtfkjejpfhflanaaGreatDoor
open Go.RowKit
set_option linter.unusedSimpArgs false
set_option linter.unusedVariables false
set_option maxRecDepth 8000

/-- A bracket's outcome, in memory. -/
def BrPost (w : World) (X : Nat → Prop) (p : Tm × Bool) (e : Ending) (w' : World) : Prop :=
  ∃ v, e = .returned (.tuple #[v, .bool p.2]) ∧ TV w' (fun b => X b ∨ w.heap.size ≤ b) v p.1 ∧ Below w.heap.size w w'

theorem symbol_any (s : ByteArray) (w : World) :
    Calls Tryz.prog 31 #[.string s] w fun e w' => e = .returned (.agg #[.string s, .slice none 0 0]) ∧ Below w.heap.size w w' := by
  go_enter Tryz.func31, Tryz.ntmps31
  go_wp2_with fail
  have hb := Blk.new w #[.string s, .slice none 0 0] 30
  have c0 := hb.cell 0
  have c1 := hb.cell 1
  refine bodyPost_ret (v := .agg #[.string s, .slice none 0 0]) (by simp [results, Tryz.results31, go_sem, c0, c1]) rfl ⟨rfl, (Below.refl _ _).alloc (Nat.le_refl _) _⟩

theorem alw_yes (t : Tm) : alw (t, true) = t := by simp [alw]
theorem alw_no (t : Tm) : alw (t, false) = apT ⟨kB, []⟩ t := by simp [alw]

set_option maxHeartbeats 2000000 in
theorem always_any (t : Tm) (q : Bool) (v : Value) (w : World) (X : Nat → Prop) (hv : TV w X v t) :
    Calls Tryz.prog 57 #[v, .bool q] w fun e w' => TPost w X (alw (t, q)) e w' := by
  obtain ⟨a, c, rfl, hs⟩ := hv
  have HS : Hid (Sl w (fun b => X b ∧ b < w.heap.size) a t.args) := hs.mono fun b h1 h2 => ⟨h1, h2⟩
  have HK : Hid (Blk ((w.alloc (.cells #[.string t.name, .slice a t.args.length c] 30)).alloc (.cells #[.string ⟨#[]⟩, .slice none 0 0] 30)) (w.heap.size + 1) #[.string ⟨#[]⟩, .slice none 0 0] 30) := by
    have h := Blk.new (w.alloc (.cells #[.string t.name, .slice a t.args.length c] 30)) #[.string ⟨#[]⟩, .slice none 0 0] 30
    unfold Hid
    simpa using h
  have HQ : Hid (Blk ((w.alloc (.cells #[.string t.name, .slice a t.args.length c] 30)).alloc (.cells #[.string ⟨#[]⟩, .slice none 0 0] 30)) w.heap.size #[.string t.name, .slice a t.args.length c] 30) := (Blk.new w _ _).alloc _
  have HB0 : Hid (Below w.heap.size w ((w.alloc (.cells #[.string t.name, .slice a t.args.length c] 30)).alloc (.cells #[.string ⟨#[]⟩, .slice none 0 0] 30))) := below2 _ _
  have hz0 : ((w.alloc (.cells #[.string t.name, .slice a t.args.length c] 30)).alloc (.cells #[.string ⟨#[]⟩, .slice none 0 0] 30)).heap.size = w.heap.size + 2 := by simp
  clear hs
  cases q with
  | true =>
    rw [alw_yes]
    go_enter Tryz.func57, Tryz.ntmps57
    go_wp2_with fail
    refine bodyPost_ret (v := .agg #[.string t.name, .slice a t.args.length c]) (by simp [results, Tryz.results57, go_sem]) rfl ?_
    refine ⟨_, rfl, ⟨a, c, rfl, (HS.out.later ?_).mono fun b h _ => Or.inl h.1⟩, ?_⟩
    · exact below2 _ _
    · exact below2 _ _
  | false =>
    rw [alw_no]
    go_enter Tryz.func57, Tryz.ntmps57
    go_wp2_with fail
    generalize ((w.alloc (.cells #[.string t.name, .slice a t.args.length c] 30)).alloc (.cells #[.string ⟨#[]⟩, .slice none 0 0] 30)) = w0 at *
    have HSC : Hid (∀ w', Below w0.heap.size w0 w' → w'.cell? ⟨w.heap.size, 0, none⟩ = some (.string t.name) ∧ w'.cell? ⟨w.heap.size, 1, none⟩ = some (.slice a t.args.length c)) := fun w' hb => ⟨(HQ.out.below hb (by omega)).cell 0, (HQ.out.below hb (by omega)).cell 1⟩
    have HSX : Hid (∀ w' u u', Below w0.heap.size w0 w' → ((w'.setCell ⟨w.heap.size + 1, 0, none⟩ u).setCell ⟨w.heap.size + 1, 1, none⟩ u').cell? ⟨w.heap.size, 0, none⟩ = some (.string t.name) ∧ ((w'.setCell ⟨w.heap.size + 1, 0, none⟩ u).setCell ⟨w.heap.size + 1, 1, none⟩ u').cell? ⟨w.heap.size, 1, none⟩ = some (.slice a t.args.length c)) := fun w' u u' hb => ⟨(((HQ.out.below hb (by omega)).setOther _ _ (by omega)).setOther _ _ (by omega)).cell 0, (((HQ.out.below hb (by omega)).setOther _ _ (by omega)).setOther _ _ (by omega)).cell 1⟩
    have HSS := hide (HSC.out _ (Below.refl _ _))
    go_region_held3 (fun w' => w'.cell? ⟨w.heap.size, 0, none⟩ = some (.string t.name) ∧ w'.cell? ⟨w.heap.size, 1, none⟩ = some (.slice a t.args.length c)) (first | exact HSS.out | exact HSX.out _ _ _ k4 | exact z4 | exact z2 | go_keep)
      (first
        | (go_at_call 31; refine (symbol_any _ _).mono ?_; rintro e w2 ⟨rfl, hb2⟩; have k2 := drew_below (w := w0) hb2; have hz2 := k2.size; have z2 := HSC.out _ k2; have HT2 := hide (HS.out.later (HB0.out.trans (k2.mono (by omega)))); clear hb2)
        | (go_at_call 36; refine (ap_any ⟨kB, []⟩ t _ _ _ (fun b => (X b ∧ b < w.heap.size) ∨ w.heap.size + 2 ≤ b) (by exact ⟨none, 0, rfl, ⟨by simp, Or.inl rfl⟩⟩) (by exact ⟨a, c, rfl, HT2.out.mono fun b h _ => Or.inl h⟩)).mono ?_; rintro e w4 ⟨v4, rfl, ⟨a4, c4, rfl, hs4⟩, hb4⟩; have k4 := k2.trans (hb4.mono (by omega)); have z4 := HSC.out _ k4; have HS4 : Hid (Sl w4 (fun b => (X b ∧ b < w.heap.size) ∨ w.heap.size + 2 ≤ b) a4 (apT ⟨kB, []⟩ t).args) := (hs4.mono fun b h _ => h.elim id fun h => Or.inr (by omega)); have HK4 := hide (HK.out.below k4 (by omega)); have r0 : w4.cell? ⟨w.heap.size + 1, 0, none⟩ = some (.string ⟨#[]⟩) := HK4.out.cell 0; have r1 : w4.cell? ⟨w.heap.size + 1, 1, none⟩ = some (.slice none 0 0) := HK4.out.cell 1; have rf : ∀ i, w4.frozen? ⟨w.heap.size + 1, i, none⟩ = false := HK4.out.frozen; clear hb4 hs4))
    have HB4 := hide (HB0.out.trans (k4.mono (by omega)))
    go_wp2_with fail
    refine bodyPost_ret (v := .agg #[.string (apT ⟨kB, []⟩ t).name, .slice a4 (apT ⟨kB, []⟩ t).args.length c4]) (by simp [results, Tryz.results57, go_sem, World.cell?_setCell_same, World.cell?_setCell_other, r0, r1]) rfl ?_
    exact cl_end3 HS4.out HB4.out _ _
end Go.Proofs.YtfkjejpfhflanaaGreatDoor

/- Walks: a bracket, as the program makes it. -/
namespace Go.Proofs.YtfkjejpfhflanaaGreatDoor
open Go.RowKit
set_option linter.unusedSimpArgs false
set_option linter.unusedVariables false
set_option maxRecDepth 8000

theorem br_end {w w1 : World} {X : Nat → Prop} {x : Tm} {q : Bool} {a : Option Addr} {c : Nat} (hs : Sl w1 (fun b => (X b ∧ b < w.heap.size) ∨ w.heap.size + 2 ≤ b) a x.args) (h0 : Below w.heap.size w w1) (u u' : Value) :
    BrPost w X (x, q) (.returned (.tuple #[.agg #[.string x.name, .slice a x.args.length c], .bool q])) ((w1.setCell ⟨w.heap.size + 1, 0, none⟩ u).setCell ⟨w.heap.size + 1, 1, none⟩ u') := by
  obtain ⟨v, hv, ht, hb⟩ := cl_end3 (c := c) hs h0 u u'
  cases hv
  exact ⟨_, rfl, ht, hb⟩
theorem br_end2 {w w1 : World} {X : Nat → Prop} {x : Tm} {q : Bool} {a : Option Addr} {c : Nat} {ob : Obj} (hs : Sl w1 (fun b => (X b ∧ b < w.heap.size) ∨ w.heap.size + 2 ≤ b) a x.args) (h0 : Below w.heap.size w w1) (u u' : Value) :
    BrPost w X (x, q) (.returned (.tuple #[.agg #[.string x.name, .slice a x.args.length c], .bool q])) (((w1.setCell ⟨w.heap.size + 1, 0, none⟩ u).setCell ⟨w.heap.size + 1, 1, none⟩ u').alloc ob) := by
  obtain ⟨v, hv, ht, hb⟩ := br_end (c := c) (q := q) hs h0 u u'
  exact ⟨v, hv, ht.later ((Below.refl _ _).alloc (Nat.le_refl _) ob), hb.alloc hb.size _⟩
theorem br_leaf_yes (v : ByteArray) (n : Nat) (s : ByteArray) (h : s = v) : brR v (n + 1) ⟨s, []⟩ = (⟨iB, []⟩, true) := by simp [brR, h]
theorem br_leaf_no (v : ByteArray) (n : Nat) (s : ByteArray) (h : s ≠ v) : brR v (n + 1) ⟨s, []⟩ = (⟨s, []⟩, false) := by simp [brR, h]
theorem br_ap {v : ByteArray} (hv : v ≠ apB) (n : Nat) (f y : Tm) : brR v (n + 1) (apT f y) = if (brR v n f).2 = false ∧ (brR v n y).2 = false then (apT f y, false) else
        if (brR v n f).2 = false ∧ y.name = v then ((brR v n f).1, true) else
        (apT (apT ⟨sB, []⟩ (alw (brR v n f))) (alw (brR v n y)), true) := by
  have hna : ¬ apB = v := fun h => hv h.symm
  unfold apT
  rw [brR, if_neg hna]
  rfl

set_option maxHeartbeats 4000000 in
theorem bracket_any (nm : ByteArray) (hv : nm ≠ apB) (n : Nat) : ∀ (t : Tm) (v : Value) (w : World) (X : Nat → Prop), sizeL [t] ≤ n → isC t = true → TV w X v t →
    Calls Tryz.prog 58 #[.string nm, v] w fun e w' => BrPost w X (brR nm n t) e w' := by
  induction n with
  | zero => intro t v w X h; have := size_posC t; omega
  | succ n ih =>
    intro t v w X hz hC htv
    have IH := hide ih
    clear ih
    obtain ⟨a, c, rfl, hs⟩ := htv
    rcases isC_cases hC with ⟨s, rfl⟩ | ⟨f, x, rfl, hcf, hcx⟩
    · have HSL : Hid (Sl w (fun b => X b) a (⟨s, []⟩ : Tm).args) := hs
      clear hs hC hz
      dsimp only [List.length_nil]
      by_cases he : s = nm
      · rw [br_leaf_yes nm n s he]
        have e1 : (s.toList == nm.toList) = true := bytes_yes he
        clear he
        go_enter Tryz.func58, Tryz.ntmps58
        go_wp2_with fail
        refine (symbol_any _ _).mono ?_
        rintro e w1 ⟨rfl, hb1⟩
        have HB1 : Hid (Below w.heap.size w w1) := (below2 _ _).trans (hb1.mono (by simp; omega))
        have HK0 : Hid (Blk ((w.alloc (.cells #[.string s, .slice a 0 c] 30)).alloc (.cells #[.string ⟨#[]⟩, .slice none 0 0] 30)) (w.heap.size + 1) #[.string ⟨#[]⟩, .slice none 0 0] 30) := by
          have h := Blk.new (w.alloc (.cells #[.string s, .slice a 0 c] 30)) #[.string ⟨#[]⟩, .slice none 0 0] 30
          unfold Hid
          simpa using h
        have HK := hide (HK0.out.below hb1 HK0.out.lt)
        have r0 : w1.cell? ⟨w.heap.size + 1, 0, none⟩ = some (.string ⟨#[]⟩) := HK.out.cell 0
        have r1 : w1.cell? ⟨w.heap.size + 1, 1, none⟩ = some (.slice none 0 0) := HK.out.cell 1
        have rf : ∀ i, w1.frozen? ⟨w.heap.size + 1, i, none⟩ = false := HK.out.frozen
        clear hb1 HK0
        go_wp2_with fail
        refine bodyPost_ret (v := .tuple #[.agg #[.string iB, .slice none 0 0], .bool true]) (by simp [results, Tryz.results58, go_sem, World.cell?_setCell_same, World.cell?_setCell_other, r0, r1, iB]) rfl ?_
        exact br_end (x := ⟨iB, []⟩) ⟨by simp, Or.inl rfl⟩ HB1.out _ _
      · rw [br_leaf_no nm n s he]
        have e1 : (s.toList == nm.toList) = false := bytes_no he
        clear he
        go_enter Tryz.func58, Tryz.ntmps58
        go_wp2_with fail
        refine bodyPost_ret (v := .tuple #[.agg #[.string s, .slice a 0 c], .bool false]) (by simp [results, Tryz.results58, go_sem]) rfl ?_
        refine ⟨_, rfl, ⟨a, c, rfl, (HSL.out.later ?_).mono fun b h _ => Or.inl h⟩, ?_⟩
        · exact below2 _ _
        · exact below2 _ _
    · have hsz := size_ap f x
      have p1 := size_posC f
      have p2 := size_posC x
      have hzf : sizeL [f] ≤ n := by omega
      have hzx : sizeL [x] ≤ n := by omega
      have HCF := hide hcf
      have HCX := hide hcx
      have e1 : (apB.toList == nm.toList) = false := bytes_no fun h => hv h.symm
      have HBR := hide (br_ap hv n f x)
      have HS : Hid (Sl w (fun b => X b ∧ b < w.heap.size) a (apT f x).args) := hs.mono fun b h1 h2 => ⟨h1, h2⟩
      obtain ⟨b, o, a1, c1, a2, c2, rfl, hb, d0, d1, d2, d3, hs1, hs2⟩ := sl_twoC (HS.out)
      have D0 := hide d0
      have D1 := hide d1
      have D2 := hide d2
      have D3 := hide d3
      have HS1 : Hid (TV w (fun b => X b ∧ b < w.heap.size) (.agg #[.string f.name, .slice a1 f.args.length c1]) f) := ⟨a1, c1, rfl, hs1⟩
      have HS2 : Hid (TV w (fun b => X b ∧ b < w.heap.size) (.agg #[.string x.name, .slice a2 x.args.length c2]) x) := ⟨a2, c2, rfl, hs2⟩
      have hll : (apT f x).args.length = 2 := rfl
      have hnn : (apT f x).name = apB := rfl
      rw [hll, hnn]
      have B0 : Hid (Below w.heap.size w ((w.alloc (.cells #[.string apB, .slice (some ⟨b, o, none⟩) 2 c] 30)).alloc (.cells #[.string ⟨#[]⟩, .slice none 0 0] 30))) := below2 _ _
      have KR0 : Hid (Blk ((w.alloc (.cells #[.string apB, .slice (some ⟨b, o, none⟩) 2 c] 30)).alloc (.cells #[.string ⟨#[]⟩, .slice none 0 0] 30)) (w.heap.size + 1) #[.string ⟨#[]⟩, .slice none 0 0] 30) := by
        have h := Blk.new (w.alloc (.cells #[.string apB, .slice (some ⟨b, o, none⟩) 2 c] 30)) #[.string ⟨#[]⟩, .slice none 0 0] 30
        unfold Hid
        simpa using h
      have KT0 : Hid (Blk ((w.alloc (.cells #[.string apB, .slice (some ⟨b, o, none⟩) 2 c] 30)).alloc (.cells #[.string ⟨#[]⟩, .slice none 0 0] 30)) w.heap.size #[.string apB, .slice (some ⟨b, o, none⟩) 2 c] 30) := (Blk.new w _ _).alloc _
      have hz0 : (((w.alloc (.cells #[.string apB, .slice (some ⟨b, o, none⟩) 2 c] 30)).alloc (.cells #[.string ⟨#[]⟩, .slice none 0 0] 30))).heap.size = w.heap.size + 2 := by simp
      have CB : Hid (∀ w', Below w.heap.size w w' → w'.cell? ⟨b, o, none⟩ = some (.string f.name) ∧ w'.cell? ⟨b, o + 1, none⟩ = some (.slice a1 f.args.length c1) ∧ w'.cell? ⟨b, o + 2, none⟩ = some (.string x.name) ∧ w'.cell? ⟨b, o + 3, none⟩ = some (.slice a2 x.args.length c2)) := fun w' h => ⟨(h.cell (p := ⟨b, o, none⟩) hb).trans D0.out, (h.cell (p := ⟨b, o + 1, none⟩) hb).trans D1.out, (h.cell (p := ⟨b, o + 2, none⟩) hb).trans D2.out, (h.cell (p := ⟨b, o + 3, none⟩) hb).trans D3.out⟩
      clear hs hs1 hs2 hC hz hsz p1 p2 hcf hcx hll hnn D0 D1 D2 D3
      go_enter Tryz.func58, Tryz.ntmps58
      go_wp2_with fail
      refine (IH.out f _ _ _ hzf HCF.out (HS1.out.later B0.out)).mono ?_
      rintro e w1 ⟨v1, rfl, ⟨af1, cf1, rfl, hsf⟩, hb1⟩
      have B1 := hide (B0.out.trans (hb1.mono (by omega)))
      have KR1 := hide (KR0.out.below hb1 KR0.out.lt)
      have KT1 := hide (KT0.out.below hb1 KT0.out.lt)
      have hsz1 := hb1.size
      have hw1 : w.heap.size + 2 ≤ w1.heap.size := by omega
      have SF1 : Hid (Sl w1 (fun b => (X b ∧ b < w.heap.size) ∨ w.heap.size + 2 ≤ b) af1 (brR nm n f).1.args) := hsf.mono fun b h _ => h.imp id fun h => by omega
      obtain ⟨g0, g1', g2', g3⟩ := CB.out w1 B1.out
      have t0 : w1.cell? ⟨w.heap.size, 0, none⟩ = some (.string apB) := KT1.out.cell 0
      have t1 : w1.cell? ⟨w.heap.size, 1, none⟩ = some (.slice (some ⟨b, o, none⟩) 2 c) := KT1.out.cell 1
      have t0A : ∀ o', (w1.alloc o').cell? ⟨w.heap.size, 0, none⟩ = some (.string apB) := fun o' => (KT1.out.alloc o').cell 0
      have t1A : ∀ o', (w1.alloc o').cell? ⟨w.heap.size, 1, none⟩ = some (.slice (some ⟨b, o, none⟩) 2 c) := fun o' => (KT1.out.alloc o').cell 1
      have cA : ∀ o', (w1.alloc o').cell? ⟨b, o + 2, none⟩ = some (.string x.name) ∧ (w1.alloc o').cell? ⟨b, o + 3, none⟩ = some (.slice a2 x.args.length c2) := fun o' => (CB.out _ (B1.out.alloc B1.out.size o')).2.2
      have c2A := fun o' => (cA o').1
      have c3A := fun o' => (cA o').2
      clear hb1 hsf d0 d1 d2 d3 hsz1 hz0 cA
      have hbw : b < w1.heap.size := by have := B1.out.size; omega
      have hb1' : Below w1.heap.size w1 (w1.alloc (.cells #[.string (brR nm n f).1.name, .slice af1 (brR nm n f).1.args.length cf1] 30)) := (Below.refl _ _).alloc (Nat.le_refl _) _
      have B1A := hide (B1.out.trans (hb1'.mono B1.out.size))
      have KR1A := hide (KR1.out.below hb1' KR1.out.lt)
      have KT1A := hide (KT1.out.below hb1' KT1.out.lt)
      have SF1A := hide (SF1.out.later hb1')
      have KF1A := hide (Blk.new w1 #[.string (brR nm n f).1.name, .slice af1 (brR nm n f).1.args.length cf1] 30)
      clear hb1'
      obtain ⟨f1, hf1⟩ : ∃ f1, (brR nm n f).1 = f1 := ⟨_, rfl⟩
      obtain ⟨q1, hq1⟩ : ∃ q1, (brR nm n f).2 = q1 := ⟨_, rfl⟩
      have HF1 := hide hf1
      have HQ1 := hide hq1
      rw [hf1] at B1A KR1A KT1A SF1A KF1A SF1 ⊢
      rw [hq1]
      clear hf1 hq1
      go_wp2_with fail
      refine (IH.out x _ _ _ hzx HCX.out (HS2.out.later B1A.out)).mono ?_
      rintro e w2 ⟨v2, rfl, ⟨ax2, cx2, rfl, hsx⟩, hb2⟩
      have B2 := hide (B1A.out.trans (hb2.mono B1A.out.size))
      have KR2 := hide (KR1A.out.below hb2 KR1A.out.lt)
      have KT2 := hide (KT1A.out.below hb2 KT1A.out.lt)
      have KF2 := hide (KF1A.out.below hb2 KF1A.out.lt)
      have SF2 := hide (SF1A.out.later hb2)
      have hw2 : w1.heap.size < w2.heap.size := KF2.out.lt
      have SX2 : Hid (Sl w2 (fun b => (X b ∧ b < w.heap.size) ∨ w.heap.size + 2 ≤ b) ax2 (brR nm n x).1.args) := hsx.mono fun b h _ => h.imp id fun h => by simp at h; omega
      have ST2 : Hid (Sl w2 (fun b => (X b ∧ b < w.heap.size) ∨ w.heap.size + 2 ≤ b) (some ⟨b, o, none⟩) (apT f x).args) := (HS.out.later B2.out).mono fun b h _ => Or.inl h
      obtain ⟨x1, hx1⟩ : ∃ x1, (brR nm n x).1 = x1 := ⟨_, rfl⟩
      obtain ⟨q2, hq2⟩ : ∃ q2, (brR nm n x).2 = q2 := ⟨_, rfl⟩
      have HP1 : Hid (brR nm n f = (f1, q1)) := by unfold Hid; rw [← HF1.out, ← HQ1.out]
      have HP2 : Hid (brR nm n x = (x1, q2)) := by unfold Hid; rw [← hx1, ← hq2]
      rw [hx1] at SX2 ⊢
      rw [hq2]
      clear hsx hb2 hx1 hq2 HF1 HQ1 g0 g1' g2' g3 t0 t1 t0A t1A c2A c3A
      have hwAs : Hid (Below w2.heap.size w2 (w2.alloc (.cells #[.string x1.name, .slice ax2 x1.args.length cx2] 30))) := (Below.refl _ _).alloc (Nat.le_refl _) _
      have KX := hide (Blk.new w2 #[.string x1.name, .slice ax2 x1.args.length cx2] 30)
      have KF := hide (KF2.out.below hwAs.out KF2.out.lt)
      have KR := hide (KR2.out.below hwAs.out KR2.out.lt)
      have KT := hide (KT2.out.below hwAs.out KT2.out.lt)
      have SF := hide (SF2.out.later hwAs.out)
      have SX := hide (SX2.out.later hwAs.out)
      have ST := hide (ST2.out.later hwAs.out)
      have BA := hide (B2.out.trans (hwAs.out.mono B2.out.size))
      have tA0 : ∀ o', (w2.alloc o').cell? ⟨w.heap.size, 0, none⟩ = some (.string apB) := fun o' => (KT2.out.alloc o').cell 0
      have tA1 : ∀ o', (w2.alloc o').cell? ⟨w.heap.size, 1, none⟩ = some (.slice (some ⟨b, o, none⟩) 2 c) := fun o' => (KT2.out.alloc o').cell 1
      have cA : ∀ o', (w2.alloc o').cell? ⟨b, o + 2, none⟩ = some (.string x.name) ∧ (w2.alloc o').cell? ⟨b, o + 3, none⟩ = some (.slice a2 x.args.length c2) := fun o' => (CB.out _ (B2.out.alloc B2.out.size o')).2.2
      have cA2 := fun o' => (cA o').1
      have cA3 := fun o' => (cA o').2
      have fA0 : ∀ o', (w2.alloc o').cell? ⟨w1.heap.size, 0, none⟩ = some (.string f1.name) := fun o' => (KF2.out.alloc o').cell 0
      have fA1 : ∀ o', (w2.alloc o').cell? ⟨w1.heap.size, 1, none⟩ = some (.slice af1 f1.args.length cf1) := fun o' => (KF2.out.alloc o').cell 1
      have rA0 : ∀ o', (w2.alloc o').cell? ⟨w.heap.size + 1, 0, none⟩ = some (.string ⟨#[]⟩) := fun o' => (KR2.out.alloc o').cell 0
      have rA1 : ∀ o', (w2.alloc o').cell? ⟨w.heap.size + 1, 1, none⟩ = some (.slice none 0 0) := fun o' => (KR2.out.alloc o').cell 1
      have rAf : ∀ o' i, (w2.alloc o').frozen? ⟨w.heap.size + 1, i, none⟩ = false := fun o' => (KR2.out.alloc o').frozen
      clear cA
      cases q1 with
      | false =>
        cases q2 with
        | false =>
          have HPA : Hid (brR nm (n + 1) (apT f x) = (apT f x, false)) := by unfold Hid; rw [HBR.out, HP1.out, HP2.out]; simp
          have t0 : w2.cell? ⟨w.heap.size, 0, none⟩ = some (.string apB) := KT2.out.cell 0
          have t1 : w2.cell? ⟨w.heap.size, 1, none⟩ = some (.slice (some ⟨b, o, none⟩) 2 c) := KT2.out.cell 1
          have u0 : (w2.alloc (.cells #[.string x1.name, .slice ax2 x1.args.length cx2] 30)).cell? ⟨w.heap.size, 0, none⟩ = some (.string apB) := KT.out.cell 0
          have u1 : (w2.alloc (.cells #[.string x1.name, .slice ax2 x1.args.length cx2] 30)).cell? ⟨w.heap.size, 1, none⟩ = some (.slice (some ⟨b, o, none⟩) 2 c) := KT.out.cell 1
          have r0 : w2.cell? ⟨w.heap.size + 1, 0, none⟩ = some (.string ⟨#[]⟩) := KR2.out.cell 0
          have r1 : w2.cell? ⟨w.heap.size + 1, 1, none⟩ = some (.slice none 0 0) := KR2.out.cell 1
          have rf : ∀ i, w2.frozen? ⟨w.heap.size + 1, i, none⟩ = false := KR2.out.frozen
          have hl2 : w.heap.size < w2.heap.size := by omega
          have hl3 : w.heap.size + 1 < w2.heap.size := by omega
          go_wp2_with fail
          refine bodyPost_ret (v := .tuple #[.agg #[.string apB, .slice (some ⟨b, o, none⟩) 2 c], .bool false]) (by simp [results, Tryz.results58, go_sem, World.cell?_setCell_same, World.cell?_setCell_other, r0, r1, hl3, World.cell?_alloc_old]) rfl ?_
          rw [HPA.out]
          exact br_end2 (x := apT f x) ST2.out B2.out _ _
        | true =>
          by_cases hxn : x.name = nm
          · have HPA : Hid (brR nm (n + 1) (apT f x) = (f1, true)) := by unfold Hid; rw [HBR.out, HP1.out, HP2.out]; simp [hxn]
            have e2 : (x.name.toList == nm.toList) = true := bytes_yes hxn
            clear hxn
            obtain ⟨_, _, g2', g3⟩ := CB.out _ BA.out
            obtain ⟨_, _, h2', h3⟩ := CB.out _ B2.out
            have t1 : w2.cell? ⟨w.heap.size, 1, none⟩ = some (.slice (some ⟨b, o, none⟩) 2 c) := KT2.out.cell 1
            have f0 : w2.cell? ⟨w1.heap.size, 0, none⟩ = some (.string f1.name) := KF2.out.cell 0
            have f1' : w2.cell? ⟨w1.heap.size, 1, none⟩ = some (.slice af1 f1.args.length cf1) := KF2.out.cell 1
            have r0 : w2.cell? ⟨w.heap.size + 1, 0, none⟩ = some (.string ⟨#[]⟩) := KR2.out.cell 0
            have r1 : w2.cell? ⟨w.heap.size + 1, 1, none⟩ = some (.slice none 0 0) := KR2.out.cell 1
            have rf : ∀ i, w2.frozen? ⟨w.heap.size + 1, i, none⟩ = false := KR2.out.frozen
            have hl2 : w.heap.size < w2.heap.size := by omega
            have hl3 : w.heap.size + 1 < w2.heap.size := by omega
            have hl4 : b < w2.heap.size := by omega
            go_wp2_with fail
            refine bodyPost_ret (v := .tuple #[.agg #[.string f1.name, .slice af1 f1.args.length cf1], .bool true]) (by simp [results, Tryz.results58, go_sem, World.cell?_setCell_same, World.cell?_setCell_other, r0, r1, hl3, World.cell?_alloc_old]) rfl ?_
            rw [HPA.out]
            exact br_end2 SF2.out B2.out _ _
          · obtain ⟨g1, hg1⟩ : ∃ g1, alw (f1, false) = g1 := ⟨_, rfl⟩
            obtain ⟨g2, hg2⟩ : ∃ g2, alw (x1, true) = g2 := ⟨_, rfl⟩
            have HPA : Hid (brR nm (n + 1) (apT f x) = (apT (apT ⟨sB, []⟩ g1) g2, true)) := by unfold Hid; rw [HBR.out, HP1.out, HP2.out, hg1, hg2]; simp [hxn]
            have HG1 := hide hg1
            have HG2 := hide hg2
            have e2 : (x.name.toList == nm.toList) = false := bytes_no hxn
            clear hxn hg1 hg2
            obtain ⟨_, _, h2', h3⟩ := CB.out _ B2.out
            have t1 : w2.cell? ⟨w.heap.size, 1, none⟩ = some (.slice (some ⟨b, o, none⟩) 2 c) := KT2.out.cell 1
            have hl2 : w.heap.size < w2.heap.size := by omega
            have hl4 : b < w2.heap.size := by omega
            go_wp2_with fail
            clear t1 h2' h3 hl2 hl4 e2
            have hzA : (w2.alloc (.cells #[.string x1.name, .slice ax2 x1.args.length cx2] 30)).heap.size = w2.heap.size + 1 := by simp
            clear tA0 tA1 cA2 cA3 fA0 fA1 rA0 rA1 rAf
            generalize hwA : w2.alloc (.cells #[.string x1.name, .slice ax2 x1.args.length cx2] 30) = wA at *
            have HSC : Hid (∀ w', Below wA.heap.size wA w' → w'.cell? ⟨w1.heap.size, 0, none⟩ = some (.string f1.name) ∧ w'.cell? ⟨w1.heap.size, 1, none⟩ = some (.slice af1 f1.args.length cf1) ∧ w'.cell? ⟨w2.heap.size, 0, none⟩ = some (.string x1.name) ∧ w'.cell? ⟨w2.heap.size, 1, none⟩ = some (.slice ax2 x1.args.length cx2)) := fun w' hb => ⟨(KF.out.below hb KF.out.lt).cell 0, (KF.out.below hb KF.out.lt).cell 1, (KX.out.below hb KX.out.lt).cell 0, (KX.out.below hb KX.out.lt).cell 1⟩
            have HSX : Hid (∀ w' u u', Below wA.heap.size wA w' → ((w'.setCell ⟨w.heap.size + 1, 0, none⟩ u).setCell ⟨w.heap.size + 1, 1, none⟩ u').cell? ⟨w1.heap.size, 0, none⟩ = some (.string f1.name) ∧ ((w'.setCell ⟨w.heap.size + 1, 0, none⟩ u).setCell ⟨w.heap.size + 1, 1, none⟩ u').cell? ⟨w1.heap.size, 1, none⟩ = some (.slice af1 f1.args.length cf1) ∧ ((w'.setCell ⟨w.heap.size + 1, 0, none⟩ u).setCell ⟨w.heap.size + 1, 1, none⟩ u').cell? ⟨w2.heap.size, 0, none⟩ = some (.string x1.name) ∧ ((w'.setCell ⟨w.heap.size + 1, 0, none⟩ u).setCell ⟨w.heap.size + 1, 1, none⟩ u').cell? ⟨w2.heap.size, 1, none⟩ = some (.slice ax2 x1.args.length cx2)) := fun w' u u' hb => by
              have k1 : Blk ((w'.setCell ⟨w.heap.size + 1, 0, none⟩ u).setCell ⟨w.heap.size + 1, 1, none⟩ u') w1.heap.size #[.string f1.name, .slice af1 f1.args.length cf1] 30 := ((KF.out.below hb KF.out.lt).setOther _ _ (by omega)).setOther _ _ (by omega)
              have k2 : Blk ((w'.setCell ⟨w.heap.size + 1, 0, none⟩ u).setCell ⟨w.heap.size + 1, 1, none⟩ u') w2.heap.size #[.string x1.name, .slice ax2 x1.args.length cx2] 30 := ((KX.out.below hb KX.out.lt).setOther _ _ (by omega)).setOther _ _ (by omega)
              exact ⟨k1.cell 0, k1.cell 1, k2.cell 0, k2.cell 1⟩
            have HSS := hide (HSC.out _ (Below.refl _ _))
            have AF : Hid (∀ w', Below wA.heap.size wA w' → Calls Tryz.prog 57 #[.agg #[.string f1.name, .slice af1 f1.args.length cf1], .bool false] w' fun e w'' => ∃ a' c', e = .returned (.agg #[.string g1.name, .slice a' g1.args.length c']) ∧ Sl w'' (fun b => (X b ∧ b < w.heap.size) ∨ w.heap.size + 2 ≤ b) a' g1.args ∧ Below w'.heap.size w' w'') := fun w' hb => by
              refine (always_any f1 false _ w' _ ⟨_, _, rfl, SF.out.later hb⟩).mono ?_
              rintro e w'' ⟨v'', rfl, ⟨a', c', rfl, hs''⟩, hb''⟩
              have hb3 := hb.size
              have hs4 : Sl w'' (fun b => (X b ∧ b < w.heap.size) ∨ w.heap.size + 2 ≤ b) a' (alw (f1, false)).args := hs''.mono fun b h _ => h.elim id fun h => Or.inr (by omega)
              rw [HG1.out] at hs4 ⊢
              exact ⟨a', c', rfl, hs4, hb''⟩
            have AX : Hid (∀ w', Below wA.heap.size wA w' → Calls Tryz.prog 57 #[.agg #[.string x1.name, .slice ax2 x1.args.length cx2], .bool true] w' fun e w'' => ∃ a' c', e = .returned (.agg #[.string g2.name, .slice a' g2.args.length c']) ∧ Sl w'' (fun b => (X b ∧ b < w.heap.size) ∨ w.heap.size + 2 ≤ b) a' g2.args ∧ Below w'.heap.size w' w'') := fun w' hb => by
              refine (always_any x1 true _ w' _ ⟨_, _, rfl, SX.out.later hb⟩).mono ?_
              rintro e w'' ⟨v'', rfl, ⟨a', c', rfl, hs''⟩, hb''⟩
              have hb3 := hb.size
              have hs4 : Sl w'' (fun b => (X b ∧ b < w.heap.size) ∨ w.heap.size + 2 ≤ b) a' (alw (x1, true)).args := hs''.mono fun b h _ => h.elim id fun h => Or.inr (by omega)
              rw [HG2.out] at hs4 ⊢
              exact ⟨a', c', rfl, hs4, hb''⟩
            clear SF SX HG1 HG2 hwA
            go_region_held3 (fun w' => w'.cell? ⟨w1.heap.size, 0, none⟩ = some (.string f1.name) ∧ w'.cell? ⟨w1.heap.size, 1, none⟩ = some (.slice af1 f1.args.length cf1) ∧ w'.cell? ⟨w2.heap.size, 0, none⟩ = some (.string x1.name) ∧ w'.cell? ⟨w2.heap.size, 1, none⟩ = some (.slice ax2 x1.args.length cx2)) (first | exact HSS.out | exact HSX.out _ _ _ k7 | exact z7 | exact z6 | exact z5 | exact z4 | exact z3 | go_keep)
              (first
                | (go_at_call 31; refine (symbol_any _ _).mono ?_; rintro e w3 ⟨rfl, hb3⟩; have k3 := drew_below (w := wA) hb3; have hz3 := k3.size; have z3 := HSC.out _ k3; clear hb3)
                | (go_at_call 57; refine (AF.out _ (by exact k3)).mono ?_; rintro e w4 ⟨a4, c4, rfl, hs4, hb4⟩; have k4 := k3.trans (hb4.mono hz3); have hz4 := k4.size; have z4 := HSC.out _ k4; have HS4 := hide hs4; clear hb4 hs4)
                | (go_at_call 36; refine (ap_any ⟨sB, []⟩ g1 _ _ _ (fun b => (X b ∧ b < w.heap.size) ∨ w.heap.size + 2 ≤ b) (by exact ⟨none, 0, rfl, ⟨by simp, Or.inl rfl⟩⟩) (by exact ⟨a4, c4, rfl, HS4.out⟩)).mono ?_; rintro e w5 ⟨v5, rfl, ⟨a5, c5, rfl, hs5⟩, hb5⟩; have k5 := k4.trans (hb5.mono hz4); have hz5 := k5.size; have z5 := HSC.out _ k5; have HS5 : Hid (Sl w5 (fun b => (X b ∧ b < w.heap.size) ∨ w.heap.size + 2 ≤ b) a5 (apT ⟨sB, []⟩ g1).args) := (hs5.mono fun b h _ => h.elim id fun h => Or.inr (by omega)); clear hb5 hs5)
                | (go_at_call 57; refine (AX.out _ (by exact k5)).mono ?_; rintro e w6 ⟨a6, c6, rfl, hs6, hb6⟩; have k6 := k5.trans (hb6.mono hz5); have hz6 := k6.size; have z6 := HSC.out _ k6; have HS6 := hide hs6; have HS56 := hide (HS5.out.later hb6); clear hb6 hs6)
                | (go_at_call 36; refine (ap_any (apT ⟨sB, []⟩ g1) g2 _ _ _ (fun b => (X b ∧ b < w.heap.size) ∨ w.heap.size + 2 ≤ b) (by exact ⟨a5, c5, rfl, HS56.out⟩) (by exact ⟨a6, c6, rfl, HS6.out⟩)).mono ?_; rintro e w7 ⟨v7, rfl, ⟨a7, c7, rfl, hs7⟩, hb7⟩; have k7 := k6.trans (hb7.mono hz6); have hz7 := k7.size; have z7 := HSC.out _ k7; have HS7 : Hid (Sl w7 (fun b => (X b ∧ b < w.heap.size) ∨ w.heap.size + 2 ≤ b) a7 (apT (apT ⟨sB, []⟩ g1) g2).args) := (hs7.mono fun b h _ => h.elim id fun h => Or.inr (by omega)); have HK7 := hide (KR.out.below k7 KR.out.lt); have r0 : w7.cell? ⟨w.heap.size + 1, 0, none⟩ = some (.string ⟨#[]⟩) := HK7.out.cell 0; have r1 : w7.cell? ⟨w.heap.size + 1, 1, none⟩ = some (.slice none 0 0) := HK7.out.cell 1; have rf : ∀ i, w7.frozen? ⟨w.heap.size + 1, i, none⟩ = false := HK7.out.frozen; clear hb7 hs7))
            have HB7 := hide (BA.out.trans (k7.mono BA.out.size))
            go_wp2_with fail
            refine bodyPost_ret (v := .tuple #[.agg #[.string (apT (apT ⟨sB, []⟩ g1) g2).name, .slice a7 (apT (apT ⟨sB, []⟩ g1) g2).args.length c7], .bool true]) (by simp [results, Tryz.results58, go_sem, World.cell?_setCell_same, World.cell?_setCell_other, r0, r1]) rfl ?_
            rw [HPA.out]
            exact br_end HS7.out HB7.out _ _
      | true =>
        obtain ⟨g1, hg1⟩ : ∃ g1, alw (f1, true) = g1 := ⟨_, rfl⟩
        obtain ⟨g2, hg2⟩ : ∃ g2, alw (x1, q2) = g2 := ⟨_, rfl⟩
        have HPA : Hid (brR nm (n + 1) (apT f x) = (apT (apT ⟨sB, []⟩ g1) g2, true)) := by unfold Hid; rw [HBR.out, HP1.out, HP2.out, hg1, hg2]; simp
        have HG1 := hide hg1
        have HG2 := hide hg2
        clear hg1 hg2
        go_wp2_with fail
        have hzA : (w2.alloc (.cells #[.string x1.name, .slice ax2 x1.args.length cx2] 30)).heap.size = w2.heap.size + 1 := by simp
        clear tA0 tA1 cA2 cA3 fA0 fA1 rA0 rA1 rAf
        generalize hwA : w2.alloc (.cells #[.string x1.name, .slice ax2 x1.args.length cx2] 30) = wA at *
        have HSC : Hid (∀ w', Below wA.heap.size wA w' → w'.cell? ⟨w1.heap.size, 0, none⟩ = some (.string f1.name) ∧ w'.cell? ⟨w1.heap.size, 1, none⟩ = some (.slice af1 f1.args.length cf1) ∧ w'.cell? ⟨w2.heap.size, 0, none⟩ = some (.string x1.name) ∧ w'.cell? ⟨w2.heap.size, 1, none⟩ = some (.slice ax2 x1.args.length cx2)) := fun w' hb => ⟨(KF.out.below hb KF.out.lt).cell 0, (KF.out.below hb KF.out.lt).cell 1, (KX.out.below hb KX.out.lt).cell 0, (KX.out.below hb KX.out.lt).cell 1⟩
        have HSX : Hid (∀ w' u u', Below wA.heap.size wA w' → ((w'.setCell ⟨w.heap.size + 1, 0, none⟩ u).setCell ⟨w.heap.size + 1, 1, none⟩ u').cell? ⟨w1.heap.size, 0, none⟩ = some (.string f1.name) ∧ ((w'.setCell ⟨w.heap.size + 1, 0, none⟩ u).setCell ⟨w.heap.size + 1, 1, none⟩ u').cell? ⟨w1.heap.size, 1, none⟩ = some (.slice af1 f1.args.length cf1) ∧ ((w'.setCell ⟨w.heap.size + 1, 0, none⟩ u).setCell ⟨w.heap.size + 1, 1, none⟩ u').cell? ⟨w2.heap.size, 0, none⟩ = some (.string x1.name) ∧ ((w'.setCell ⟨w.heap.size + 1, 0, none⟩ u).setCell ⟨w.heap.size + 1, 1, none⟩ u').cell? ⟨w2.heap.size, 1, none⟩ = some (.slice ax2 x1.args.length cx2)) := fun w' u u' hb => by
          have k1 : Blk ((w'.setCell ⟨w.heap.size + 1, 0, none⟩ u).setCell ⟨w.heap.size + 1, 1, none⟩ u') w1.heap.size #[.string f1.name, .slice af1 f1.args.length cf1] 30 := ((KF.out.below hb KF.out.lt).setOther _ _ (by omega)).setOther _ _ (by omega)
          have k2 : Blk ((w'.setCell ⟨w.heap.size + 1, 0, none⟩ u).setCell ⟨w.heap.size + 1, 1, none⟩ u') w2.heap.size #[.string x1.name, .slice ax2 x1.args.length cx2] 30 := ((KX.out.below hb KX.out.lt).setOther _ _ (by omega)).setOther _ _ (by omega)
          exact ⟨k1.cell 0, k1.cell 1, k2.cell 0, k2.cell 1⟩
        have HSS := hide (HSC.out _ (Below.refl _ _))
        have AF : Hid (∀ w', Below wA.heap.size wA w' → Calls Tryz.prog 57 #[.agg #[.string f1.name, .slice af1 f1.args.length cf1], .bool true] w' fun e w'' => ∃ a' c', e = .returned (.agg #[.string g1.name, .slice a' g1.args.length c']) ∧ Sl w'' (fun b => (X b ∧ b < w.heap.size) ∨ w.heap.size + 2 ≤ b) a' g1.args ∧ Below w'.heap.size w' w'') := fun w' hb => by
          refine (always_any f1 true _ w' _ ⟨_, _, rfl, SF.out.later hb⟩).mono ?_
          rintro e w'' ⟨v'', rfl, ⟨a', c', rfl, hs''⟩, hb''⟩
          have hb3 := hb.size
          have hs4 : Sl w'' (fun b => (X b ∧ b < w.heap.size) ∨ w.heap.size + 2 ≤ b) a' (alw (f1, true)).args := hs''.mono fun b h _ => h.elim id fun h => Or.inr (by omega)
          rw [HG1.out] at hs4 ⊢
          exact ⟨a', c', rfl, hs4, hb''⟩
        have AX : Hid (∀ w', Below wA.heap.size wA w' → Calls Tryz.prog 57 #[.agg #[.string x1.name, .slice ax2 x1.args.length cx2], .bool q2] w' fun e w'' => ∃ a' c', e = .returned (.agg #[.string g2.name, .slice a' g2.args.length c']) ∧ Sl w'' (fun b => (X b ∧ b < w.heap.size) ∨ w.heap.size + 2 ≤ b) a' g2.args ∧ Below w'.heap.size w' w'') := fun w' hb => by
          refine (always_any x1 q2 _ w' _ ⟨_, _, rfl, SX.out.later hb⟩).mono ?_
          rintro e w'' ⟨v'', rfl, ⟨a', c', rfl, hs''⟩, hb''⟩
          have hb3 := hb.size
          have hs4 : Sl w'' (fun b => (X b ∧ b < w.heap.size) ∨ w.heap.size + 2 ≤ b) a' (alw (x1, q2)).args := hs''.mono fun b h _ => h.elim id fun h => Or.inr (by omega)
          rw [HG2.out] at hs4 ⊢
          exact ⟨a', c', rfl, hs4, hb''⟩
        clear SF SX HG1 HG2 hwA
        go_region_held3 (fun w' => w'.cell? ⟨w1.heap.size, 0, none⟩ = some (.string f1.name) ∧ w'.cell? ⟨w1.heap.size, 1, none⟩ = some (.slice af1 f1.args.length cf1) ∧ w'.cell? ⟨w2.heap.size, 0, none⟩ = some (.string x1.name) ∧ w'.cell? ⟨w2.heap.size, 1, none⟩ = some (.slice ax2 x1.args.length cx2)) (first | exact HSS.out | exact HSX.out _ _ _ k7 | exact z7 | exact z6 | exact z5 | exact z4 | exact z3 | go_keep)
          (first
            | (go_at_call 31; refine (symbol_any _ _).mono ?_; rintro e w3 ⟨rfl, hb3⟩; have k3 := drew_below (w := wA) hb3; have hz3 := k3.size; have z3 := HSC.out _ k3; clear hb3)
            | (go_at_call 57; refine (AF.out _ (by exact k3)).mono ?_; rintro e w4 ⟨a4, c4, rfl, hs4, hb4⟩; have k4 := k3.trans (hb4.mono hz3); have hz4 := k4.size; have z4 := HSC.out _ k4; have HS4 := hide hs4; clear hb4 hs4)
            | (go_at_call 36; refine (ap_any ⟨sB, []⟩ g1 _ _ _ (fun b => (X b ∧ b < w.heap.size) ∨ w.heap.size + 2 ≤ b) (by exact ⟨none, 0, rfl, ⟨by simp, Or.inl rfl⟩⟩) (by exact ⟨a4, c4, rfl, HS4.out⟩)).mono ?_; rintro e w5 ⟨v5, rfl, ⟨a5, c5, rfl, hs5⟩, hb5⟩; have k5 := k4.trans (hb5.mono hz4); have hz5 := k5.size; have z5 := HSC.out _ k5; have HS5 : Hid (Sl w5 (fun b => (X b ∧ b < w.heap.size) ∨ w.heap.size + 2 ≤ b) a5 (apT ⟨sB, []⟩ g1).args) := (hs5.mono fun b h _ => h.elim id fun h => Or.inr (by omega)); clear hb5 hs5)
            | (go_at_call 57; refine (AX.out _ (by exact k5)).mono ?_; rintro e w6 ⟨a6, c6, rfl, hs6, hb6⟩; have k6 := k5.trans (hb6.mono hz5); have hz6 := k6.size; have z6 := HSC.out _ k6; have HS6 := hide hs6; have HS56 := hide (HS5.out.later hb6); clear hb6 hs6)
            | (go_at_call 36; refine (ap_any (apT ⟨sB, []⟩ g1) g2 _ _ _ (fun b => (X b ∧ b < w.heap.size) ∨ w.heap.size + 2 ≤ b) (by exact ⟨a5, c5, rfl, HS56.out⟩) (by exact ⟨a6, c6, rfl, HS6.out⟩)).mono ?_; rintro e w7 ⟨v7, rfl, ⟨a7, c7, rfl, hs7⟩, hb7⟩; have k7 := k6.trans (hb7.mono hz6); have hz7 := k7.size; have z7 := HSC.out _ k7; have HS7 : Hid (Sl w7 (fun b => (X b ∧ b < w.heap.size) ∨ w.heap.size + 2 ≤ b) a7 (apT (apT ⟨sB, []⟩ g1) g2).args) := (hs7.mono fun b h _ => h.elim id fun h => Or.inr (by omega)); have HK7 := hide (KR.out.below k7 KR.out.lt); have r0 : w7.cell? ⟨w.heap.size + 1, 0, none⟩ = some (.string ⟨#[]⟩) := HK7.out.cell 0; have r1 : w7.cell? ⟨w.heap.size + 1, 1, none⟩ = some (.slice none 0 0) := HK7.out.cell 1; have rf : ∀ i, w7.frozen? ⟨w.heap.size + 1, i, none⟩ = false := HK7.out.frozen; clear hb7 hs7))
        have HB7 := hide (BA.out.trans (k7.mono BA.out.size))
        go_wp2_with fail
        refine bodyPost_ret (v := .tuple #[.agg #[.string (apT (apT ⟨sB, []⟩ g1) g2).name, .slice a7 (apT (apT ⟨sB, []⟩ g1) g2).args.length c7], .bool true]) (by simp [results, Tryz.results58, go_sem, World.cell?_setCell_same, World.cell?_setCell_other, r0, r1]) rfl ?_
        rw [HPA.out]
        exact br_end HS7.out HB7.out _ _
end Go.Proofs.YtfkjejpfhflanaaGreatDoor

/- Walks: numbers out of raw numbers. -/
namespace Go.Proofs.YtfkjejpfhflanaaGreatDoor
open Go.RowKit
set_option linter.unusedSimpArgs false
set_option linter.unusedVariables false
set_option maxRecDepth 8000

theorem mod_nat {x : Int} (hx : 0 ≤ x) {n : Nat} (hn : 0 < n) : ∃ k : Nat, x % (n : Int) = k ∧ k < n := by
  have h1 := Int.emod_nonneg x (b := (n : Int)) (by omega)
  have h2 := Int.emod_lt_of_pos x (b := (n : Int)) (by omega)
  exact ⟨(x % (n : Int)).toNat, by omega, by omega⟩

theorem pick_any (c : Int) (n : Nat) (hn : 0 < n) (hn2 : n ≤ 2000000) (hc : -9223372036854775808 ≤ c ∧ c ≤ 9223372036854775807) (w : World) :
    Calls Tryz.prog 5 #[.int .i64 c, .int .i64 (n : Int)] w fun e w' => ∃ k : Nat, e = .returned (.int .i64 (k : Int)) ∧ k < n ∧ w' = w := by
  go_enter Tryz.func5, Tryz.ntmps5
  by_cases h : c < 0
  · go_wp2_with fail
    go_ret
    obtain ⟨k, hk, hkn⟩ := mod_nat (x := -(c + 1)) (by omega) hn
    refine ⟨k, ?_, hkn, rfl⟩
    have h1 : -(c + 1).tmod (n : Int) = k := by rw [← Int.neg_tmod, Int.tmod_eq_emod_of_nonneg (by omega)]; exact hk
    simp [h1]
  · go_wp2_with fail
    go_ret
    obtain ⟨k, hk, hkn⟩ := mod_nat (x := c) (by omega) hn
    exact ⟨k, by simp [hk], hkn, rfl⟩

theorem wrapI (x : Int) (h : -9223372036854775808 ≤ x ∧ x ≤ 9223372036854775807) : IntKind.i64.wrap x = x := by
  rw [IntKind.wrap_i64]; omega

def Rng (z : Int) : Prop := -9223372036854775808 ≤ z ∧ z ≤ 9223372036854775807

set_option maxHeartbeats 1000000 in
theorem raw_any (zs : List Int) (u : Value) (w : World) (X : Nat → Prop) (hu : PV w X u zs) (hr : ∀ z ∈ zs, Rng z) (i : Nat) (hi : i ≤ 1000000) (hzl : zs.length ≤ 1000000) :
    Calls Tryz.prog 25 #[u, .int .i64 (i : Int)] w fun e w' => ∃ k : Nat, e = .returned (.int .i64 (k : Int)) ∧ k ≤ 100000000000 ∧ Below w.heap.size w w' := by
  obtain ⟨a, c, rfl, hl, h⟩ := hu
  by_cases h0 : zs.length = 0
  · go_enter Tryz.func25, Tryz.ntmps25
    go_wp2_with fail
    go_ret
    exact ⟨i * 31, by simp, by omega, Below.refl _ _⟩
  · rcases h with h | ⟨b, o, rfl, hX, hc⟩
    · subst h; simp at h0
    · have hpos : 0 < zs.length := by omega
      obtain ⟨m, hm, hlt⟩ := mod_nat (x := (i : Int)) (by omega) hpos
      obtain ⟨d, hd, hdl⟩ : ∃ d : Nat, (i : Int) / (zs.length : Int) = d ∧ d ≤ i := ⟨i / zs.length, by simp, Nat.div_le_self _ _⟩
      have hm2 : (i : Int).tmod (zs.length : Int) = m := by rw [Int.tmod_eq_emod_of_nonneg (by omega)]; exact hm
      have hd2 : (i : Int).tdiv (zs.length : Int) = d := by rw [Int.tdiv_eq_ediv_of_nonneg (by omega)]; exact hd
      have hcc := hc m hlt
      have hrg := hr _ (List.getElem_mem hlt)
      generalize zs[m] = z at *
      have hm0 : (0 : Int) ≤ (m : Int) := by omega
      have hm1 : (m : Int) < (zs.length : Int) := by omega
      clear hc hr
      go_enter Tryz.func25, Tryz.ntmps25
      go_wp2_with fail
      go_region_held3 (fun w' => w'.cell? ⟨b, o + m, none⟩ = some (.int .i64 z)) (first | exact hcc | go_keep)
        ((go_at_call 5; refine (pick_any z 1000003 (by decide) (by decide) hrg _).mono ?_; rintro e w1 ⟨k, rfl, hk, rfl⟩))
      go_wp2_with fail
      go_ret
      refine ⟨k + d * 7919, by simp [wrapI (d : Int) (by omega), wrapI ((d : Int) * 7919) (by omega), wrapI ((k : Int) + (d : Int) * 7919) (by omega)], by omega, ?_⟩
      exact (Below.refl _ _).drew
end Go.Proofs.YtfkjejpfhflanaaGreatDoor


/- Walks: terms out of raw numbers. -/
namespace Go.Proofs.YtfkjejpfhflanaaGreatDoor
open Go.RowKit
set_option linter.unusedSimpArgs false
set_option linter.unusedVariables false
set_option maxRecDepth 8000

section
variable {P : Program} {ops : Array Oper} {Q : Exit → Act → World → Prop} {md : Region.Mode}
end

def TwoS (w5 w6 : World) (t5 t6 : Tm) (a5 a6 : Option Addr) (c5 c6 : Nat) (w' : World) : Prop :=
  Blk w' w5.heap.size #[.string t5.name, .slice a5 t5.args.length c5] 30 ∧ Blk w' w6.heap.size #[.string t6.name, .slice a6 t6.args.length c6] 30
def TwoF (w5 w6 : World) (t5 t6 : Tm) (a5 a6 : Option Addr) (c5 c6 : Nat) (b : Nat) (w' : World) : Prop :=
  TwoS w5 w6 t5 t6 a5 a6 c5 c6 w' ∧ Blk w' b #[.string ⟨#[102]⟩, .string ⟨#[103]⟩] 9
theorem TwoS.alloc {w5 w6 : World} {t5 t6 : Tm} {a5 a6 : Option Addr} {c5 c6 : Nat} {w' : World} (h : TwoS w5 w6 t5 t6 a5 a6 c5 c6 w') (o : Obj) : TwoS w5 w6 t5 t6 a5 a6 c5 c6 (w'.alloc o) := ⟨h.1.alloc o, h.2.alloc o⟩
theorem TwoF.alloc {w5 w6 : World} {t5 t6 : Tm} {a5 a6 : Option Addr} {c5 c6 b : Nat} {w' : World} (h : TwoF w5 w6 t5 t6 a5 a6 c5 c6 b w') (o : Obj) : TwoF w5 w6 t5 t6 a5 a6 c5 c6 b (w'.alloc o) := ⟨h.1.alloc o, h.2.alloc o⟩

end Go.Proofs.YtfkjejpfhflanaaGreatDoor


/- Walks: terms of s, k, i, X and a constant, out of raw numbers. -/
namespace Go.Proofs.YtfkjejpfhflanaaGreatDoor
open Go.RowKit
set_option linter.unusedSimpArgs false
set_option linter.unusedVariables false
set_option maxRecDepth 8000

end Go.Proofs.YtfkjejpfhflanaaGreatDoor


/- Walks: what s makes of a row, at the third place. -/
namespace Go.Proofs.YtfkjejpfhflanaaGreatDoor
open Go.RowKit
set_option linter.unusedSimpArgs false
set_option linter.unusedVariables false
set_option maxRecDepth 8000

end Go.Proofs.YtfkjejpfhflanaaGreatDoor


/- Walks: a row worked on by the symbol at its front; a row with another term at a place. -/
namespace Go.Proofs.YtfkjejpfhflanaaGreatDoor
open Go.RowKit
set_option linter.unusedSimpArgs false
set_option linter.unusedVariables false
set_option maxRecDepth 8000

end Go.Proofs.YtfkjejpfhflanaaGreatDoor


/- Walks: the terms of worked rows. -/
namespace Go.Proofs.YtfkjejpfhflanaaGreatDoor
open Go.RowKit
set_option linter.unusedSimpArgs false
set_option linter.unusedVariables false
set_option maxRecDepth 8000

end Go.Proofs.YtfkjejpfhflanaaGreatDoor


/- Walks: one step, as the program does it. -/
namespace Go.Proofs.YtfkjejpfhflanaaGreatDoor
open Go.RowKit
set_option linter.unusedSimpArgs false
set_option linter.unusedVariables false
set_option maxRecDepth 8000

theorem RoL.mono {w : World} {Y Y' : Nat → Prop} {B : Nat} {R : List Tm} (h : RoL w Y B R) (hY : ∀ b, Y b → Y' b) : RoL w Y' B R := by
  obtain ⟨al, cl, h1, h2, h3⟩ := h
  exact ⟨al, cl, h1, h2.mono fun b h _ => hY b h, h3⟩
end Go.Proofs.YtfkjejpfhflanaaGreatDoor


/- Walks: where steps end, as the document says. -/
namespace Go.Proofs.YtfkjejpfhflanaaGreatDoor
open Go.RowKit
set_option linter.unusedSimpArgs false
set_option linter.unusedVariables false
set_option maxRecDepth 8000

end Go.Proofs.YtfkjejpfhflanaaGreatDoor

/- Walks: whether the program finds all put together by ap. -/
namespace Go.Proofs.YtfkjejpfhflanaaGreatDoor
open Go.RowKit
set_option linter.unusedSimpArgs false
set_option linter.unusedVariables false
set_option maxRecDepth 8000

set_option maxHeartbeats 1000000 in
theorem isPut_any (t : Tm) : ∀ (v : Value) (w : World) (X : Nat → Prop), TV w X v t →
    Calls Tryz.prog 45 #[v] w fun e w' => e = .returned (.bool (isC t)) ∧ Below w.heap.size w w' := by
  induction t using Tm.ind with
  | h s l ih =>
    intro v w X hv
    obtain ⟨a, c, rfl, hs⟩ := hv
    have IH := hide ih
    have hl := hs.1
    have HS := hide hs
    clear ih hs
    dsimp only
    have HC := hide (isC_mk s l)
    by_cases h0 : l.length = 0
    · have HR : Hid (isC ⟨s, l⟩ = true) := by unfold Hid; rw [List.length_eq_zero_iff.1 h0]; exact isC_leaf s
      rw [h0]
      rw [HR.out]
      go_enter Tryz.func45, Tryz.ntmps45
      go_wp2_with fail
      go_ret
      exact ⟨rfl, (Below.refl _ _).alloc (Nat.le_refl _) _⟩
    · have e0 : ((l.length : Int) == 0) = false := beq_eq_false_iff_ne.2 (by omega)
      by_cases hnm : s = apB
      · have e1 : (s.toList == [97, 112]) = true := nm_yes hnm
        have HN := hide hnm
        clear hnm
        by_cases h2 : l.length = 2
        · obtain ⟨f, x, rfl⟩ : ∃ f x, l = [f, x] := by
            match l, h2 with
            | [f, x], _ => exact ⟨f, x, rfl⟩
          have HR : Hid (isC ⟨s, [f, x]⟩ = (isC f && isC x)) := by unfold Hid; rw [HN.out]; exact isC_ap f x
          rw [HR.out]
          obtain ⟨b, o, a1, c1, a2, c2, rfl, hb, d0, d1, d2, d3, hs1, hs2⟩ := sl_twoC HS.out
          have D2 := hide d2
          have D3 := hide d3
          have HS1 : Hid (TV w X (.agg #[.string f.name, .slice a1 f.args.length c1]) f) := ⟨a1, c1, rfl, hs1⟩
          have HS2 : Hid (TV w X (.agg #[.string x.name, .slice a2 x.args.length c2]) x) := ⟨a2, c2, rfl, hs2⟩
          have HBX : Hid (Below w.heap.size w (w.alloc (.cells #[.string s, .slice (some ⟨b, o, none⟩) 2 c] 30))) := (Below.refl _ _).alloc (Nat.le_refl _) _
          have HBK : Hid (Blk (w.alloc (.cells #[.string s, .slice (some ⟨b, o, none⟩) 2 c] 30)) w.heap.size #[.string s, .slice (some ⟨b, o, none⟩) 2 c] 30) := Blk.new _ _ _
          clear hs1 hs2 h2 e0 h0 hl HS HC
          simp only [List.length_cons, List.length_nil]
          cases hcf : isC f with
          | false =>
            have HF := hide hcf
            clear hcf
            go_enter Tryz.func45, Tryz.ntmps45
            go_wp2_with (go_at_call 45; refine (IH.out f (by simp) _ _ X (HS1.out.alloc _)).mono ?_; rintro e w1 ⟨rfl, hb1⟩; rw [HF.out])
            go_ret
            exact ⟨rfl, HBX.out.trans (hb1.mono (by simp))⟩
          | true =>
            have HF := hide hcf
            clear hcf
            have HAV : Hid (∀ (v' : Value) (y : Tm), ((v' = .agg #[.string f.name, .slice a1 f.args.length c1] ∧ y = f) ∨ (v' = .agg #[.string x.name, .slice a2 x.args.length c2] ∧ y = x)) → ∀ w', Below w.heap.size w w' → Calls Tryz.prog 45 #[v'] w' fun e w'' => e = .returned (.bool (isC y)) ∧ Below w'.heap.size w' w'') := fun v' y h w' hb => by
              rcases h with ⟨rfl, rfl⟩ | ⟨rfl, rfl⟩
              · exact IH.out _ (by simp) _ _ X (HS1.out.later hb)
              · exact IH.out _ (by simp) _ _ X (HS2.out.later hb)
            go_enter Tryz.func45, Tryz.ntmps45
            go_wp2_with (first
              | (go_at_call 45; refine (HAV.out _ _ (by exact Or.inl ⟨rfl, rfl⟩) _ (by exact HBX.out)).mono ?_; rintro e w1 ⟨rfl, hb1⟩; rw [HF.out]; have k1 : w1.cell? ⟨w.heap.size, 1, none⟩ = some (.slice (some ⟨b, o, none⟩) 2 c) := (HBK.out.below hb1 (by simp)).cell 1; have k2 : w1.cell? ⟨b, o + 2, none⟩ = some (.string x.name) := ((HBX.out.trans (hb1.mono (by simp))).cell (p := ⟨b, o + 2, none⟩) hb).trans D2.out; have k3 : w1.cell? ⟨b, o + 3, none⟩ = some (.slice a2 x.args.length c2) := ((HBX.out.trans (hb1.mono (by simp))).cell (p := ⟨b, o + 3, none⟩) hb).trans D3.out; have HB1 := hide (HBX.out.trans (hb1.mono (by simp))))
              | (go_at_call 45; refine (HAV.out _ _ (by exact Or.inr ⟨rfl, rfl⟩) _ (by exact HB1.out)).mono ?_; rintro e w2 ⟨rfl, hb2⟩))
            go_ret
            exact ⟨rfl, (HBX.out.trans (hb1.mono (by simp))).trans (hb2.mono (by have := hb1.size; simp at this; omega))⟩
        · have e2 : ((l.length : Int) == 2) = false := beq_eq_false_iff_ne.2 (by omega)
          have HR : Hid (isC ⟨s, l⟩ = false) := by unfold Hid; rw [HC.out]; simp [okK, h0, h2]
          rw [HR.out]
          clear HC HS IH h0 h2
          go_enter Tryz.func45, Tryz.ntmps45
          go_wp2_with fail
          go_ret
          exact ⟨rfl, (Below.refl _ _).alloc (Nat.le_refl _) _⟩
      · have e1 : (s.toList == [97, 112]) = false := nm_no hnm
        have HR : Hid (isC ⟨s, l⟩ = false) := by unfold Hid; rw [HC.out]; simp [okK, h0, hnm]
        rw [HR.out]
        clear HC HS IH h0 hnm
        go_enter Tryz.func45, Tryz.ntmps45
        go_wp2_with fail
        go_ret
        exact ⟨rfl, (Below.refl _ _).alloc (Nat.le_refl _) _⟩
end Go.Proofs.YtfkjejpfhflanaaGreatDoor


/- Walks: whether a term may be, and where its steps end, as the program says. -/
namespace Go.Proofs.YtfkjejpfhflanaaGreatDoor
open Go.RowKit
set_option linter.unusedSimpArgs false
set_option linter.unusedVariables false
set_option maxRecDepth 8000

set_option maxHeartbeats 1000000 in
theorem ccheck_any (t : Tm) (v : Value) (w : World) (X : Nat → Prop) (hv : TV w X v t) :
    Calls Tryz.prog 19 #[v] w fun e w' => e = .returned (.int .i64 (combE t)) ∧ Below w.heap.size w w' := by
  obtain ⟨a, c, rfl, hs⟩ := hv
  have HV : Hid (TV w X (.agg #[.string t.name, .slice a t.args.length c]) t) := ⟨a, c, rfl, hs⟩
  clear hs
  go_enter Tryz.func19, Tryz.ntmps19
  go_wp2_with fail
  refine (check_any t _ _ X (HV.out.alloc _)).mono ?_
  rintro e w1 ⟨rfl, hb1⟩
  have HB2 : Hid (Below w.heap.size w w1) := ((Below.refl _ _).alloc (Nat.le_refl _) _).trans (hb1.mono (by simp))
  have c0 : w1.cell? ⟨w.heap.size, 0, none⟩ = some (.string t.name) := by rw [hb1.cell (p := ⟨_, _, none⟩) (by simp)]; simp
  have c1 : w1.cell? ⟨w.heap.size, 1, none⟩ = some (.slice a t.args.length c) := by rw [hb1.cell (p := ⟨_, _, none⟩) (by simp)]; simp
  clear hb1
  by_cases h : mayE t = 0
  · rw [h]
    have HE : Hid (combE t = if isC t then 0 else 2) := by unfold Hid combE; rw [if_pos h]
    clear h
    go_wp2_with fail
    refine (isPut_any t _ _ X (HV.out.later HB2.out)).mono ?_
    rintro e w2 ⟨rfl, hb2⟩
    have HB3 := hide (HB2.out.trans (hb2.mono HB2.out.size))
    clear hb2
    cases hcc : isC t with
    | true =>
      have HE2 : Hid (combE t = 0) := by unfold Hid; rw [HE.out, hcc]; rfl
      clear hcc HE
      go_wp2_with fail
      go_ret
      exact ⟨ret_int HE2.out.symm, HB3.out⟩
    | false =>
      have HE2 : Hid (combE t = 2) := by unfold Hid; rw [HE.out, hcc]; rfl
      clear hcc HE
      go_wp2_with fail
      go_ret
      exact ⟨ret_int HE2.out.symm, HB3.out⟩
  · have HE : Hid (combE t = mayE t) := by unfold Hid combE; rw [if_neg h]
    have hne : (mayE t == 0) = false := beq_eq_false_iff_ne.2 h
    clear h
    go_wp2_with fail
    go_ret
    exact ⟨ret_int HE.out.symm, HB2.out⟩

set_option maxHeartbeats 1000000 in
theorem tooGreat_any (t : Tm) (v : Value) (w : World) (X : Nat → Prop) (hv : TV w X v t) :
    Calls Tryz.prog 56 #[v] w fun e w' => e = .returned (.bool (decide (2000 < sizeL [t]))) ∧ Below w.heap.size w w' := by
  obtain ⟨a, c, rfl, hs⟩ := hv
  have HV : Hid (TV w X (.agg #[.string t.name, .slice a t.args.length c]) t) := ⟨a, c, rfl, hs⟩
  clear hs
  go_enter Tryz.func56, Tryz.ntmps56
  go_wp2_with fail
  refine (count_any 2000 (by omega) (by omega) t _ _ X (HV.out.alloc _)).mono ?_
  rintro e w1 ⟨rfl, hb1⟩
  have HB2 : Hid (Below w.heap.size w w1) := ((Below.refl _ _).alloc (Nat.le_refl _) _).trans (hb1.mono (by simp))
  clear hb1
  by_cases hbig : 2000 < sizeL [t]
  · have e : min ((sizeL [t] : Int)) (2000 + 1) = 2001 := by omega
    have HD : Hid (decide (2000 < sizeL [t]) = true) := decide_eq_true hbig
    rw [e]
    go_wp2_with fail
    go_ret
    exact ⟨by rw [HD.out]; rfl, HB2.out⟩
  · have e : min ((sizeL [t] : Int)) (2000 + 1) = sizeL [t] := by omega
    have HD : Hid (decide (2000 < sizeL [t]) = false) := decide_eq_false hbig
    have e3 : decide ((sizeL [t] : Int) > 2000) = false := decide_eq_false (by omega)
    rw [e]
    go_wp2_with fail
    go_ret
    exact ⟨by rw [HD.out]; rfl, HB2.out⟩

end Go.Proofs.YtfkjejpfhflanaaGreatDoor


/- Walks: brackets whole. Plain: names in brackets. -/
namespace Go.Proofs.YtfkjejpfhflanaaGreatDoor
open Go.RowKit
set_option linter.unusedSimpArgs false
set_option linter.unusedVariables false
set_option maxRecDepth 8000

theorem alw_isC {v : ByteArray} (hv : v ≠ apB) {t : Tm} (hc : isC t = true) : isC (alw (brR v (sizeL [t]) t)) = true := by
  have h1 := (br_law hv (x := ⟨kB, []⟩) (isC_leaf _) _ t (Nat.le_refl _) hc).1
  unfold alw
  split
  · exact h1
  · rw [isC_ap, isC_leaf, h1]; rfl
set_option maxHeartbeats 2000000 in
theorem without_any (nm : ByteArray) (hv : nm ≠ apB) (t : Tm) (hC : isC t = true) (v : Value) (w : World) (X : Nat → Prop) (htv : TV w X v t) :
    Calls Tryz.prog 35 #[.string nm, v] w fun e w' => TPost w X (alw (brR nm (sizeL [t]) t)) e w' := by
  obtain ⟨a, c, rfl, hs⟩ := htv
  have HS : Hid (TV w (fun b => X b ∧ b < w.heap.size) (.agg #[.string t.name, .slice a t.args.length c]) t) := ⟨a, c, rfl, hs.mono fun b h1 h2 => ⟨h1, h2⟩⟩
  have HK : Hid (Blk ((w.alloc (.cells #[.string t.name, .slice a t.args.length c] 30)).alloc (.cells #[.string ⟨#[]⟩, .slice none 0 0] 30)) (w.heap.size + 1) #[.string ⟨#[]⟩, .slice none 0 0] 30) := by
    have h := Blk.new (w.alloc (.cells #[.string t.name, .slice a t.args.length c] 30)) #[.string ⟨#[]⟩, .slice none 0 0] 30
    unfold Hid
    simpa using h
  have HB0 : Hid (Below w.heap.size w ((w.alloc (.cells #[.string t.name, .slice a t.args.length c] 30)).alloc (.cells #[.string ⟨#[]⟩, .slice none 0 0] 30))) := below2 _ _
  have hz0 : ((w.alloc (.cells #[.string t.name, .slice a t.args.length c] 30)).alloc (.cells #[.string ⟨#[]⟩, .slice none 0 0] 30)).heap.size = w.heap.size + 2 := by simp
  have HBR := hide (bracket_any nm hv _ t _ _ _ (Nat.le_refl _) hC (HS.out.later HB0.out))
  obtain ⟨t1, q1, hbr⟩ : ∃ t1 q1, brR nm (sizeL [t]) t = (t1, q1) := ⟨_, _, rfl⟩
  rw [hbr] at HBR ⊢
  clear hs hbr
  go_enter Tryz.func35, Tryz.ntmps35
  go_wp2_with fail
  refine HBR.out.mono ?_
  rintro e w1 ⟨v1, rfl, ⟨a1, c1, rfl, hs1⟩, hb1⟩
  have B1 := hide (HB0.out.trans (hb1.mono (by omega)))
  have K1 := hide (HK.out.below hb1 HK.out.lt)
  have hsz1 := hb1.size
  have S1 : Hid (Sl w1 (fun b => (X b ∧ b < w.heap.size) ∨ w.heap.size + 2 ≤ b) a1 t1.args) := hs1.mono fun b h _ => h.imp id fun h => by omega
  have hw1 : w.heap.size + 2 ≤ w1.heap.size := by omega
  clear hs1 hb1 hsz1 HBR
  go_wp2_with fail
  refine (always_any t1 q1 _ _ _ ⟨_, _, rfl, S1.out⟩).mono ?_
  rintro e w2 ⟨v2, rfl, ⟨a2, c2, rfl, hs2⟩, hb2⟩
  have B2 := hide (B1.out.trans (hb2.mono B1.out.size))
  have K2 := hide (K1.out.below hb2 K1.out.lt)
  have S2 : Hid (Sl w2 (fun b => (X b ∧ b < w.heap.size) ∨ w.heap.size + 2 ≤ b) a2 (alw (t1, q1)).args) := hs2.mono fun b h _ => h.elim id fun h => Or.inr (by omega)
  have r0 : w2.cell? ⟨w.heap.size + 1, 0, none⟩ = some (.string ⟨#[]⟩) := K2.out.cell 0
  have r1 : w2.cell? ⟨w.heap.size + 1, 1, none⟩ = some (.slice none 0 0) := K2.out.cell 1
  have rf : ∀ i, w2.frozen? ⟨w.heap.size + 1, i, none⟩ = false := K2.out.frozen
  clear hs2 hb2
  obtain ⟨t2, ht2⟩ : ∃ t2, alw (t1, q1) = t2 := ⟨_, rfl⟩
  have HT2 := hide ht2
  rw [ht2] at S2 ⊢
  clear ht2
  go_wp2_with fail
  refine bodyPost_ret (v := .agg #[.string t2.name, .slice a2 t2.args.length c2]) (by simp [results, Tryz.results35, go_sem, World.cell?_setCell_same, World.cell?_setCell_other, r0, r1]) rfl ?_
  rw [HT2.out]
  exact cl_end3 S2.out B2.out _ _

end Go.Proofs.YtfkjejpfhflanaaGreatDoor
