/- Several texts in one. -/
import Derived.Test.YtfkjejpfhflanaaGreatDoorZJTopWithoutOwn
import Derived.Test.YtfkjejpfhflanaaGreatDoorZDTopWithoutOwn
import Derived.Test.YtfkjejpfhflanaaGreatDoorZCTopWithoutOwn
import Derived.Test.YtfkjejpfhflanaaGreatDoorZTopWithoutOwn
import Derived.Deep.RegionHeld3
import Derived.Deep.DeepCutAuto
import Derived.Test.YtfkjejpfhflanaaGreatDoorZPTopWithoutOwn
import Derived.Test.YtfkjejpfhflanaaGreatDoorZBTopWithoutOwn
/- Plain: lambda terms without what is bound: it is the same whatever the names of what is bound begin with. -/
namespace Go.Proofs.YtfkjejpfhflanaaGreatDoor
set_option linter.unusedSimpArgs false
set_option linter.unusedVariables false

/-- What a number's digits are worth. -/
def decV (l : List UInt8) : Nat := l.foldl (fun a b => 10 * a + (b.toNat - 48)) 0
theorem decV_snoc (l : List UInt8) (b : UInt8) : decV (l ++ [b]) = 10 * decV l + (b.toNat - 48) := by simp [decV]
theorem dig_val {n : Nat} (h : n < 10) : (UInt8.ofNat (48 + n)).toNat - 48 = n := by
  rw [UInt8.toNat_ofNat']
  omega
theorem decV_dec (n : Nat) : decV (Lib.decDigits n) = n := by
  induction n using Nat.strongRecOn with
  | ind n ih =>
    by_cases h : n < 10
    · rw [Lib.decDigits, dif_pos h]
      have := decV_snoc [] (UInt8.ofNat (48 + n))
      simp only [List.nil_append] at this
      rw [this, dig_val h]
      simp [decV]
    · have e : Lib.decDigits n = Lib.decDigits (n / 10) ++ [UInt8.ofNat (48 + n % 10)] := by
        conv => lhs; rw [Lib.decDigits, dif_neg h]
      rw [e, decV_snoc, ih (n / 10) (by omega), dig_val (by omega)]
      omega
/-- Such a name. -/
def nmP (p : UInt8) (k : Nat) : ByteArray := ⟨(p :: Lib.decDigits k).toArray⟩
theorem nmP_inj {p : UInt8} {j k : Nat} (h : nmP p j = nmP p k) : j = k := by
  unfold nmP at h
  simp only [ByteArray.mk.injEq] at h
  have h1 := congrArg Array.toList h
  simp only [List.toList_toArray, List.cons.injEq, true_and] at h1
  rw [← decV_dec j, h1, decV_dec]
theorem nmP_head {p q : UInt8} {j : Nat} {l : List UInt8} (h : nmP p j = ⟨(q :: l).toArray⟩) : p = q := by
  unfold nmP at h
  simp only [ByteArray.mk.injEq] at h
  have h1 := congrArg Array.toList h
  simp only [List.toList_toArray, List.cons.injEq] at h1
  exact h1.1
/-- Not too great. -/
def notG (t : Tm) : Option Tm := if 2000 < sizeL [t] then none else some t
/-- Without what is bound; names of what is bound from outside begin with p. -/
def cmb (p : UInt8) : Nat → Nat → Lm → Option Tm
  | 0, _, _ => none
  | n + 1, d, ⟨k, x, l⟩ =>
    if k = 1 then some ⟨nmP p ((d : Int) - 1 - x).toNat, []⟩
    else if k = 4 then some ⟨nmP 99 x.toNat, []⟩
    else if k = 2 then (match l with
      | [b] => (cmb p n (d + 1) b).bind fun t => notG (alw (brR (nmP p d) (sizeL [t]) t))
      | _ => none)
    else (match l with
      | [f, y] => (cmb p n d f).bind fun f' => (cmb p n d y).bind fun y' => notG (apT f' y')
      | _ => none)
theorem cmb_var (p : UInt8) (n d : Nat) (x : Int) : cmb p (n + 1) d ⟨1, x, []⟩ = some ⟨nmP p ((d : Int) - 1 - x).toNat, []⟩ := by simp [cmb]
theorem cmb_con (p : UInt8) (n d : Nat) (x : Int) : cmb p (n + 1) d ⟨4, x, []⟩ = some ⟨nmP 99 x.toNat, []⟩ := by simp [cmb]
theorem cmb_lam (p : UInt8) (n d : Nat) (x : Int) (b : Lm) : cmb p (n + 1) d ⟨2, x, [b]⟩ = (cmb p n (d + 1) b).bind fun t => notG (alw (brR (nmP p d) (sizeL [t]) t)) := by simp [cmb]
theorem cmb_app (p : UInt8) (n d : Nat) (x : Int) (f y : Lm) : cmb p (n + 1) d ⟨3, x, [f, y]⟩ = (cmb p n d f).bind fun f' => (cmb p n d y).bind fun y' => notG (apT f' y') := by simp [cmb]

/-- The same but for the names' beginnings. -/
inductive Rn (d : Nat) : Tm → Tm → Prop where
  | same (q : UInt8) (l : List UInt8) (h1 : q ≠ 86) (h2 : q ≠ 88) : Rn d ⟨⟨(q :: l).toArray⟩, []⟩ ⟨⟨(q :: l).toArray⟩, []⟩
  | var (k : Nat) (h : k < d) : Rn d ⟨nmP 86 k, []⟩ ⟨nmP 88 k, []⟩
  | ap {f f' x x' : Tm} : Rn d f f' → Rn d x x' → Rn d (apT f x) (apT f' x')
theorem Rn.size {d : Nat} {t t' : Tm} (h : Rn d t t') : sizeL [t] = sizeL [t'] := by
  induction h with
  | same => rfl
  | var => simp [sizeL]
  | ap _ _ h1 h2 => rw [size_ap, size_ap, h1, h2]
theorem Rn.isC {d : Nat} {t t' : Tm} (h : Rn d t t') : isC t = true ∧ isC t' = true := by
  induction h with
  | same => exact ⟨isC_leaf _, isC_leaf _⟩
  | var => exact ⟨isC_leaf _, isC_leaf _⟩
  | ap _ _ h1 h2 => rw [isC_ap, isC_ap, h1.1, h1.2, h2.1, h2.2]; exact ⟨rfl, rfl⟩
theorem Rn.zero {t t' : Tm} (h : Rn 0 t t') : t = t' := by
  induction h with
  | same => rfl
  | var k h => omega
  | ap _ _ h1 h2 => rw [h1, h2]
theorem nm_ap (p : UInt8) (h : p ≠ 97) (d : Nat) : nmP p d ≠ apB := fun e => h (nmP_head (q := 97) (l := [112]) e)
theorem Rn.name {d k : Nat} {t t' : Tm} (h : Rn d t t') : t.name = nmP 86 k ↔ t'.name = nmP 88 k := by
  cases h with
  | same q l h1 h2 =>
    constructor
    · intro e; exact absurd (nmP_head e.symm).symm h1
    · intro e; exact absurd (nmP_head e.symm).symm h2
  | var j h =>
    constructor
    · intro e; rw [nmP_inj e]
    · intro e; rw [nmP_inj e]
  | ap h1 h2 =>
    constructor
    · intro e; exact absurd e.symm (nm_ap 86 (by decide) k)
    · intro e; exact absurd e.symm (nm_ap 88 (by decide) k)
theorem notG_some {t u : Tm} (h : notG t = some u) : u = t ∧ sizeL [t] ≤ 2000 := by
  unfold notG at h
  by_cases h1 : 2000 < sizeL [t]
  · rw [if_pos h1] at h; cases h
  · rw [if_neg h1] at h; exact ⟨(Option.some.inj h).symm, by omega⟩
/-- What comes is put together, and not too great. -/
theorem cmb_ok (p : UInt8) (hp : p ≠ 97) (n : Nat) : ∀ (d : Nat) (t : Lm) (u : Tm), errM (d : Int) 0 [t] = 0 → cmb p n d t = some u → isC u = true ∧ sizeL [u] ≤ 2000 := by
  induction n with
  | zero => intro d t u _ h; simp [cmb] at h
  | succ n ih =>
    intro d t u he h
    rcases may_look he with ⟨x, rfl, h0, h1⟩ | ⟨b, rfl, hb⟩ | ⟨f, a, rfl, hf, ha⟩ | ⟨x, rfl, h0, h1⟩
    · rw [cmb_var] at h; cases h; exact ⟨isC_leaf _, by simp [sizeL]⟩
    · rw [cmb_lam] at h
      obtain ⟨z, h2, h3⟩ := Option.bind_eq_some_iff.1 h
      obtain ⟨c1, c2⟩ := ih (d + 1) b z (by rw [show ((d + 1 : Nat) : Int) = (d : Int) + 1 by omega]; exact hb) h2
      obtain ⟨rfl, h4⟩ := notG_some h3
      exact ⟨alw_isC (nm_ap p hp d) c1, h4⟩
    · rw [cmb_app] at h
      obtain ⟨z, h2, h3⟩ := Option.bind_eq_some_iff.1 h
      obtain ⟨z', h4, h5⟩ := Option.bind_eq_some_iff.1 h3
      obtain ⟨rfl, h6⟩ := notG_some h5
      exact ⟨by rw [isC_ap, (ih d f z hf h2).1, (ih d a z' ha h4).1]; rfl, h6⟩
    · rw [cmb_con] at h; cases h; exact ⟨isC_leaf _, by simp [sizeL]⟩
end Go.Proofs.YtfkjejpfhflanaaGreatDoor

/- Plain: what a term of combinators is as a lambda term. -/
namespace Go.Proofs.YtfkjejpfhflanaaGreatDoor
open Go.RowKit
set_option linter.unusedSimpArgs false
set_option linter.unusedVariables false

def nilL : Lm := ⟨0, 0, []⟩
def iL : Lm := ⟨2, 0, [⟨1, 0, []⟩]⟩
def kL : Lm := ⟨2, 0, [⟨2, 0, [⟨1, 1, []⟩]⟩]⟩
def sL : Lm := ⟨2, 0, [⟨2, 0, [⟨2, 0, [⟨3, 0, [⟨3, 0, [⟨1, 2, []⟩, ⟨1, 0, []⟩]⟩, ⟨3, 0, [⟨1, 1, []⟩, ⟨1, 0, []⟩]⟩]⟩]⟩]⟩]⟩
/-- A leaf that is none of the three. -/
def leafV (s : ByteArray) : Int × Lm :=
  if varB s = true then (15, nilL)
  else match conN s with
    | some k => (0, ⟨4, (k : Int), []⟩)
    | none => (1, nilL)
theorem leafV_var {s : ByteArray} (h : varB s = true) : leafV s = (15, nilL) := by unfold leafV; rw [if_pos h]
theorem leafV_con {s : ByteArray} {k : Nat} (h : varB s = false) (hc : conN s = some k) : leafV s = (0, ⟨4, (k : Int), []⟩) := by unfold leafV; rw [if_neg (by rw [h]; simp), hc]
theorem leafV_no {s : ByteArray} (h : varB s = false) (hc : conN s = none) : leafV s = (1, nilL) := by unfold leafV; rw [if_neg (by rw [h]; simp), hc]
/-- A leaf: what is wrong, and what it is. -/
def leafL (s : ByteArray) : Int × Lm :=
  if s = ⟨#[105]⟩ then (0, iL) else if s = ⟨#[107]⟩ then (0, kL) else if s = ⟨#[115]⟩ then (0, sL) else leafV s
def toL : Nat → Tm → Int × Lm
  | 0, _ => (0, nilL)
  | n + 1, ⟨s, []⟩ => leafL s
  | n + 1, ⟨_, f :: l⟩ => if (toL n f).1 = 0 then (match l with
      | x :: _ => if (toL n x).1 = 0 then (0, ⟨3, 0, [(toL n f).2, (toL n x).2]⟩) else ((toL n x).1, nilL)
      | [] => (0, nilL)) else ((toL n f).1, nilL)
theorem toL_leaf (n : Nat) (s : ByteArray) : toL (n + 1) ⟨s, []⟩ = leafL s := rfl
theorem toL_ap (n : Nat) (f x : Tm) : toL (n + 1) (apT f x) = if (toL n f).1 = 0 then (if (toL n x).1 = 0 then (0, ⟨3, 0, [(toL n f).2, (toL n x).2]⟩) else ((toL n x).1, nilL)) else ((toL n f).1, nilL) := rfl
/-- A term that may be: put together, and of names. -/
def OkC (t : Tm) : Prop := isC t = true ∧ errL [t] = 0
theorem OkC.of {t : Tm} (h : combE t = 0) : OkC t ∧ sizeL [t] ≤ 200 := by
  unfold combE at h
  by_cases h1 : mayE t = 0
  · rw [if_pos h1] at h
    unfold mayE at h1
    by_cases h2 : 200 < sizeL [t]
    · rw [if_pos h2] at h1; cases h1
    · rw [if_neg h2] at h1
      by_cases h3 : isC t = true
      · exact ⟨⟨h3, h1⟩, by omega⟩
      · rw [if_neg h3] at h; cases h
  · rw [if_neg h1] at h
    exact absurd h h1
theorem OkC.look {t : Tm} (h : OkC t) : (∃ s, t = ⟨s, []⟩ ∧ nameB s = true) ∨ ∃ f x, t = apT f x ∧ OkC f ∧ OkC x := by
  obtain ⟨h1, h2⟩ := h
  rcases isC_cases h1 with ⟨s, rfl⟩ | ⟨f, x, rfl, hf, hx⟩
  · left
    refine ⟨s, rfl, ?_⟩
    simp only [errL] at h2
    split at h2 <;> rename_i h3
    · exact h3
    · cases h2
  · right
    refine ⟨f, x, rfl, ?_⟩
    have h3 : errL [f, x] = 0 := by
      unfold apT at h2
      simp only [errL.eq_2] at h2
      split at h2 <;> rename_i h4
      · split at h2
        · cases h2
        · by_cases h5 : errL [f, x] = 0
          · exact h5
          · rw [if_neg h5] at h2; exact absurd h2 h5
      · cases h2
    rw [errL_cons] at h3
    split at h3 <;> rename_i h4
    · exact ⟨⟨hf, h4⟩, ⟨hx, h3⟩⟩
    · exact absurd h3 h4
end Go.Proofs.YtfkjejpfhflanaaGreatDoor


/- Walks: how often a name stands in a term. -/
namespace Go.Proofs.YtfkjejpfhflanaaGreatDoor
open Go.RowKit
set_option linter.unusedSimpArgs false
set_option linter.unusedVariables false
set_option maxRecDepth 8000

end Go.Proofs.YtfkjejpfhflanaaGreatDoor


/- Walks: the document's brackets. -/
namespace Go.Proofs.YtfkjejpfhflanaaGreatDoor
open Go.RowKit
set_option linter.unusedSimpArgs false
set_option linter.unusedVariables false
set_option maxRecDepth 8000

end Go.Proofs.YtfkjejpfhflanaaGreatDoor


/- Walks: lambda terms without what is bound, as the document says. -/
namespace Go.Proofs.YtfkjejpfhflanaaGreatDoor
open Go.RowKit
set_option linter.unusedSimpArgs false
set_option linter.unusedVariables false
set_option maxRecDepth 8000

/-- What is told: a term, or that something is too great. -/
def CmP (o : Option Tm) (w : World) (e : Ending) (w' : World) : Prop := Below w.heap.size w w' ∧ ((∃ u a c, o = some u ∧ e = .returned (.tuple #[.agg #[.string u.name, .slice a u.args.length c], .int .i64 0]) ∧ Sl w' (fun b => w.heap.size ≤ b) a u.args) ∨ (o = none ∧ e = .returned (.tuple #[.agg #[.string ⟨#[]⟩, .slice none 0 0], .int .i64 8])))
theorem cat_nm (p : UInt8) (k : Nat) : (⟨#[p]⟩ : ByteArray) ++ ⟨(Lib.decDigits k).toArray⟩ = nmP p k := str_cat [p] (Lib.decDigits k)
end Go.Proofs.YtfkjejpfhflanaaGreatDoor


/- Walks: two answers that are terms. -/
namespace Go.Proofs.YtfkjejpfhflanaaGreatDoor
open Go.RowKit
set_option linter.unusedSimpArgs false
set_option linter.unusedVariables false

end Go.Proofs.YtfkjejpfhflanaaGreatDoor
