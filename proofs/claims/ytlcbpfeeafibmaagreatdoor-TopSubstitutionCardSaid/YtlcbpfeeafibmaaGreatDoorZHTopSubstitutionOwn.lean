/- Several texts in one. -/
import Derived.Test.YtlcbpfeeafibmaaGreatDoorZBTopSubstitutionOwn
import Derived.Test.YtlcbpfeeafibmaaGreatDoorZETopSubstitutionOwn
import Derived.Test.YtlcbpfeeafibmaaGreatDoorZDTopSubstitutionOwn
import Derived.Test.YtlcbpfeeafibmaaGreatDoorL5b
/- Lambda terms in plain: all ways of working them out come together again (by complete developments). -/
namespace Go.Proofs.YtlcbpfeeafibmaaGreatDoor

inductive PX where
  | v (i : Nat)
  | c (k : Int)
  | l (b : PX)
  | a (f x : PX)

/-- Other names for what is bound from outside. -/
def PX.upr (r : Nat → Nat) : Nat → Nat
  | 0 => 0
  | i + 1 => r i + 1
def PX.ren (r : Nat → Nat) : PX → PX
  | .v i => .v (r i)
  | .c k => .c k
  | .l b => .l (b.ren (upr r))
  | .a f x => .a (f.ren r) (x.ren r)
/-- Terms for what is bound from outside. -/
def PX.up (s : Nat → PX) : Nat → PX
  | 0 => .v 0
  | i + 1 => (s i).ren (· + 1)
def PX.sub (s : Nat → PX) : PX → PX
  | .v i => s i
  | .c k => .c k
  | .l b => .l (b.sub (up s))
  | .a f x => .a (f.sub s) (x.sub s)
/-- One term for the nearest. -/
def PX.ins (z : PX) : Nat → PX
  | 0 => z
  | i + 1 => .v i

theorem PX.upr_comp (r q : Nat → Nat) : (fun i => upr r (upr q i)) = upr (fun i => r (q i)) := by
  funext i; cases i <;> rfl
theorem PX.ren_ren (t : PX) : ∀ (r q : Nat → Nat), (t.ren q).ren r = t.ren (fun i => r (q i)) := by
  induction t with
  | v i => intro r q; rfl
  | c k => intro r q; rfl
  | l b ih => intro r q; simp only [PX.ren]; rw [ih, PX.upr_comp]
  | a f x hf hx => intro r q; simp only [PX.ren]; rw [hf, hx]
theorem PX.up_upr (s : Nat → PX) (r : Nat → Nat) : (fun i => up s (upr r i)) = up (fun i => s (r i)) := by
  funext i; cases i <;> rfl
theorem PX.sub_ren (t : PX) : ∀ (s : Nat → PX) (r : Nat → Nat), (t.ren r).sub s = t.sub (fun i => s (r i)) := by
  induction t with
  | v i => intro s r; rfl
  | c k => intro s r; rfl
  | l b ih => intro s r; simp only [PX.ren, PX.sub]; rw [ih, PX.up_upr]
  | a f x hf hx => intro s r; simp only [PX.ren, PX.sub]; rw [hf, hx]
theorem PX.ren_up (r : Nat → Nat) (s : Nat → PX) : (fun i => (up s i).ren (upr r)) = up (fun i => (s i).ren r) := by
  funext i
  cases i with
  | zero => rfl
  | succ i => simp only [PX.up]; rw [PX.ren_ren, PX.ren_ren]; rfl
theorem PX.ren_sub (t : PX) : ∀ (r : Nat → Nat) (s : Nat → PX), (t.sub s).ren r = t.sub (fun i => (s i).ren r) := by
  induction t with
  | v i => intro r s; rfl
  | c k => intro r s; rfl
  | l b ih => intro r s; simp only [PX.ren, PX.sub]; rw [ih, PX.ren_up]
  | a f x hf hx => intro r s; simp only [PX.ren, PX.sub]; rw [hf, hx]
theorem PX.sub_up (s q : Nat → PX) : (fun i => (up q i).sub (up s)) = up (fun i => (q i).sub s) := by
  funext i
  cases i with
  | zero => rfl
  | succ i => simp only [PX.up]; rw [PX.sub_ren, PX.ren_sub]; rfl
theorem PX.sub_sub (t : PX) : ∀ (s q : Nat → PX), (t.sub q).sub s = t.sub (fun i => (q i).sub s) := by
  induction t with
  | v i => intro s q; rfl
  | c k => intro s q; rfl
  | l b ih => intro s q; simp only [PX.sub]; rw [ih, PX.sub_up]
  | a f x hf hx => intro s q; simp only [PX.sub]; rw [hf, hx]
theorem PX.up_v : up PX.v = PX.v := by funext i; cases i <;> rfl
theorem PX.sub_v (t : PX) : t.sub PX.v = t := by
  induction t with
  | v i => rfl
  | c k => rfl
  | l b ih => simp only [PX.sub]; rw [PX.up_v, ih]
  | a f x hf hx => simp only [PX.sub]; rw [hf, hx]
theorem PX.ren_is (t : PX) : ∀ (r : Nat → Nat), t.ren r = t.sub (fun i => .v (r i)) := by
  induction t with
  | v i => intro r; rfl
  | c k => intro r; rfl
  | l b ih =>
    intro r; simp only [PX.ren, PX.sub]; rw [ih]
    congr 2
    funext i; cases i <;> rfl
  | a f x hf hx => intro r; simp only [PX.ren, PX.sub]; rw [hf, hx]
/-- Terms put into what was put in. -/
theorem PX.sub_ins (s : Nat → PX) (z b : PX) : (b.sub (ins z)).sub s = (b.sub (up s)).sub (ins (z.sub s)) := by
  rw [PX.sub_sub, PX.sub_sub]
  congr 1
  funext i
  cases i with
  | zero => rfl
  | succ i =>
    simp only [PX.ins, PX.up, PX.sub]
    rw [PX.sub_ren]
    exact (PX.sub_v (s i)).symm
theorem PX.ren_ins (r : Nat → Nat) (z b : PX) : (b.sub (ins z)).ren r = (b.ren (upr r)).sub (ins (z.ren r)) := by
  rw [PX.ren_is, PX.sub_ins, PX.ren_is z r, PX.ren_is b (upr r)]
  congr 2
  funext i; cases i <;> rfl

/-- Some steps at once. -/
inductive PX.Par : PX → PX → Prop where
  | v (i : Nat) : Par (.v i) (.v i)
  | c (k : Int) : Par (.c k) (.c k)
  | l {b b' : PX} : Par b b' → Par (.l b) (.l b')
  | a {f f' x x' : PX} : Par f f' → Par x x' → Par (.a f x) (.a f' x')
  | b {b b' x x' : PX} : Par b b' → Par x x' → Par (.a (.l b) x) (b'.sub (ins x'))
theorem PX.Par.refl : ∀ t : PX, Par t t
  | .v i => .v i
  | .c k => .c k
  | .l y => .l (Par.refl y)
  | .a f x => .a (Par.refl f) (Par.refl x)
theorem PX.Par.ren {t s : PX} (h : Par t s) : ∀ r : Nat → Nat, Par (t.ren r) (s.ren r) := by
  induction h with
  | v i => intro r; exact .v _
  | c k => intro r; exact .c _
  | l _ ih => intro r; exact .l (ih _)
  | a _ _ h1 h2 => intro r; exact .a (h1 _) (h2 _)
  | b _ _ h1 h2 => intro r; rw [PX.ren_ins]; exact .b (h1 _) (h2 _)
theorem PX.Par.up {s s' : Nat → PX} (h : ∀ i, Par (s i) (s' i)) : ∀ i, Par (PX.up s i) (PX.up s' i)
  | 0 => .v 0
  | i + 1 => (h i).ren _
theorem PX.Par.sub {t t' : PX} (h : Par t t') : ∀ {s s' : Nat → PX}, (∀ i, Par (s i) (s' i)) → Par (t.sub s) (t'.sub s') := by
  induction h with
  | v i => intro s s' hs; exact hs i
  | c k => intro s s' hs; exact .c k
  | l _ ih => intro s s' hs; exact .l (ih (PX.Par.up hs))
  | a _ _ h1 h2 => intro s s' hs; exact .a (h1 hs) (h2 hs)
  | b _ _ h1 h2 => intro s s' hs; rw [PX.sub_ins]; exact .b (h1 (PX.Par.up hs)) (h2 hs)
theorem PX.Par.ins {z z' b b' : PX} (hz : Par z z') (hb : Par b b') : Par (b.sub (PX.ins z)) (b'.sub (PX.ins z')) :=
  hb.sub fun i => by cases i with | zero => exact hz | succ i => exact .v i

/-- All steps at once. -/
def PX.dev : PX → PX
  | .v i => .v i
  | .c k => .c k
  | .l b => .l b.dev
  | .a (.l b) x => b.dev.sub (ins x.dev)
  | .a f x => .a f.dev x.dev
theorem PX.Par.lam {b t : PX} (h : Par (.l b) t) : ∃ b', t = .l b' ∧ Par b b' := by
  cases h with
  | l h => exact ⟨_, rfl, h⟩
theorem PX.taka {t s : PX} (h : Par t s) : Par s t.dev := by
  induction h with
  | v i => exact .v i
  | c k => exact .c k
  | l _ ih => exact .l ih
  | @a f f' x x' h1 h2 i1 i2 =>
    cases f with
    | v i => exact .a i1 i2
    | c k => exact .a i1 i2
    | a g y => exact .a i1 i2
    | l b =>
      obtain ⟨b', rfl, hb⟩ := h1.lam
      simp only [PX.dev]
      have i1' : Par (.l b') (.l b.dev) := i1
      obtain ⟨b2, e, hb2⟩ := i1'.lam
      cases e
      exact .b hb2 i2
  | b _ _ i1 i2 => exact PX.Par.ins i2 i1

/-- Again and again. -/
inductive PX.Pars : PX → PX → Prop where
  | refl (t : PX) : Pars t t
  | tail {t s u : PX} : Pars t s → Par s u → Pars t u
theorem PX.Pars.trans {t s u : PX} (h : Pars t s) (k : Pars s u) : Pars t u := by
  induction k with
  | refl => exact h
  | tail _ h2 ih => exact .tail ih h2
theorem PX.Pars.one {t s : PX} (h : Par t s) : Pars t s := .tail (.refl t) h
theorem PX.strip {t s u : PX} (h : Par t s) (k : Pars t u) : ∃ w, Pars s w ∧ Par u w := by
  induction k with
  | refl => exact ⟨s, .refl s, h⟩
  | tail _ h2 ih =>
    obtain ⟨w, h3, h4⟩ := ih
    exact ⟨_, h3.tail (PX.taka h4), PX.taka h2⟩
/-- CHURCH, ROSSER. -/
theorem PX.meet {t s u : PX} (h : Pars t s) (k : Pars t u) : ∃ w, Pars s w ∧ Pars u w := by
  induction h with
  | refl => exact ⟨u, k, .refl u⟩
  | tail _ h2 ih =>
    obtain ⟨w, h3, h4⟩ := ih
    obtain ⟨x, h5, h6⟩ := PX.strip h2 h3
    exact ⟨x, h5, h4.tail h6⟩

/-- Is there a step? -/
def PX.isl : PX → Bool
  | .l _ => true
  | _ => false
def PX.st : PX → Bool
  | .v _ => false
  | .c _ => false
  | .l b => b.st
  | .a f x => f.isl || f.st || x.st
theorem PX.Par.nf {t s : PX} (h : Par t s) : t.st = false → s = t := by
  induction h with
  | v i => intro _; rfl
  | c k => intro _; rfl
  | l _ ih => intro hn; rw [ih hn]
  | a _ _ h1 h2 => intro hn; simp [PX.st] at hn; rw [h1 hn.1.2, h2 hn.2]
  | b _ _ _ _ => intro hn; simp [PX.st, PX.isl] at hn
theorem PX.Pars.nf {t s : PX} (h : Pars t s) (hn : t.st = false) : s = t := by
  induction h with
  | refl => rfl
  | tail _ h2 ih => subst ih; exact h2.nf hn
/-- One end alone. -/
theorem PX.only {t s u : PX} (h : Pars t s) (k : Pars t u) (hs : s.st = false) (hu : u.st = false) : s = u := by
  obtain ⟨w, h1, h2⟩ := PX.meet h k
  rw [← h1.nf hs, ← h2.nf hu]
#print axioms PX.only
#print axioms PX.taka
end Go.Proofs.YtlcbpfeeafibmaaGreatDoor

/- Plain: what a lambda term develops to. -/
namespace Go.Proofs.YtlcbpfeeafibmaaGreatDoor
open Go.RowKit
set_option linter.unusedSimpArgs false
set_option linter.unusedVariables false
set_option maxRecDepth 8000

theorem hig_size (y : Int) (l : List Lm) : ∀ d, LfM l → sizeM (higM y d l) = sizeM l := by
  induction l using Lm.indL with
  | h0 => intro d _; simp [higM]
  | h k x l r ihl ihr =>
    intro d h
    obtain ⟨h1, h2, h3⟩ := (LfM_cons k x l r).1 h
    rw [higM]
    by_cases hk : k = 1
    · rw [if_pos hk, h1 hk]
      split <;> simp [sizeM, ihr d h3]
    · rw [if_neg hk]
      simp [sizeM, ihr d h3, ihl _ h2]
theorem higT_size {y d : Int} {t : Lm} (h : LfM [t]) : sizeM [higT y d t] = sizeM [t] := by
  have := hig_size y [t] d h
  rw [higM_map] at this
  exact this
/-- How great a term becomes. -/
theorem ins_size (z : Lm) (hz : LfM [z]) (l : List Lm) : ∀ d, LfM l → sizeM (insM z d l) + usesM d l = sizeM l + usesM d l * sizeM [z] := by
  induction l using Lm.indL with
  | h0 => intro d _; simp [insM, usesM]
  | h k x l r ihl ihr =>
    intro d h
    obtain ⟨h1, h2, h3⟩ := (LfM_cons k x l r).1 h
    have h4 := ihr d h3
    have e0 : sizeM (⟨k, x, l⟩ :: r) = 1 + sizeM l + sizeM r := by simp [sizeM]
    rw [insM, usesM, e0]
    by_cases hk : k = 1
    · subst hk
      rw [h1 rfl]
      simp only [if_true]
      have e1 : ∀ (t : Lm) (r' : List Lm), sizeM (t :: r') = sizeM [t] + sizeM r' := fun t r' => sizeM_append [t] r'
      by_cases hx : x < d
      · rw [if_pos hx, if_neg (by omega), e1]
        simp [sizeM] at h4 ⊢
        omega
      · rw [if_neg hx]
        by_cases hd : x = d
        · rw [if_pos hd, if_pos hd, e1, higT_size hz]
          simp [sizeM, Nat.add_mul]
          omega
        · rw [if_neg hd, if_neg hd, e1]
          simp [sizeM] at h4 ⊢
          omega
    · rw [if_neg hk, if_neg hk]
      have h5 := ihl (deepK d k) h2
      have e1 : sizeM (⟨k, x, insM z (deepK d k) l⟩ :: insM z d r) = 1 + sizeM (insM z (deepK d k) l) + sizeM (insM z d r) := by simp [sizeM]
      rw [e1, Nat.add_mul]
      omega
theorem insT_size {z t : Lm} {d : Int} (hz : LfM [z]) (ht : LfM [t]) : sizeM [insT z d t] + usesM d [t] = sizeM [t] + usesM d [t] * sizeM [z] := by
  have := ins_size z hz [t] d ht
  rw [insM_map] at this
  exact this
/-- The same, as it is asked. -/
theorem insT_sizeI {z t : Lm} (hz : LfM [z]) (ht : LfM [t]) : ((sizeM [insT z 0 t] : Nat) : Int) = (sizeM [t] : Int) + (usesM 0 [t] : Int) * ((sizeM [z] : Int) - 1) := by
  have h := insT_size (d := 0) hz ht
  have h2 : ((sizeM [insT z 0 t] + usesM 0 [t] : Nat) : Int) = ((sizeM [t] + usesM 0 [t] * sizeM [z] : Nat) : Int) := by rw [h]
  rw [Int.natCast_add, Int.natCast_add, Int.natCast_mul] at h2
  rw [Int.mul_sub, Int.mul_one]
  omega

/-- All of a list developed; none where one is too great. -/
def devL (f : Lm → Option Lm) : List Lm → Option (List Lm)
  | [] => some []
  | y :: r => match f y with
    | none => none
    | some z => match devL f r with
      | none => none
      | some q => some (z :: q)
/-- What a knot comes to. -/
def devK (k x : Int) (l l' : List Lm) : Lm := if rdxT ⟨k, x, l⟩ = true then conT l' else ⟨k, x, l'⟩
def devT : Nat → Lm → Option Lm
  | 0, _ => none
  | n + 1, ⟨k, x, l⟩ => match devL (devT n) l with
    | none => none
    | some l' => if 2000 < sizeM [devK k x l l'] then none else some (devK k x l l')
theorem devL_cons (f : Lm → Option Lm) (y : Lm) (r : List Lm) : devL f (y :: r) = match f y with
    | none => none
    | some z => match devL f r with
      | none => none
      | some q => some (z :: q) := rfl
theorem devL_append (f : Lm → Option Lm) : ∀ (a b : List Lm) (a' : List Lm), devL f a = some a' → devL f (a ++ b) = (devL f b).map (a' ++ ·)
  | [], b, a', h => by
    simp [devL] at h
    subst h
    rw [List.nil_append]
    cases devL f b <;> simp
  | y :: r, b, a', h => by
    rw [devL_cons] at h
    rw [List.cons_append, devL_cons]
    cases hy : f y with
    | none => rw [hy] at h; cases h
    | some z =>
      rw [hy] at h
      cases hr : devL f r with
      | none => rw [hr] at h; cases h
      | some q =>
        rw [hr] at h
        simp at h
        subst h
        simp only [devL_append f r b q hr]
        cases devL f b <;> simp
theorem devL_step {f : Lm → Option Lm} {l out : List Lm} {q : Nat} (h : q < l.length) (ho : devL f (l.take q) = some out) {z : Lm} (hz : f l[q] = some z) : devL f (l.take (q + 1)) = some (out ++ [z]) := by
  rw [List.take_succ_eq_append_getElem h, devL_append f _ _ _ ho]
  simp [devL, hz]
theorem devL_stop {f : Lm → Option Lm} {l out : List Lm} {q : Nat} (h : q < l.length) (ho : devL f (l.take q) = some out) (hz : f l[q] = none) : devL f l = none := by
  have e : l = l.take q ++ l[q] :: l.drop (q + 1) := by rw [← List.drop_eq_getElem_cons h, List.take_append_drop]
  rw [e, devL_append f _ _ _ ho]
  simp [devL, hz]
theorem devL_len {f : Lm → Option Lm} : ∀ {l l' : List Lm}, devL f l = some l' → l'.length = l.length
  | [], l', h => by simp [devL] at h; subst h; rfl
  | y :: r, l', h => by
    rw [devL_cons] at h
    cases hy : f y with
    | none => rw [hy] at h; cases h
    | some z =>
      rw [hy] at h
      cases hr : devL f r with
      | none => rw [hr] at h; cases h
      | some q =>
        rw [hr] at h
        simp at h
        subst h
        simp [devL_len hr]
theorem devL_mem {f : Lm → Option Lm} : ∀ {l l' : List Lm}, devL f l = some l' → ∀ z ∈ l', ∃ y ∈ l, f y = some z
  | [], l', h, z, hz => by simp [devL] at h; subst h; cases hz
  | y :: r, l', h, z, hz => by
    rw [devL_cons] at h
    cases hy : f y with
    | none => rw [hy] at h; cases h
    | some z0 =>
      rw [hy] at h
      cases hr : devL f r with
      | none => rw [hr] at h; cases h
      | some q =>
        rw [hr] at h
        simp at h
        subst h
        rcases List.mem_cons.1 hz with rfl | hz
        · exact ⟨y, by simp, hy⟩
        · obtain ⟨y', h1, h2⟩ := devL_mem hr z hz
          exact ⟨y', by simp [h1], h2⟩
theorem devT_succ {n : Nat} {k x : Int} {l l' : List Lm} (h : devL (devT n) l = some l') : devT (n + 1) ⟨k, x, l⟩ = if 2000 < sizeM [devK k x l l'] then none else some (devK k x l l') := by
  rw [devT, h]
theorem devT_none {n : Nat} {k x : Int} {l : List Lm} (h : devL (devT n) l = none) : devT (n + 1) ⟨k, x, l⟩ = none := by
  rw [devT, h]
/-- A binder stays a binder. -/
theorem devT_lam {n : Nat} {x : Int} {b t' : Lm} (h : devT n ⟨2, x, [b]⟩ = some t') : ∃ b', t' = ⟨2, x, [b']⟩ := by
  cases n with
  | zero => simp [devT] at h
  | succ n =>
    cases hl : devL (devT n) [b] with
    | none => rw [devT_none hl] at h; cases h
    | some l' =>
      rw [devT_succ hl] at h
      have h1 := devL_len hl
      split at h
      · cases h
      · have e : devK 2 x [b] l' = ⟨2, x, l'⟩ := by unfold devK rdxT; simp
        rw [e] at h
        obtain ⟨b', rfl⟩ := List.length_eq_one_iff.1 h1
        exact ⟨b', by simpa using h.symm⟩
theorem err_dev (m : Int) (n : Nat) : ∀ (t t' : Lm) (u : Int), 0 ≤ u → errM u m [t] = 0 → devT n t = some t' → errM u m [t'] = 0 ∧ sizeM [t'] ≤ 2000 := by
  induction n with
  | zero => intro t t' u _ _ h; simp [devT] at h
  | succ n ih =>
    rintro ⟨k, x, l⟩ t' u hu he h
    cases hl : devL (devT n) l with
    | none => rw [devT_none hl] at h; cases h
    | some l' =>
      rw [devT_succ hl] at h
      split at h
      · cases h
      · rename_i hz
        simp at h
        subst h
        refine ⟨?_, by omega⟩
        obtain ⟨h3, h4⟩ := err_one0.1 he
        have hd : 0 ≤ deepK u k := by unfold deepK; split <;> omega
        have h5 : errM (deepK u k) m l' = 0 := err_all0.2 fun y hy => by
          obtain ⟨y0, h1, h2⟩ := devL_mem hl y hy
          exact (ih _ _ _ hd (err_all0.1 h4 y0 h1) h2).1
        unfold devK
        split
        · rename_i hr
          obtain ⟨x', i, b, z, e, h1, h2⟩ := subs_two he hr
          cases e
          rw [devL_cons] at hl
          cases hf : devT n ⟨2, i, [b]⟩ with
          | none => rw [hf] at hl; cases hl
          | some f' =>
            rw [hf] at hl
            obtain ⟨b', rfl⟩ := devT_lam hf
            cases hzz : devL (devT n) [z] with
            | none => rw [hzz] at hl; cases hl
            | some lz =>
              rw [hzz] at hl
              obtain ⟨z', rfl⟩ := List.length_eq_one_iff.1 (devL_len hzz)
              simp at hl
              subst hl
              have e3 : deepK u 3 = u := by simp [deepK]
              rw [e3] at h5
              obtain ⟨p1, p2⟩ := err_two0.1 h5
              have e2 : deepK u 2 = u + 1 := by simp [deepK]
              have p3 := (err_one0.1 p1).2
              rw [e2] at p3
              exact err_insT hu p2 p3
        · exact err_one0.2 ⟨by rw [devL_len hl]; exact h3, h5⟩
#print axioms insT_sizeI
#print axioms err_dev
end Go.Proofs.YtlcbpfeeafibmaaGreatDoor

/- Plain: lambda terms that may be, as those whose ways come together again. -/
namespace Go.Proofs.YtlcbpfeeafibmaaGreatDoor
open Go.RowKit
set_option linter.unusedSimpArgs false
set_option linter.unusedVariables false
set_option maxRecDepth 8000

/-- The lambda term that it is. -/
def PX.m : PX → Lm
  | .v i => ⟨1, (i : Int), []⟩
  | .c k => ⟨4, k, []⟩
  | .l b => ⟨2, 0, [b.m]⟩
  | .a f x => ⟨3, 0, [f.m, x.m]⟩
theorem px_of (t : Lm) : ∀ u, errM u 0 [t] = 0 → ∃ p : PX, p.m = t := by
  induction t using Lm.ind with
  | h k x l ih =>
    intro u he
    rcases may_look he with ⟨y, e, h0, h1⟩ | ⟨b, e, hb⟩ | ⟨f, a, e, hf, ha⟩ | ⟨y, e, h0, h1⟩
    · cases e
      exact ⟨.v x.toNat, by simp only [PX.m]; congr 1; omega⟩
    · cases e
      obtain ⟨p, hp⟩ := ih b (by simp) _ hb
      exact ⟨.l p, by simp only [PX.m, hp]⟩
    · cases e
      obtain ⟨p, hp⟩ := ih f (by simp) _ hf
      obtain ⟨q, hq⟩ := ih a (by simp) _ ha
      exact ⟨.a p q, by simp only [PX.m, hp, hq]⟩
    · cases e
      exact ⟨.c x, rfl⟩
theorem px_inj : ∀ {p q : PX}, p.m = q.m → p = q
  | .v i, .v j, h => by simp only [PX.m, Lm.mk.injEq] at h; congr 1; omega
  | .c i, .c j, h => by simp only [PX.m, Lm.mk.injEq] at h; rw [h.2.1]
  | .l b, .l d, h => by
    simp only [PX.m, Lm.mk.injEq, List.cons.injEq, and_true, true_and] at h
    rw [px_inj h]
  | .a f x, .a g y, h => by
    simp only [PX.m, Lm.mk.injEq, List.cons.injEq, and_true, true_and] at h
    rw [px_inj h.1, px_inj h.2]
  | .v i, .c j, h => by simp [PX.m] at h
  | .v i, .l j, h => by simp [PX.m] at h
  | .v i, .a f x, h => by simp [PX.m] at h
  | .c i, .v j, h => by simp [PX.m] at h
  | .c i, .l j, h => by simp [PX.m] at h
  | .c i, .a f x, h => by simp [PX.m] at h
  | .l i, .v j, h => by simp [PX.m] at h
  | .l i, .c j, h => by simp [PX.m] at h
  | .l i, .a f x, h => by simp [PX.m] at h
  | .a f x, .v j, h => by simp [PX.m] at h
  | .a f x, .c j, h => by simp [PX.m] at h
  | .a f x, .l j, h => by simp [PX.m] at h

theorem hgT_v (y d x : Int) : higT y d ⟨1, x, []⟩ = if x < d then ⟨1, x, []⟩ else ⟨1, x + y, []⟩ := by
  unfold higT
  by_cases h : x < d <;> simp [h]
theorem hgT_o (y d k x : Int) (l : List Lm) (hk : k ≠ 1) : higT y d ⟨k, x, l⟩ = ⟨k, x, l.map (higT y (deepK d k))⟩ := by
  rw [← higM_map]
  unfold higT
  simp [hk]
theorem isT_v (z : Lm) (d x : Int) : insT z d ⟨1, x, []⟩ = if x < d then ⟨1, x, []⟩ else if x = d then higT d 0 z else ⟨1, x - 1, []⟩ := by
  unfold insT
  by_cases h : x < d <;> simp [h]
theorem isT_o (z : Lm) (d k x : Int) (l : List Lm) (hk : k ≠ 1) : insT z d ⟨k, x, l⟩ = ⟨k, x, l.map (insT z (deepK d k))⟩ := by
  rw [← insM_map]
  unfold insT
  simp [hk]
/-- Moved on by so many, from so many binders on. -/
def PX.mv (y d : Nat) (i : Nat) : Nat := if i < d then i else i + y
theorem PX.mv_up (y d : Nat) : upr (mv y d) = mv y (d + 1) := by
  funext i
  cases i with
  | zero => simp [PX.upr, PX.mv]
  | succ i =>
    simp only [PX.upr, PX.mv]
    by_cases h : i < d
    · rw [if_pos h, if_pos (by omega)]
    · rw [if_neg h, if_neg (by omega)]; omega
theorem px_hig (y : Nat) : ∀ (p : PX) (d : Nat), higT (y : Int) (d : Int) p.m = (p.ren (PX.mv y d)).m
  | .v i, d => by
    simp only [PX.m, PX.ren, PX.mv]
    rw [hgT_v]
    by_cases h : i < d
    · rw [if_pos (by omega), if_pos h]
    · rw [if_neg (by omega), if_neg h]; simp
  | .c k, d => by simp only [PX.m, PX.ren]; rw [hgT_o _ _ _ _ _ (by decide)]; rfl
  | .l b, d => by
    have h1 := px_hig y b (d + 1)
    simp only [PX.m, PX.ren]
    have e : deepK (d : Int) 2 = ((d + 1 : Nat) : Int) := by simp [deepK]
    rw [hgT_o _ _ _ _ _ (by decide), e, PX.mv_up, ← h1]
    rfl
  | .a f x, d => by
    have h1 := px_hig y f d
    have h2 := px_hig y x d
    simp only [PX.m, PX.ren]
    have e : deepK (d : Int) 3 = (d : Int) := by simp [deepK]
    rw [hgT_o _ _ _ _ _ (by decide), e, ← h1, ← h2]
    rfl
/-- A term for what is bound so many binders around. -/
def PX.inAt (z : PX) (d : Nat) (i : Nat) : PX := if i < d then .v i else if i = d then z.ren (· + d) else .v (i - 1)
theorem PX.inAt_up (z : PX) (d : Nat) : up (inAt z d) = inAt z (d + 1) := by
  funext i
  cases i with
  | zero => simp [PX.up, PX.inAt]
  | succ i =>
    simp only [PX.up, PX.inAt]
    by_cases h : i < d
    · rw [if_pos h, if_pos (by omega)]; rfl
    · rw [if_neg h, if_neg (by omega : ¬ i + 1 < d + 1)]
      by_cases h2 : i = d
      · rw [if_pos h2, if_pos (by omega), PX.ren_ren]; rfl
      · rw [if_neg h2, if_neg (by omega)]
        simp only [PX.ren]
        congr 1
        omega
theorem PX.inAt_zero (z : PX) : inAt z 0 = ins z := by
  funext i
  cases i with
  | zero =>
    simp only [PX.inAt, PX.ins]
    rw [if_neg (by omega), if_pos trivial]
    rw [PX.ren_is]
    exact PX.sub_v z
  | succ i => simp [PX.inAt, PX.ins]
theorem px_insAt (z : PX) : ∀ (p : PX) (d : Nat), insT z.m (d : Int) p.m = (p.sub (PX.inAt z d)).m
  | .v i, d => by
    simp only [PX.m, PX.sub, PX.inAt]
    rw [isT_v]
    by_cases h : i < d
    · rw [if_pos (by omega), if_pos h]; rfl
    · rw [if_neg (by omega), if_neg h]
      by_cases h2 : i = d
      · rw [if_pos (by omega), if_pos h2]
        have := px_hig d z 0
        rw [show ((0 : Nat) : Int) = 0 from rfl] at this
        rw [this]
        congr 1
      · rw [if_neg (by omega), if_neg h2]
        simp only [PX.m]
        congr 1
        omega
  | .c k, d => by simp only [PX.m, PX.sub]; rw [isT_o _ _ _ _ _ (by decide)]; rfl
  | .l b, d => by
    have h1 := px_insAt z b (d + 1)
    simp only [PX.m, PX.sub]
    have e : deepK (d : Int) 2 = ((d + 1 : Nat) : Int) := by simp [deepK]
    rw [isT_o _ _ _ _ _ (by decide), e, PX.inAt_up, ← h1]
    rfl
  | .a f x, d => by
    have h1 := px_insAt z f d
    have h2 := px_insAt z x d
    simp only [PX.m, PX.sub]
    have e : deepK (d : Int) 3 = (d : Int) := by simp [deepK]
    rw [isT_o _ _ _ _ _ (by decide), e, ← h1, ← h2]
    rfl
theorem px_ins (z p : PX) : insT z.m 0 p.m = (p.sub (PX.ins z)).m := by
  have := px_insAt z p 0
  rw [PX.inAt_zero] at this
  exact this

/-- Is there a step? -/
theorem px_isl (p : PX) : decide (p.m.kind = 2) = p.isl := by cases p <;> simp [PX.m, PX.isl]
theorem px_st : ∀ p : PX, stepM [p.m] = p.st
  | .v i => by simp [PX.m, stepM, rdxT, PX.st]
  | .c k => by simp [PX.m, stepM, rdxT, PX.st]
  | .l b => by
    have h := px_st b
    simp only [PX.m, PX.st]
    rw [stepM_one, h]
    simp [rdxT]
  | .a f x => by
    have h1 := px_st f
    have h2 := px_st x
    simp only [PX.m, PX.st]
    rw [stepM_one]
    have h3 : stepM [f.m, x.m] = (stepM [f.m] || stepM [x.m]) := stepM_append [f.m] [x.m]
    rw [h3, h1, h2, ← px_isl f]
    simp [rdxT, Bool.or_assoc]
theorem px_rdx {f x : PX} (h : rdxT (PX.a f x).m = true) : ∃ b, f = .l b := by
  cases f with
  | l b => exact ⟨b, rfl⟩
  | v i => simp [PX.m, rdxT] at h
  | c k => simp [PX.m, rdxT] at h
  | a g y => simp [PX.m, rdxT] at h
theorem px_rdx_app {p : PX} (h : rdxT p.m = true) : ∃ b x, p = .a (.l b) x := by
  cases p with
  | v i => simp [PX.m, rdxT] at h
  | c k => simp [PX.m, rdxT] at h
  | l b => simp [PX.m, rdxT] at h
  | a f x => obtain ⟨b, rfl⟩ := px_rdx h; exact ⟨b, x, rfl⟩
theorem px_con (b x : PX) : conT [(PX.l b).m, x.m] = (b.sub (PX.ins x)).m := by
  show insT x.m 0 b.m = _
  exact px_ins x b

/-- The first step is one. -/
theorem px_stp (inn : Bool) : ∀ (n : Nat) (p : PX), ∃ q : PX, stpT inn n p.m = q.m ∧ PX.Par p q
  | 0, p => ⟨p, rfl, .refl p⟩
  | n + 1, p => by
    cases hh : hereT inn p.m with
    | true =>
      have hr : rdxT p.m = true := by unfold hereT at hh; simp at hh; exact hh.1
      obtain ⟨b, x, rfl⟩ := px_rdx_app hr
      refine ⟨b.sub (PX.ins x), ?_, .b (.refl b) (.refl x)⟩
      rw [← px_con]
      show stpT inn (n + 1) ⟨3, 0, [(PX.l b).m, x.m]⟩ = _
      have hh2 : hereT inn (⟨3, 0, [(PX.l b).m, x.m]⟩ : Lm) = true := hh
      rw [stpT, if_pos hh2]
    | false =>
      cases p with
      | v i => exact ⟨.v i, by simp only [PX.m] at hh ⊢; rw [stpT, if_neg (by rw [hh]; simp)]; rfl, .v i⟩
      | c k => exact ⟨.c k, by simp only [PX.m] at hh ⊢; rw [stpT, if_neg (by rw [hh]; simp)]; rfl, .c k⟩
      | l b =>
        obtain ⟨q, h1, h2⟩ := px_stp inn n b
        simp only [PX.m] at hh ⊢
        rw [stpT, if_neg (by rw [hh]; simp), repF]
        by_cases hs : stepM [b.m] = true
        · rw [if_pos hs, h1]; exact ⟨.l q, rfl, .l h2⟩
        · rw [if_neg hs]; exact ⟨.l b, rfl, .refl _⟩
      | a f x =>
        obtain ⟨q, h1, h2⟩ := px_stp inn n f
        obtain ⟨r, h3, h4⟩ := px_stp inn n x
        simp only [PX.m] at hh ⊢
        rw [stpT, if_neg (by rw [hh]; simp), repF]
        by_cases hs : stepM [f.m] = true
        · rw [if_pos hs, h1]; exact ⟨.a q x, rfl, .a h2 (.refl x)⟩
        · rw [if_neg hs, repF]
          by_cases hs2 : stepM [x.m] = true
          · rw [if_pos hs2, h3]; exact ⟨.a f r, rfl, .a (.refl f) h4⟩
          · rw [if_neg hs2]; exact ⟨.a f x, rfl, .refl _⟩
/-- What it becomes at last comes of it, and has no step. -/
theorem px_end (inn : Bool) : ∀ (k : Nat) (p : PX) (r : Lm) (j : Nat), endM inn k p.m = (0, r, j) → ∃ q : PX, r = q.m ∧ PX.Pars p q ∧ q.st = false ∧ (j = 0 ↔ p.st = false)
  | 0, p, r, j, h => by
    rw [endM] at h
    by_cases hs : stepM [p.m] = true
    · rw [if_pos hs] at h; simp at h
    · rw [if_neg hs] at h
      simp only [Prod.mk.injEq, true_and] at h
      have hn : p.st = false := by rw [← px_st]; simpa using hs
      exact ⟨p, h.1.symm, .refl p, hn, fun _ => hn, fun _ => h.2.symm⟩
  | k + 1, p, r, j, h => by
    rw [endM] at h
    by_cases hs : stepM [p.m] = true
    · rw [if_pos hs] at h
      by_cases hz : 2000 < sizeM [stpT inn 2001 p.m]
      · rw [if_pos hz] at h; simp at h
      · rw [if_neg hz] at h
        obtain ⟨q, h1, h2⟩ := px_stp inn 2001 p
        rw [h1] at h
        generalize hg : endM inn k q.m = g at h
        obtain ⟨g1, g2, g3⟩ := g
        simp only [Prod.mk.injEq] at h
        obtain ⟨rfl, rfl, rfl⟩ := h
        obtain ⟨q', h3, h4, h5, _⟩ := px_end inn k q _ _ hg
        have hn : p.st = true := by rw [← px_st]; exact hs
        exact ⟨q', h3, (PX.Pars.one h2).trans h4, h5, fun h => by omega, fun h => by rw [hn] at h; cases h⟩
    · rw [if_neg hs] at h
      simp only [Prod.mk.injEq, true_and] at h
      have hn : p.st = false := by rw [← px_st]; simpa using hs
      exact ⟨p, h.1.symm, .refl p, hn, fun _ => hn, fun _ => h.2.symm⟩
/-- Each step that is told is one. -/
theorem px_hnd : ∀ (n : Nat) (p : PX) (e : Hnd), e ∈ hndT n p.m → ∃ q : PX, e.2.2 = q.m ∧ PX.Par p q
  | 0, p, e, h => by simp [hndT] at h
  | n + 1, p, e, h => by
    have key : ∀ (k x : Int) (l : List Lm), p.m = ⟨k, x, l⟩ → e ∈ hndH ⟨k, x, l⟩ ∨ ∃ (q : Nat) (hq : q < l.length) (e' : Hnd), e' ∈ hndT n l[q] ∧ e.2.2 = ⟨k, x, l.set q e'.2.2⟩ := by
      intro k x l hp
      rw [hp, hndT] at h
      rcases List.mem_append.1 h with h | h
      · exact Or.inl h
      · obtain ⟨q, hq, e', h1, h2⟩ := hndR_mem h
        exact Or.inr ⟨q, hq, e', h1, by rw [h2]; rfl⟩
    cases p with
    | v i =>
      rcases key 1 i [] rfl with h1 | ⟨q, hq, _⟩
      · simp [hndH, rdxT] at h1
      · simp at hq
    | c k =>
      rcases key 4 k [] rfl with h1 | ⟨q, hq, _⟩
      · simp [hndH, rdxT] at h1
      · simp at hq
    | l b =>
      rcases key 2 0 [b.m] rfl with h1 | ⟨q, hq, e', h1, h2⟩
      · simp [hndH, rdxT] at h1
      · have hq0 : q = 0 := by simp at hq; exact hq
        subst hq0
        obtain ⟨r, h3, h4⟩ := px_hnd n b e' h1
        exact ⟨.l r, by rw [h2, h3]; rfl, .l h4⟩
    | a f x =>
      rcases key 3 0 [f.m, x.m] rfl with h1 | ⟨q, hq, e', h1, h2⟩
      · unfold hndH at h1
        by_cases hr : rdxT (⟨3, 0, [f.m, x.m]⟩ : Lm) = true
        · rw [if_pos hr] at h1
          obtain ⟨b, rfl⟩ := px_rdx (f := f) (x := x) hr
          simp only [List.mem_singleton] at h1
          have e2 : e.2.2 = conT [(PX.l b).m, x.m] := by rw [h1]; unfold hndC; split <;> rfl
          exact ⟨b.sub (PX.ins x), by rw [e2, px_con], .b (.refl b) (.refl x)⟩
        · rw [if_neg hr] at h1; simp at h1
      · have hq2 : q = 0 ∨ q = 1 := by simp at hq; omega
        rcases hq2 with rfl | rfl
        · obtain ⟨r, h3, h4⟩ := px_hnd n f e' h1
          exact ⟨.a r x, by rw [h2, h3]; rfl, .a h4 (.refl x)⟩
        · obtain ⟨r, h3, h4⟩ := px_hnd n x e' h1
          exact ⟨.a f r, by rw [h2, h3]; rfl, .a (.refl f) h4⟩
/-- The development is all steps at once. -/
theorem px_dev : ∀ (n : Nat) (p : PX) (r : Lm), devT n p.m = some r → r = p.dev.m
  | 0, p, r, h => by simp [devT] at h
  | n + 1, p, r, h => by
    have key : ∀ (k x : Int) (l : List Lm), p.m = ⟨k, x, l⟩ → ∃ l', devL (devT n) l = some l' ∧ r = devK k x l l' := by
      intro k x l hp
      rw [hp, devT] at h
      cases hd : devL (devT n) l with
      | none => rw [hd] at h; simp at h
      | some l' =>
        rw [hd] at h
        simp only at h
        split at h
        · cases h
        · exact ⟨l', rfl, (Option.some.inj h).symm⟩
    cases p with
    | v i =>
      obtain ⟨l', h1, h2⟩ := key 1 i [] rfl
      simp [devL] at h1
      subst h1
      rw [h2]
      simp [devK, rdxT, PX.dev, PX.m]
    | c k =>
      obtain ⟨l', h1, h2⟩ := key 4 k [] rfl
      simp [devL] at h1
      subst h1
      rw [h2]
      simp [devK, rdxT, PX.dev, PX.m]
    | l b =>
      obtain ⟨l', h1, h2⟩ := key 2 0 [b.m] rfl
      rw [devL_cons] at h1
      cases hb : devT n b.m with
      | none => rw [hb] at h1; simp at h1
      | some z =>
        rw [hb] at h1
        simp [devL] at h1
        subst h1
        rw [h2, px_dev n b z hb]
        simp [devK, rdxT, PX.dev, PX.m]
    | a f x =>
      obtain ⟨l', h1, h2⟩ := key 3 0 [f.m, x.m] rfl
      rw [devL_cons] at h1
      cases hb : devT n f.m with
      | none => rw [hb] at h1; simp at h1
      | some z =>
        rw [hb] at h1
        simp only [devL_cons] at h1
        cases hx : devT n x.m with
        | none => rw [hx] at h1; simp at h1
        | some y =>
          rw [hx] at h1
          simp [devL] at h1
          subst h1
          have ez := px_dev n f z hb
          have ey := px_dev n x y hx
          rw [h2, ez, ey]
          unfold devK
          by_cases hr : rdxT (⟨3, 0, [f.m, x.m]⟩ : Lm) = true
          · obtain ⟨b, rfl⟩ := px_rdx (f := f) (x := x) hr
            rw [if_pos hr]
            simp only [PX.dev]
            exact px_con b.dev x.dev
          · rw [if_neg hr]
            cases f with
            | v i => rfl
            | c k => rfl
            | a g y => rfl
            | l b => exact absurd (by simp [rdxT, PX.m]) hr
#print axioms px_dev
#print axioms px_end
#print axioms px_hnd
end Go.Proofs.YtlcbpfeeafibmaaGreatDoor

/- Plain: two substitutions come together as the substitution lemma says (BARENDREGT). -/
namespace Go.Proofs.YtlcbpfeeafibmaaGreatDoor
open Go.RowKit
set_option linter.unusedSimpArgs false
set_option linter.unusedVariables false
set_option maxRecDepth 8000

theorem isL_v (zs : List Lm) (d x : Int) : insLT zs d ⟨1, x, []⟩ = if x < d then ⟨1, x, []⟩ else if x - d < zs.length then higT d 0 (zs[(x - d).toNat]?.getD ⟨0, 0, []⟩) else ⟨1, x - zs.length, []⟩ := by
  unfold insLT
  by_cases h : x < d <;> simp [h]
theorem isL_o (zs : List Lm) (d k x : Int) (l : List Lm) (hk : k ≠ 1) : insLT zs d ⟨k, x, l⟩ = ⟨k, x, l.map (insLT zs (deepK d k))⟩ := by
  rw [← insLM_map]
  unfold insLT
  simp [hk]
/-- The two nearest the other way round, under so many binders. -/
def PX.swAt (d : Nat) (i : Nat) : PX := if i = d then .v (d + 1) else if i = d + 1 then .v d else .v i
theorem PX.swAt_up (d : Nat) : up (swAt d) = swAt (d + 1) := by
  funext i
  cases i with
  | zero => simp [PX.up, PX.swAt]
  | succ i =>
    simp only [PX.up, PX.swAt]
    by_cases h : i = d
    · rw [if_pos h, if_pos (by omega)]; rfl
    · rw [if_neg h, if_neg (by omega : ¬ i + 1 = d + 1)]
      by_cases h2 : i = d + 1
      · rw [if_pos h2, if_pos (by omega)]; rfl
      · rw [if_neg h2, if_neg (by omega)]; rfl
/-- What is moved on by two and then gets both turned. -/
theorem px_swap : ∀ (p : PX) (d : Nat), insLT [⟨1, 1, []⟩, ⟨1, 0, []⟩] (d : Int) (p.ren (PX.mv 2 (d + 2))).m = (p.sub (PX.swAt d)).m
  | .v i, d => by
    have hl : (([⟨1, 1, []⟩, ⟨1, 0, []⟩] : List Lm).length : Int) = 2 := rfl
    simp only [PX.m, PX.ren, PX.sub]
    by_cases h : i < d
    · have em : PX.mv 2 (d + 2) i = i := by unfold PX.mv; rw [if_pos (by omega)]
      have es : PX.swAt d i = .v i := by unfold PX.swAt; rw [if_neg (by omega), if_neg (by omega)]
      rw [em, es, isL_v, if_pos (by omega)]; rfl
    · by_cases h2 : i = d
      · subst h2
        have em : PX.mv 2 (i + 2) i = i := by unfold PX.mv; rw [if_pos (by omega)]
        have es : PX.swAt i i = .v (i + 1) := by unfold PX.swAt; rw [if_pos rfl]
        have e : ((i : Int) - i).toNat = 0 := by omega
        rw [em, es, isL_v, hl, if_neg (by omega), if_pos (by omega), e]
        simp only [List.getElem?_cons_zero, Option.getD_some]
        rw [hgT_v, if_neg (by omega)]
        simp only [PX.m]
        congr 1
        omega
      · by_cases h3 : i = d + 1
        · subst h3
          have em : PX.mv 2 (d + 2) (d + 1) = d + 1 := by unfold PX.mv; rw [if_pos (by omega)]
          have es : PX.swAt d (d + 1) = .v d := by unfold PX.swAt; rw [if_neg (by omega), if_pos rfl]
          have e : (((d + 1 : Nat) : Int) - d).toNat = 1 := by omega
          rw [em, es, isL_v, hl, if_neg (by omega), if_pos (by omega), e]
          simp only [List.getElem?_cons_succ, List.getElem?_cons_zero, Option.getD_some]
          rw [hgT_v, if_neg (by omega)]
          simp only [PX.m]
          congr 1
          omega
        · have em : PX.mv 2 (d + 2) i = i + 2 := by unfold PX.mv; rw [if_neg (by omega)]
          have es : PX.swAt d i = .v i := by unfold PX.swAt; rw [if_neg h2, if_neg h3]
          rw [em, es, isL_v, hl, if_neg (by omega), if_neg (by omega)]
          simp only [PX.m]
          congr 1
          omega
  | .c k, d => by simp only [PX.m, PX.ren, PX.sub]; rw [isL_o _ _ _ _ _ (by decide)]; rfl
  | .l b, d => by
    have h1 := px_swap b (d + 1)
    simp only [PX.m, PX.ren, PX.sub]
    have e : deepK (d : Int) 2 = ((d + 1 : Nat) : Int) := by simp [deepK]
    rw [isL_o _ _ _ _ _ (by decide), e, PX.mv_up, PX.swAt_up, ← h1]
    rfl
  | .a f x, d => by
    have h1 := px_swap f d
    have h2 := px_swap x d
    simp only [PX.m, PX.ren, PX.sub]
    have e : deepK (d : Int) 3 = (d : Int) := by simp [deepK]
    rw [isL_o _ _ _ _ _ (by decide), e, ← h1, ← h2]
    rfl
/-- What the law calls swapped. -/
def swpT (t : Lm) : Lm := insLT [⟨1, 1, []⟩, ⟨1, 0, []⟩] 0 (higT 2 2 t)
theorem px_swp (p : PX) : swpT p.m = (p.sub (PX.swAt 0)).m := by
  unfold swpT
  have h1 := px_hig 2 p 2
  have h2 := px_swap p 0
  rw [show ((2 : Nat) : Int) = 2 from rfl] at h1
  rw [show ((0 : Nat) : Int) = 0 from rfl] at h2
  rw [h1]
  exact h2
/-- BARENDREGT. -/
theorem PX.lemma (p q r : PX) : (p.sub (ins q)).sub (ins r) = ((p.sub (swAt 0)).sub (ins (r.ren (· + 1)))).sub (ins (q.sub (ins r))) := by
  rw [PX.sub_sub, PX.sub_sub, PX.sub_sub]
  congr 1
  funext i
  match i with
  | 0 =>
    have e : swAt 0 0 = .v 1 := rfl
    rw [e]
    rfl
  | 1 =>
    have e : swAt 0 1 = .v 0 := rfl
    rw [e]
    show r = (r.ren (· + 1)).sub (ins (q.sub (ins r)))
    rw [PX.sub_ren]
    exact (PX.sub_v r).symm
  | i + 2 =>
    have e : swAt 0 (i + 2) = .v (i + 2) := by unfold PX.swAt; rw [if_neg (by omega), if_neg (by omega)]
    rw [e]
    rfl
theorem ts_lemma {u1 u2 u3 : Int} {m x y : Lm} (hm : errM u1 0 [m] = 0) (hx : errM u2 0 [x] = 0) (hy : errM u3 0 [y] = 0) : insT y 0 (insT x 0 m) = insT (insT y 0 x) 0 (insT (higT 1 0 y) 0 (swpT m)) := by
  obtain ⟨p, rfl⟩ := px_of m _ hm
  obtain ⟨q, rfl⟩ := px_of x _ hx
  obtain ⟨r, rfl⟩ := px_of y _ hy
  have h1 := px_hig 1 r 0
  rw [show ((1 : Nat) : Int) = 1 from rfl, show ((0 : Nat) : Int) = 0 from rfl] at h1
  have e : r.ren (PX.mv 1 0) = r.ren (· + 1) := by
    congr 1
  rw [h1, px_swp, px_ins, px_ins, px_ins, px_ins, px_ins, e, PX.lemma]
#print axioms ts_lemma
end Go.Proofs.YtlcbpfeeafibmaaGreatDoor
