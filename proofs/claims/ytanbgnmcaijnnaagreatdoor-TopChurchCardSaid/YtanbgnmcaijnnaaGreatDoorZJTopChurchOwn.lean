/- Several texts in one. -/
import Derived.Test.YtanbgnmcaijnnaaGreatDoorZBTopChurchOwn
import Derived.Test.YtanbgnmcaijnnaaGreatDoorZETopChurchOwn
import Derived.Test.YtanbgnmcaijnnaaGreatDoorZDTopChurchOwn
import Derived.Test.YtanbgnmcaijnnaaGreatDoorZITopChurchOwn
/- Lambda terms in plain: all ways of working them out come together again (by complete developments). -/
namespace Go.Proofs.YtanbgnmcaijnnaaGreatDoor

inductive PX where
  | v (i : Nat)
  | c (k : Int)
  | l (b : PX)
  | a (f x : PX)

/-- Other names for what is bound from outside. -/
def PX.upr (r : Nat → Nat) : Nat → Nat
  | 0 => 0
  | i + 1 => r i + 1
def PX.ren (r : Nat → Nat) : PX → PX
  | .v i => .v (r i)
  | .c k => .c k
  | .l b => .l (b.ren (upr r))
  | .a f x => .a (f.ren r) (x.ren r)
/-- Terms for what is bound from outside. -/
def PX.up (s : Nat → PX) : Nat → PX
  | 0 => .v 0
  | i + 1 => (s i).ren (· + 1)
def PX.sub (s : Nat → PX) : PX → PX
  | .v i => s i
  | .c k => .c k
  | .l b => .l (b.sub (up s))
  | .a f x => .a (f.sub s) (x.sub s)
/-- One term for the nearest. -/
def PX.ins (z : PX) : Nat → PX
  | 0 => z
  | i + 1 => .v i

theorem PX.upr_comp (r q : Nat → Nat) : (fun i => upr r (upr q i)) = upr (fun i => r (q i)) := by
  funext i; cases i <;> rfl
theorem PX.ren_ren (t : PX) : ∀ (r q : Nat → Nat), (t.ren q).ren r = t.ren (fun i => r (q i)) := by
  induction t with
  | v i => intro r q; rfl
  | c k => intro r q; rfl
  | l b ih => intro r q; simp only [PX.ren]; rw [ih, PX.upr_comp]
  | a f x hf hx => intro r q; simp only [PX.ren]; rw [hf, hx]
theorem PX.up_upr (s : Nat → PX) (r : Nat → Nat) : (fun i => up s (upr r i)) = up (fun i => s (r i)) := by
  funext i; cases i <;> rfl
theorem PX.sub_ren (t : PX) : ∀ (s : Nat → PX) (r : Nat → Nat), (t.ren r).sub s = t.sub (fun i => s (r i)) := by
  induction t with
  | v i => intro s r; rfl
  | c k => intro s r; rfl
  | l b ih => intro s r; simp only [PX.ren, PX.sub]; rw [ih, PX.up_upr]
  | a f x hf hx => intro s r; simp only [PX.ren, PX.sub]; rw [hf, hx]
theorem PX.ren_up (r : Nat → Nat) (s : Nat → PX) : (fun i => (up s i).ren (upr r)) = up (fun i => (s i).ren r) := by
  funext i
  cases i with
  | zero => rfl
  | succ i => simp only [PX.up]; rw [PX.ren_ren, PX.ren_ren]; rfl
theorem PX.ren_sub (t : PX) : ∀ (r : Nat → Nat) (s : Nat → PX), (t.sub s).ren r = t.sub (fun i => (s i).ren r) := by
  induction t with
  | v i => intro r s; rfl
  | c k => intro r s; rfl
  | l b ih => intro r s; simp only [PX.ren, PX.sub]; rw [ih, PX.ren_up]
  | a f x hf hx => intro r s; simp only [PX.ren, PX.sub]; rw [hf, hx]
theorem PX.sub_up (s q : Nat → PX) : (fun i => (up q i).sub (up s)) = up (fun i => (q i).sub s) := by
  funext i
  cases i with
  | zero => rfl
  | succ i => simp only [PX.up]; rw [PX.sub_ren, PX.ren_sub]; rfl
theorem PX.sub_sub (t : PX) : ∀ (s q : Nat → PX), (t.sub q).sub s = t.sub (fun i => (q i).sub s) := by
  induction t with
  | v i => intro s q; rfl
  | c k => intro s q; rfl
  | l b ih => intro s q; simp only [PX.sub]; rw [ih, PX.sub_up]
  | a f x hf hx => intro s q; simp only [PX.sub]; rw [hf, hx]
theorem PX.up_v : up PX.v = PX.v := by funext i; cases i <;> rfl
theorem PX.sub_v (t : PX) : t.sub PX.v = t := by
  induction t with
  | v i => rfl
  | c k => rfl
  | l b ih => simp only [PX.sub]; rw [PX.up_v, ih]
  | a f x hf hx => simp only [PX.sub]; rw [hf, hx]
theorem PX.ren_is (t : PX) : ∀ (r : Nat → Nat), t.ren r = t.sub (fun i => .v (r i)) := by
  induction t with
  | v i => intro r; rfl
  | c k => intro r; rfl
  | l b ih =>
    intro r; simp only [PX.ren, PX.sub]; rw [ih]
    congr 2
    funext i; cases i <;> rfl
  | a f x hf hx => intro r; simp only [PX.ren, PX.sub]; rw [hf, hx]
/-- Terms put into what was put in. -/
theorem PX.sub_ins (s : Nat → PX) (z b : PX) : (b.sub (ins z)).sub s = (b.sub (up s)).sub (ins (z.sub s)) := by
  rw [PX.sub_sub, PX.sub_sub]
  congr 1
  funext i
  cases i with
  | zero => rfl
  | succ i =>
    simp only [PX.ins, PX.up, PX.sub]
    rw [PX.sub_ren]
    exact (PX.sub_v (s i)).symm
theorem PX.ren_ins (r : Nat → Nat) (z b : PX) : (b.sub (ins z)).ren r = (b.ren (upr r)).sub (ins (z.ren r)) := by
  rw [PX.ren_is, PX.sub_ins, PX.ren_is z r, PX.ren_is b (upr r)]
  congr 2
  funext i; cases i <;> rfl

/-- Some steps at once. -/
inductive PX.Par : PX → PX → Prop where
  | v (i : Nat) : Par (.v i) (.v i)
  | c (k : Int) : Par (.c k) (.c k)
  | l {b b' : PX} : Par b b' → Par (.l b) (.l b')
  | a {f f' x x' : PX} : Par f f' → Par x x' → Par (.a f x) (.a f' x')
  | b {b b' x x' : PX} : Par b b' → Par x x' → Par (.a (.l b) x) (b'.sub (ins x'))
theorem PX.Par.refl : ∀ t : PX, Par t t
  | .v i => .v i
  | .c k => .c k
  | .l y => .l (Par.refl y)
  | .a f x => .a (Par.refl f) (Par.refl x)
theorem PX.Par.ren {t s : PX} (h : Par t s) : ∀ r : Nat → Nat, Par (t.ren r) (s.ren r) := by
  induction h with
  | v i => intro r; exact .v _
  | c k => intro r; exact .c _
  | l _ ih => intro r; exact .l (ih _)
  | a _ _ h1 h2 => intro r; exact .a (h1 _) (h2 _)
  | b _ _ h1 h2 => intro r; rw [PX.ren_ins]; exact .b (h1 _) (h2 _)
theorem PX.Par.up {s s' : Nat → PX} (h : ∀ i, Par (s i) (s' i)) : ∀ i, Par (PX.up s i) (PX.up s' i)
  | 0 => .v 0
  | i + 1 => (h i).ren _
theorem PX.Par.sub {t t' : PX} (h : Par t t') : ∀ {s s' : Nat → PX}, (∀ i, Par (s i) (s' i)) → Par (t.sub s) (t'.sub s') := by
  induction h with
  | v i => intro s s' hs; exact hs i
  | c k => intro s s' hs; exact .c k
  | l _ ih => intro s s' hs; exact .l (ih (PX.Par.up hs))
  | a _ _ h1 h2 => intro s s' hs; exact .a (h1 hs) (h2 hs)
  | b _ _ h1 h2 => intro s s' hs; rw [PX.sub_ins]; exact .b (h1 (PX.Par.up hs)) (h2 hs)
theorem PX.Par.ins {z z' b b' : PX} (hz : Par z z') (hb : Par b b') : Par (b.sub (PX.ins z)) (b'.sub (PX.ins z')) :=
  hb.sub fun i => by cases i with | zero => exact hz | succ i => exact .v i

/-- All steps at once. -/
def PX.dev : PX → PX
  | .v i => .v i
  | .c k => .c k
  | .l b => .l b.dev
  | .a (.l b) x => b.dev.sub (ins x.dev)
  | .a f x => .a f.dev x.dev
theorem PX.Par.lam {b t : PX} (h : Par (.l b) t) : ∃ b', t = .l b' ∧ Par b b' := by
  cases h with
  | l h => exact ⟨_, rfl, h⟩
theorem PX.taka {t s : PX} (h : Par t s) : Par s t.dev := by
  induction h with
  | v i => exact .v i
  | c k => exact .c k
  | l _ ih => exact .l ih
  | @a f f' x x' h1 h2 i1 i2 =>
    cases f with
    | v i => exact .a i1 i2
    | c k => exact .a i1 i2
    | a g y => exact .a i1 i2
    | l b =>
      obtain ⟨b', rfl, hb⟩ := h1.lam
      simp only [PX.dev]
      have i1' : Par (.l b') (.l b.dev) := i1
      obtain ⟨b2, e, hb2⟩ := i1'.lam
      cases e
      exact .b hb2 i2
  | b _ _ i1 i2 => exact PX.Par.ins i2 i1

/-- Again and again. -/
inductive PX.Pars : PX → PX → Prop where
  | refl (t : PX) : Pars t t
  | tail {t s u : PX} : Pars t s → Par s u → Pars t u
theorem PX.Pars.trans {t s u : PX} (h : Pars t s) (k : Pars s u) : Pars t u := by
  induction k with
  | refl => exact h
  | tail _ h2 ih => exact .tail ih h2
theorem PX.Pars.one {t s : PX} (h : Par t s) : Pars t s := .tail (.refl t) h
theorem PX.strip {t s u : PX} (h : Par t s) (k : Pars t u) : ∃ w, Pars s w ∧ Par u w := by
  induction k with
  | refl => exact ⟨s, .refl s, h⟩
  | tail _ h2 ih =>
    obtain ⟨w, h3, h4⟩ := ih
    exact ⟨_, h3.tail (PX.taka h4), PX.taka h2⟩
/-- CHURCH, ROSSER. -/
theorem PX.meet {t s u : PX} (h : Pars t s) (k : Pars t u) : ∃ w, Pars s w ∧ Pars u w := by
  induction h with
  | refl => exact ⟨u, k, .refl u⟩
  | tail _ h2 ih =>
    obtain ⟨w, h3, h4⟩ := ih
    obtain ⟨x, h5, h6⟩ := PX.strip h2 h3
    exact ⟨x, h5, h4.tail h6⟩

/-- Is there a step? -/
def PX.isl : PX → Bool
  | .l _ => true
  | _ => false
def PX.st : PX → Bool
  | .v _ => false
  | .c _ => false
  | .l b => b.st
  | .a f x => f.isl || f.st || x.st
theorem PX.Par.nf {t s : PX} (h : Par t s) : t.st = false → s = t := by
  induction h with
  | v i => intro _; rfl
  | c k => intro _; rfl
  | l _ ih => intro hn; rw [ih hn]
  | a _ _ h1 h2 => intro hn; simp [PX.st] at hn; rw [h1 hn.1.2, h2 hn.2]
  | b _ _ _ _ => intro hn; simp [PX.st, PX.isl] at hn
theorem PX.Pars.nf {t s : PX} (h : Pars t s) (hn : t.st = false) : s = t := by
  induction h with
  | refl => rfl
  | tail _ h2 ih => subst ih; exact h2.nf hn
/-- One end alone. -/
theorem PX.only {t s u : PX} (h : Pars t s) (k : Pars t u) (hs : s.st = false) (hu : u.st = false) : s = u := by
  obtain ⟨w, h1, h2⟩ := PX.meet h k
  rw [← h1.nf hs, ← h2.nf hu]
#print axioms PX.only
#print axioms PX.taka
end Go.Proofs.YtanbgnmcaijnnaaGreatDoor

/- Plain: what a lambda term develops to. -/
namespace Go.Proofs.YtanbgnmcaijnnaaGreatDoor
open Go.RowKit
set_option linter.unusedSimpArgs false
set_option linter.unusedVariables false
set_option maxRecDepth 8000

theorem hig_size (y : Int) (l : List Lm) : ∀ d, LfM l → sizeM (higM y d l) = sizeM l := by
  induction l using Lm.indL with
  | h0 => intro d _; simp [higM]
  | h k x l r ihl ihr =>
    intro d h
    obtain ⟨h1, h2, h3⟩ := (LfM_cons k x l r).1 h
    rw [higM]
    by_cases hk : k = 1
    · rw [if_pos hk, h1 hk]
      split <;> simp [sizeM, ihr d h3]
    · rw [if_neg hk]
      simp [sizeM, ihr d h3, ihl _ h2]
theorem higT_size {y d : Int} {t : Lm} (h : LfM [t]) : sizeM [higT y d t] = sizeM [t] := by
  have := hig_size y [t] d h
  rw [higM_map] at this
  exact this
/-- How great a term becomes. -/
theorem ins_size (z : Lm) (hz : LfM [z]) (l : List Lm) : ∀ d, LfM l → sizeM (insM z d l) + usesM d l = sizeM l + usesM d l * sizeM [z] := by
  induction l using Lm.indL with
  | h0 => intro d _; simp [insM, usesM]
  | h k x l r ihl ihr =>
    intro d h
    obtain ⟨h1, h2, h3⟩ := (LfM_cons k x l r).1 h
    have h4 := ihr d h3
    have e0 : sizeM (⟨k, x, l⟩ :: r) = 1 + sizeM l + sizeM r := by simp [sizeM]
    rw [insM, usesM, e0]
    by_cases hk : k = 1
    · subst hk
      rw [h1 rfl]
      simp only [if_true]
      have e1 : ∀ (t : Lm) (r' : List Lm), sizeM (t :: r') = sizeM [t] + sizeM r' := fun t r' => sizeM_append [t] r'
      by_cases hx : x < d
      · rw [if_pos hx, if_neg (by omega), e1]
        simp [sizeM] at h4 ⊢
        omega
      · rw [if_neg hx]
        by_cases hd : x = d
        · rw [if_pos hd, if_pos hd, e1, higT_size hz]
          simp [sizeM, Nat.add_mul]
          omega
        · rw [if_neg hd, if_neg hd, e1]
          simp [sizeM] at h4 ⊢
          omega
    · rw [if_neg hk, if_neg hk]
      have h5 := ihl (deepK d k) h2
      have e1 : sizeM (⟨k, x, insM z (deepK d k) l⟩ :: insM z d r) = 1 + sizeM (insM z (deepK d k) l) + sizeM (insM z d r) := by simp [sizeM]
      rw [e1, Nat.add_mul]
      omega
theorem insT_size {z t : Lm} {d : Int} (hz : LfM [z]) (ht : LfM [t]) : sizeM [insT z d t] + usesM d [t] = sizeM [t] + usesM d [t] * sizeM [z] := by
  have := ins_size z hz [t] d ht
  rw [insM_map] at this
  exact this
/-- The same, as it is asked. -/
theorem insT_sizeI {z t : Lm} (hz : LfM [z]) (ht : LfM [t]) : ((sizeM [insT z 0 t] : Nat) : Int) = (sizeM [t] : Int) + (usesM 0 [t] : Int) * ((sizeM [z] : Int) - 1) := by
  have h := insT_size (d := 0) hz ht
  have h2 : ((sizeM [insT z 0 t] + usesM 0 [t] : Nat) : Int) = ((sizeM [t] + usesM 0 [t] * sizeM [z] : Nat) : Int) := by rw [h]
  rw [Int.natCast_add, Int.natCast_add, Int.natCast_mul] at h2
  rw [Int.mul_sub, Int.mul_one]
  omega

/-- All of a list developed; none where one is too great. -/
def devL (f : Lm → Option Lm) : List Lm → Option (List Lm)
  | [] => some []
  | y :: r => match f y with
    | none => none
    | some z => match devL f r with
      | none => none
      | some q => some (z :: q)
/-- What a knot comes to. -/
def devK (k x : Int) (l l' : List Lm) : Lm := if rdxT ⟨k, x, l⟩ = true then conT l' else ⟨k, x, l'⟩
def devT : Nat → Lm → Option Lm
  | 0, _ => none
  | n + 1, ⟨k, x, l⟩ => match devL (devT n) l with
    | none => none
    | some l' => if 2000 < sizeM [devK k x l l'] then none else some (devK k x l l')
theorem devL_cons (f : Lm → Option Lm) (y : Lm) (r : List Lm) : devL f (y :: r) = match f y with
    | none => none
    | some z => match devL f r with
      | none => none
      | some q => some (z :: q) := rfl
theorem devL_append (f : Lm → Option Lm) : ∀ (a b : List Lm) (a' : List Lm), devL f a = some a' → devL f (a ++ b) = (devL f b).map (a' ++ ·)
  | [], b, a', h => by
    simp [devL] at h
    subst h
    rw [List.nil_append]
    cases devL f b <;> simp
  | y :: r, b, a', h => by
    rw [devL_cons] at h
    rw [List.cons_append, devL_cons]
    cases hy : f y with
    | none => rw [hy] at h; cases h
    | some z =>
      rw [hy] at h
      cases hr : devL f r with
      | none => rw [hr] at h; cases h
      | some q =>
        rw [hr] at h
        simp at h
        subst h
        simp only [devL_append f r b q hr]
        cases devL f b <;> simp
theorem devL_step {f : Lm → Option Lm} {l out : List Lm} {q : Nat} (h : q < l.length) (ho : devL f (l.take q) = some out) {z : Lm} (hz : f l[q] = some z) : devL f (l.take (q + 1)) = some (out ++ [z]) := by
  rw [List.take_succ_eq_append_getElem h, devL_append f _ _ _ ho]
  simp [devL, hz]
theorem devL_stop {f : Lm → Option Lm} {l out : List Lm} {q : Nat} (h : q < l.length) (ho : devL f (l.take q) = some out) (hz : f l[q] = none) : devL f l = none := by
  have e : l = l.take q ++ l[q] :: l.drop (q + 1) := by rw [← List.drop_eq_getElem_cons h, List.take_append_drop]
  rw [e, devL_append f _ _ _ ho]
  simp [devL, hz]
theorem devL_len {f : Lm → Option Lm} : ∀ {l l' : List Lm}, devL f l = some l' → l'.length = l.length
  | [], l', h => by simp [devL] at h; subst h; rfl
  | y :: r, l', h => by
    rw [devL_cons] at h
    cases hy : f y with
    | none => rw [hy] at h; cases h
    | some z =>
      rw [hy] at h
      cases hr : devL f r with
      | none => rw [hr] at h; cases h
      | some q =>
        rw [hr] at h
        simp at h
        subst h
        simp [devL_len hr]
theorem devL_mem {f : Lm → Option Lm} : ∀ {l l' : List Lm}, devL f l = some l' → ∀ z ∈ l', ∃ y ∈ l, f y = some z
  | [], l', h, z, hz => by simp [devL] at h; subst h; cases hz
  | y :: r, l', h, z, hz => by
    rw [devL_cons] at h
    cases hy : f y with
    | none => rw [hy] at h; cases h
    | some z0 =>
      rw [hy] at h
      cases hr : devL f r with
      | none => rw [hr] at h; cases h
      | some q =>
        rw [hr] at h
        simp at h
        subst h
        rcases List.mem_cons.1 hz with rfl | hz
        · exact ⟨y, by simp, hy⟩
        · obtain ⟨y', h1, h2⟩ := devL_mem hr z hz
          exact ⟨y', by simp [h1], h2⟩
theorem devT_succ {n : Nat} {k x : Int} {l l' : List Lm} (h : devL (devT n) l = some l') : devT (n + 1) ⟨k, x, l⟩ = if 2000 < sizeM [devK k x l l'] then none else some (devK k x l l') := by
  rw [devT, h]
theorem devT_none {n : Nat} {k x : Int} {l : List Lm} (h : devL (devT n) l = none) : devT (n + 1) ⟨k, x, l⟩ = none := by
  rw [devT, h]
/-- A binder stays a binder. -/
theorem devT_lam {n : Nat} {x : Int} {b t' : Lm} (h : devT n ⟨2, x, [b]⟩ = some t') : ∃ b', t' = ⟨2, x, [b']⟩ := by
  cases n with
  | zero => simp [devT] at h
  | succ n =>
    cases hl : devL (devT n) [b] with
    | none => rw [devT_none hl] at h; cases h
    | some l' =>
      rw [devT_succ hl] at h
      have h1 := devL_len hl
      split at h
      · cases h
      · have e : devK 2 x [b] l' = ⟨2, x, l'⟩ := by unfold devK rdxT; simp
        rw [e] at h
        obtain ⟨b', rfl⟩ := List.length_eq_one_iff.1 h1
        exact ⟨b', by simpa using h.symm⟩
theorem err_dev (m : Int) (n : Nat) : ∀ (t t' : Lm) (u : Int), 0 ≤ u → errM u m [t] = 0 → devT n t = some t' → errM u m [t'] = 0 ∧ sizeM [t'] ≤ 2000 := by
  induction n with
  | zero => intro t t' u _ _ h; simp [devT] at h
  | succ n ih =>
    rintro ⟨k, x, l⟩ t' u hu he h
    cases hl : devL (devT n) l with
    | none => rw [devT_none hl] at h; cases h
    | some l' =>
      rw [devT_succ hl] at h
      split at h
      · cases h
      · rename_i hz
        simp at h
        subst h
        refine ⟨?_, by omega⟩
        obtain ⟨h3, h4⟩ := err_one0.1 he
        have hd : 0 ≤ deepK u k := by unfold deepK; split <;> omega
        have h5 : errM (deepK u k) m l' = 0 := err_all0.2 fun y hy => by
          obtain ⟨y0, h1, h2⟩ := devL_mem hl y hy
          exact (ih _ _ _ hd (err_all0.1 h4 y0 h1) h2).1
        unfold devK
        split
        · rename_i hr
          obtain ⟨x', i, b, z, e, h1, h2⟩ := subs_two he hr
          cases e
          rw [devL_cons] at hl
          cases hf : devT n ⟨2, i, [b]⟩ with
          | none => rw [hf] at hl; cases hl
          | some f' =>
            rw [hf] at hl
            obtain ⟨b', rfl⟩ := devT_lam hf
            cases hzz : devL (devT n) [z] with
            | none => rw [hzz] at hl; cases hl
            | some lz =>
              rw [hzz] at hl
              obtain ⟨z', rfl⟩ := List.length_eq_one_iff.1 (devL_len hzz)
              simp at hl
              subst hl
              have e3 : deepK u 3 = u := by simp [deepK]
              rw [e3] at h5
              obtain ⟨p1, p2⟩ := err_two0.1 h5
              have e2 : deepK u 2 = u + 1 := by simp [deepK]
              have p3 := (err_one0.1 p1).2
              rw [e2] at p3
              exact err_insT hu p2 p3
        · exact err_one0.2 ⟨by rw [devL_len hl]; exact h3, h5⟩
#print axioms insT_sizeI
#print axioms err_dev
end Go.Proofs.YtanbgnmcaijnnaaGreatDoor

/- Plain: lambda terms that may be, as those whose ways come together again. -/
namespace Go.Proofs.YtanbgnmcaijnnaaGreatDoor
open Go.RowKit
set_option linter.unusedSimpArgs false
set_option linter.unusedVariables false
set_option maxRecDepth 8000

/-- The lambda term that it is. -/
def PX.m : PX → Lm
  | .v i => ⟨1, (i : Int), []⟩
  | .c k => ⟨4, k, []⟩
  | .l b => ⟨2, 0, [b.m]⟩
  | .a f x => ⟨3, 0, [f.m, x.m]⟩
theorem px_of (t : Lm) : ∀ u, errM u 0 [t] = 0 → ∃ p : PX, p.m = t := by
  induction t using Lm.ind with
  | h k x l ih =>
    intro u he
    rcases may_look he with ⟨y, e, h0, h1⟩ | ⟨b, e, hb⟩ | ⟨f, a, e, hf, ha⟩ | ⟨y, e, h0, h1⟩
    · cases e
      exact ⟨.v x.toNat, by simp only [PX.m]; congr 1; omega⟩
    · cases e
      obtain ⟨p, hp⟩ := ih b (by simp) _ hb
      exact ⟨.l p, by simp only [PX.m, hp]⟩
    · cases e
      obtain ⟨p, hp⟩ := ih f (by simp) _ hf
      obtain ⟨q, hq⟩ := ih a (by simp) _ ha
      exact ⟨.a p q, by simp only [PX.m, hp, hq]⟩
    · cases e
      exact ⟨.c x, rfl⟩
theorem px_inj : ∀ {p q : PX}, p.m = q.m → p = q
  | .v i, .v j, h => by simp only [PX.m, Lm.mk.injEq] at h; congr 1; omega
  | .c i, .c j, h => by simp only [PX.m, Lm.mk.injEq] at h; rw [h.2.1]
  | .l b, .l d, h => by
    simp only [PX.m, Lm.mk.injEq, List.cons.injEq, and_true, true_and] at h
    rw [px_inj h]
  | .a f x, .a g y, h => by
    simp only [PX.m, Lm.mk.injEq, List.cons.injEq, and_true, true_and] at h
    rw [px_inj h.1, px_inj h.2]
  | .v i, .c j, h => by simp [PX.m] at h
  | .v i, .l j, h => by simp [PX.m] at h
  | .v i, .a f x, h => by simp [PX.m] at h
  | .c i, .v j, h => by simp [PX.m] at h
  | .c i, .l j, h => by simp [PX.m] at h
  | .c i, .a f x, h => by simp [PX.m] at h
  | .l i, .v j, h => by simp [PX.m] at h
  | .l i, .c j, h => by simp [PX.m] at h
  | .l i, .a f x, h => by simp [PX.m] at h
  | .a f x, .v j, h => by simp [PX.m] at h
  | .a f x, .c j, h => by simp [PX.m] at h
  | .a f x, .l j, h => by simp [PX.m] at h

theorem hgT_v (y d x : Int) : higT y d ⟨1, x, []⟩ = if x < d then ⟨1, x, []⟩ else ⟨1, x + y, []⟩ := by
  unfold higT
  by_cases h : x < d <;> simp [h]
theorem hgT_o (y d k x : Int) (l : List Lm) (hk : k ≠ 1) : higT y d ⟨k, x, l⟩ = ⟨k, x, l.map (higT y (deepK d k))⟩ := by
  rw [← higM_map]
  unfold higT
  simp [hk]
theorem isT_v (z : Lm) (d x : Int) : insT z d ⟨1, x, []⟩ = if x < d then ⟨1, x, []⟩ else if x = d then higT d 0 z else ⟨1, x - 1, []⟩ := by
  unfold insT
  by_cases h : x < d <;> simp [h]
theorem isT_o (z : Lm) (d k x : Int) (l : List Lm) (hk : k ≠ 1) : insT z d ⟨k, x, l⟩ = ⟨k, x, l.map (insT z (deepK d k))⟩ := by
  rw [← insM_map]
  unfold insT
  simp [hk]
/-- Moved on by so many, from so many binders on. -/
def PX.mv (y d : Nat) (i : Nat) : Nat := if i < d then i else i + y
theorem PX.mv_up (y d : Nat) : upr (mv y d) = mv y (d + 1) := by
  funext i
  cases i with
  | zero => simp [PX.upr, PX.mv]
  | succ i =>
    simp only [PX.upr, PX.mv]
    by_cases h : i < d
    · rw [if_pos h, if_pos (by omega)]
    · rw [if_neg h, if_neg (by omega)]; omega
theorem px_hig (y : Nat) : ∀ (p : PX) (d : Nat), higT (y : Int) (d : Int) p.m = (p.ren (PX.mv y d)).m
  | .v i, d => by
    simp only [PX.m, PX.ren, PX.mv]
    rw [hgT_v]
    by_cases h : i < d
    · rw [if_pos (by omega), if_pos h]
    · rw [if_neg (by omega), if_neg h]; simp
  | .c k, d => by simp only [PX.m, PX.ren]; rw [hgT_o _ _ _ _ _ (by decide)]; rfl
  | .l b, d => by
    have h1 := px_hig y b (d + 1)
    simp only [PX.m, PX.ren]
    have e : deepK (d : Int) 2 = ((d + 1 : Nat) : Int) := by simp [deepK]
    rw [hgT_o _ _ _ _ _ (by decide), e, PX.mv_up, ← h1]
    rfl
  | .a f x, d => by
    have h1 := px_hig y f d
    have h2 := px_hig y x d
    simp only [PX.m, PX.ren]
    have e : deepK (d : Int) 3 = (d : Int) := by simp [deepK]
    rw [hgT_o _ _ _ _ _ (by decide), e, ← h1, ← h2]
    rfl
/-- A term for what is bound so many binders around. -/
def PX.inAt (z : PX) (d : Nat) (i : Nat) : PX := if i < d then .v i else if i = d then z.ren (· + d) else .v (i - 1)
theorem PX.inAt_up (z : PX) (d : Nat) : up (inAt z d) = inAt z (d + 1) := by
  funext i
  cases i with
  | zero => simp [PX.up, PX.inAt]
  | succ i =>
    simp only [PX.up, PX.inAt]
    by_cases h : i < d
    · rw [if_pos h, if_pos (by omega)]; rfl
    · rw [if_neg h, if_neg (by omega : ¬ i + 1 < d + 1)]
      by_cases h2 : i = d
      · rw [if_pos h2, if_pos (by omega), PX.ren_ren]; rfl
      · rw [if_neg h2, if_neg (by omega)]
        simp only [PX.ren]
        congr 1
        omega
theorem PX.inAt_zero (z : PX) : inAt z 0 = ins z := by
  funext i
  cases i with
  | zero =>
    simp only [PX.inAt, PX.ins]
    rw [if_neg (by omega), if_pos trivial]
    rw [PX.ren_is]
    exact PX.sub_v z
  | succ i => simp [PX.inAt, PX.ins]
theorem px_insAt (z : PX) : ∀ (p : PX) (d : Nat), insT z.m (d : Int) p.m = (p.sub (PX.inAt z d)).m
  | .v i, d => by
    simp only [PX.m, PX.sub, PX.inAt]
    rw [isT_v]
    by_cases h : i < d
    · rw [if_pos (by omega), if_pos h]; rfl
    · rw [if_neg (by omega), if_neg h]
      by_cases h2 : i = d
      · rw [if_pos (by omega), if_pos h2]
        have := px_hig d z 0
        rw [show ((0 : Nat) : Int) = 0 from rfl] at this
        rw [this]
        congr 1
      · rw [if_neg (by omega), if_neg h2]
        simp only [PX.m]
        congr 1
        omega
  | .c k, d => by simp only [PX.m, PX.sub]; rw [isT_o _ _ _ _ _ (by decide)]; rfl
  | .l b, d => by
    have h1 := px_insAt z b (d + 1)
    simp only [PX.m, PX.sub]
    have e : deepK (d : Int) 2 = ((d + 1 : Nat) : Int) := by simp [deepK]
    rw [isT_o _ _ _ _ _ (by decide), e, PX.inAt_up, ← h1]
    rfl
  | .a f x, d => by
    have h1 := px_insAt z f d
    have h2 := px_insAt z x d
    simp only [PX.m, PX.sub]
    have e : deepK (d : Int) 3 = (d : Int) := by simp [deepK]
    rw [isT_o _ _ _ _ _ (by decide), e, ← h1, ← h2]
    rfl
theorem px_ins (z p : PX) : insT z.m 0 p.m = (p.sub (PX.ins z)).m := by
  have := px_insAt z p 0
  rw [PX.inAt_zero] at this
  exact this

/-- Is there a step? -/
theorem px_isl (p : PX) : decide (p.m.kind = 2) = p.isl := by cases p <;> simp [PX.m, PX.isl]
theorem px_st : ∀ p : PX, stepM [p.m] = p.st
  | .v i => by simp [PX.m, stepM, rdxT, PX.st]
  | .c k => by simp [PX.m, stepM, rdxT, PX.st]
  | .l b => by
    have h := px_st b
    simp only [PX.m, PX.st]
    rw [stepM_one, h]
    simp [rdxT]
  | .a f x => by
    have h1 := px_st f
    have h2 := px_st x
    simp only [PX.m, PX.st]
    rw [stepM_one]
    have h3 : stepM [f.m, x.m] = (stepM [f.m] || stepM [x.m]) := stepM_append [f.m] [x.m]
    rw [h3, h1, h2, ← px_isl f]
    simp [rdxT, Bool.or_assoc]
theorem px_rdx {f x : PX} (h : rdxT (PX.a f x).m = true) : ∃ b, f = .l b := by
  cases f with
  | l b => exact ⟨b, rfl⟩
  | v i => simp [PX.m, rdxT] at h
  | c k => simp [PX.m, rdxT] at h
  | a g y => simp [PX.m, rdxT] at h
theorem px_rdx_app {p : PX} (h : rdxT p.m = true) : ∃ b x, p = .a (.l b) x := by
  cases p with
  | v i => simp [PX.m, rdxT] at h
  | c k => simp [PX.m, rdxT] at h
  | l b => simp [PX.m, rdxT] at h
  | a f x => obtain ⟨b, rfl⟩ := px_rdx h; exact ⟨b, x, rfl⟩
theorem px_con (b x : PX) : conT [(PX.l b).m, x.m] = (b.sub (PX.ins x)).m := by
  show insT x.m 0 b.m = _
  exact px_ins x b

/-- The first step is one. -/
theorem px_stp (inn : Bool) : ∀ (n : Nat) (p : PX), ∃ q : PX, stpT inn n p.m = q.m ∧ PX.Par p q
  | 0, p => ⟨p, rfl, .refl p⟩
  | n + 1, p => by
    cases hh : hereT inn p.m with
    | true =>
      have hr : rdxT p.m = true := by unfold hereT at hh; simp at hh; exact hh.1
      obtain ⟨b, x, rfl⟩ := px_rdx_app hr
      refine ⟨b.sub (PX.ins x), ?_, .b (.refl b) (.refl x)⟩
      rw [← px_con]
      show stpT inn (n + 1) ⟨3, 0, [(PX.l b).m, x.m]⟩ = _
      have hh2 : hereT inn (⟨3, 0, [(PX.l b).m, x.m]⟩ : Lm) = true := hh
      rw [stpT, if_pos hh2]
    | false =>
      cases p with
      | v i => exact ⟨.v i, by simp only [PX.m] at hh ⊢; rw [stpT, if_neg (by rw [hh]; simp)]; rfl, .v i⟩
      | c k => exact ⟨.c k, by simp only [PX.m] at hh ⊢; rw [stpT, if_neg (by rw [hh]; simp)]; rfl, .c k⟩
      | l b =>
        obtain ⟨q, h1, h2⟩ := px_stp inn n b
        simp only [PX.m] at hh ⊢
        rw [stpT, if_neg (by rw [hh]; simp), repF]
        by_cases hs : stepM [b.m] = true
        · rw [if_pos hs, h1]; exact ⟨.l q, rfl, .l h2⟩
        · rw [if_neg hs]; exact ⟨.l b, rfl, .refl _⟩
      | a f x =>
        obtain ⟨q, h1, h2⟩ := px_stp inn n f
        obtain ⟨r, h3, h4⟩ := px_stp inn n x
        simp only [PX.m] at hh ⊢
        rw [stpT, if_neg (by rw [hh]; simp), repF]
        by_cases hs : stepM [f.m] = true
        · rw [if_pos hs, h1]; exact ⟨.a q x, rfl, .a h2 (.refl x)⟩
        · rw [if_neg hs, repF]
          by_cases hs2 : stepM [x.m] = true
          · rw [if_pos hs2, h3]; exact ⟨.a f r, rfl, .a (.refl f) h4⟩
          · rw [if_neg hs2]; exact ⟨.a f x, rfl, .refl _⟩
/-- What it becomes at last comes of it, and has no step. -/
theorem px_end (inn : Bool) : ∀ (k : Nat) (p : PX) (r : Lm) (j : Nat), endM inn k p.m = (0, r, j) → ∃ q : PX, r = q.m ∧ PX.Pars p q ∧ q.st = false ∧ (j = 0 ↔ p.st = false)
  | 0, p, r, j, h => by
    rw [endM] at h
    by_cases hs : stepM [p.m] = true
    · rw [if_pos hs] at h; simp at h
    · rw [if_neg hs] at h
      simp only [Prod.mk.injEq, true_and] at h
      have hn : p.st = false := by rw [← px_st]; simpa using hs
      exact ⟨p, h.1.symm, .refl p, hn, fun _ => hn, fun _ => h.2.symm⟩
  | k + 1, p, r, j, h => by
    rw [endM] at h
    by_cases hs : stepM [p.m] = true
    · rw [if_pos hs] at h
      by_cases hz : 2000 < sizeM [stpT inn 2001 p.m]
      · rw [if_pos hz] at h; simp at h
      · rw [if_neg hz] at h
        obtain ⟨q, h1, h2⟩ := px_stp inn 2001 p
        rw [h1] at h
        generalize hg : endM inn k q.m = g at h
        obtain ⟨g1, g2, g3⟩ := g
        simp only [Prod.mk.injEq] at h
        obtain ⟨rfl, rfl, rfl⟩ := h
        obtain ⟨q', h3, h4, h5, _⟩ := px_end inn k q _ _ hg
        have hn : p.st = true := by rw [← px_st]; exact hs
        exact ⟨q', h3, (PX.Pars.one h2).trans h4, h5, fun h => by omega, fun h => by rw [hn] at h; cases h⟩
    · rw [if_neg hs] at h
      simp only [Prod.mk.injEq, true_and] at h
      have hn : p.st = false := by rw [← px_st]; simpa using hs
      exact ⟨p, h.1.symm, .refl p, hn, fun _ => hn, fun _ => h.2.symm⟩
/-- Each step that is told is one. -/
theorem px_hnd : ∀ (n : Nat) (p : PX) (e : Hnd), e ∈ hndT n p.m → ∃ q : PX, e.2.2 = q.m ∧ PX.Par p q
  | 0, p, e, h => by simp [hndT] at h
  | n + 1, p, e, h => by
    have key : ∀ (k x : Int) (l : List Lm), p.m = ⟨k, x, l⟩ → e ∈ hndH ⟨k, x, l⟩ ∨ ∃ (q : Nat) (hq : q < l.length) (e' : Hnd), e' ∈ hndT n l[q] ∧ e.2.2 = ⟨k, x, l.set q e'.2.2⟩ := by
      intro k x l hp
      rw [hp, hndT] at h
      rcases List.mem_append.1 h with h | h
      · exact Or.inl h
      · obtain ⟨q, hq, e', h1, h2⟩ := hndR_mem h
        exact Or.inr ⟨q, hq, e', h1, by rw [h2]; rfl⟩
    cases p with
    | v i =>
      rcases key 1 i [] rfl with h1 | ⟨q, hq, _⟩
      · simp [hndH, rdxT] at h1
      · simp at hq
    | c k =>
      rcases key 4 k [] rfl with h1 | ⟨q, hq, _⟩
      · simp [hndH, rdxT] at h1
      · simp at hq
    | l b =>
      rcases key 2 0 [b.m] rfl with h1 | ⟨q, hq, e', h1, h2⟩
      · simp [hndH, rdxT] at h1
      · have hq0 : q = 0 := by simp at hq; exact hq
        subst hq0
        obtain ⟨r, h3, h4⟩ := px_hnd n b e' h1
        exact ⟨.l r, by rw [h2, h3]; rfl, .l h4⟩
    | a f x =>
      rcases key 3 0 [f.m, x.m] rfl with h1 | ⟨q, hq, e', h1, h2⟩
      · unfold hndH at h1
        by_cases hr : rdxT (⟨3, 0, [f.m, x.m]⟩ : Lm) = true
        · rw [if_pos hr] at h1
          obtain ⟨b, rfl⟩ := px_rdx (f := f) (x := x) hr
          simp only [List.mem_singleton] at h1
          have e2 : e.2.2 = conT [(PX.l b).m, x.m] := by rw [h1]; unfold hndC; split <;> rfl
          exact ⟨b.sub (PX.ins x), by rw [e2, px_con], .b (.refl b) (.refl x)⟩
        · rw [if_neg hr] at h1; simp at h1
      · have hq2 : q = 0 ∨ q = 1 := by simp at hq; omega
        rcases hq2 with rfl | rfl
        · obtain ⟨r, h3, h4⟩ := px_hnd n f e' h1
          exact ⟨.a r x, by rw [h2, h3]; rfl, .a h4 (.refl x)⟩
        · obtain ⟨r, h3, h4⟩ := px_hnd n x e' h1
          exact ⟨.a f r, by rw [h2, h3]; rfl, .a (.refl f) h4⟩
/-- The development is all steps at once. -/
theorem px_dev : ∀ (n : Nat) (p : PX) (r : Lm), devT n p.m = some r → r = p.dev.m
  | 0, p, r, h => by simp [devT] at h
  | n + 1, p, r, h => by
    have key : ∀ (k x : Int) (l : List Lm), p.m = ⟨k, x, l⟩ → ∃ l', devL (devT n) l = some l' ∧ r = devK k x l l' := by
      intro k x l hp
      rw [hp, devT] at h
      cases hd : devL (devT n) l with
      | none => rw [hd] at h; simp at h
      | some l' =>
        rw [hd] at h
        simp only at h
        split at h
        · cases h
        · exact ⟨l', rfl, (Option.some.inj h).symm⟩
    cases p with
    | v i =>
      obtain ⟨l', h1, h2⟩ := key 1 i [] rfl
      simp [devL] at h1
      subst h1
      rw [h2]
      simp [devK, rdxT, PX.dev, PX.m]
    | c k =>
      obtain ⟨l', h1, h2⟩ := key 4 k [] rfl
      simp [devL] at h1
      subst h1
      rw [h2]
      simp [devK, rdxT, PX.dev, PX.m]
    | l b =>
      obtain ⟨l', h1, h2⟩ := key 2 0 [b.m] rfl
      rw [devL_cons] at h1
      cases hb : devT n b.m with
      | none => rw [hb] at h1; simp at h1
      | some z =>
        rw [hb] at h1
        simp [devL] at h1
        subst h1
        rw [h2, px_dev n b z hb]
        simp [devK, rdxT, PX.dev, PX.m]
    | a f x =>
      obtain ⟨l', h1, h2⟩ := key 3 0 [f.m, x.m] rfl
      rw [devL_cons] at h1
      cases hb : devT n f.m with
      | none => rw [hb] at h1; simp at h1
      | some z =>
        rw [hb] at h1
        simp only [devL_cons] at h1
        cases hx : devT n x.m with
        | none => rw [hx] at h1; simp at h1
        | some y =>
          rw [hx] at h1
          simp [devL] at h1
          subst h1
          have ez := px_dev n f z hb
          have ey := px_dev n x y hx
          rw [h2, ez, ey]
          unfold devK
          by_cases hr : rdxT (⟨3, 0, [f.m, x.m]⟩ : Lm) = true
          · obtain ⟨b, rfl⟩ := px_rdx (f := f) (x := x) hr
            rw [if_pos hr]
            simp only [PX.dev]
            exact px_con b.dev x.dev
          · rw [if_neg hr]
            cases f with
            | v i => rfl
            | c k => rfl
            | a g y => rfl
            | l b => exact absurd (by simp [rdxT, PX.m]) hr
#print axioms px_dev
#print axioms px_end
#print axioms px_hnd
end Go.Proofs.YtanbgnmcaijnnaaGreatDoor

/- Plain: moving what is bound, up and down. -/
namespace Go.Proofs.YtanbgnmcaijnnaaGreatDoor
open Go.RowKit
set_option linter.unusedSimpArgs false
set_option linter.unusedVariables false
set_option maxRecDepth 8000

theorem lf_of_shE (l : List Lm) : ShM l → LfM l := by
  induction l using Lm.indL with
  | h0 => intro _; exact LfM_nil
  | h k x l r ihl ihr =>
    intro h
    rw [ShM_cons] at h
    exact (LfM_cons _ _ _ _).2 ⟨fun hk => by subst hk; exact List.length_eq_zero_iff.1 (by rw [h.1]; rfl), ihl h.2.1, ihr h.2.2⟩
theorem deep_nn {d k : Int} (h : 0 ≤ d) : 0 ≤ deepK d k := by unfold deepK; split <;> omega
theorem usesM_var (c x : Int) (l r : List Lm) : usesM c (⟨1, x, l⟩ :: r) = (if x = c then 1 else 0) + usesM c r := by simp [usesM]
theorem usesM_node {k : Int} (h : k ≠ 1) (c x : Int) (l r : List Lm) : usesM c (⟨k, x, l⟩ :: r) = usesM (deepK c k) l + usesM c r := by simp [usesM, h]
theorem higM_lt {x d : Int} (h : x < d) (y : Int) (l r : List Lm) : higM y d (⟨1, x, l⟩ :: r) = ⟨1, x, l⟩ :: higM y d r := by simp [higM, h]
theorem higM_ge {x d : Int} (h : ¬ x < d) (y : Int) (l r : List Lm) : higM y d (⟨1, x, l⟩ :: r) = ⟨1, x + y, []⟩ :: higM y d r := by simp [higM, h]
theorem higM_node {k : Int} (h : k ≠ 1) (y d x : Int) (l r : List Lm) : higM y d (⟨k, x, l⟩ :: r) = ⟨k, x, higM y (deepK d k) l⟩ :: higM y d r := by simp [higM, h]
/-- How often what is bound is used behind a move. -/
theorem uses_up (l : List Lm) : ∀ c d : Int, 0 ≤ c → c ≤ d → usesM c (higM 1 d l) = if c = d then 0 else usesM c l := by
  induction l using Lm.indL with
  | h0 => intro c d _ _; simp [higM, usesM]
  | h k x l r ihl ihr =>
    intro c d hc hcd
    have hr := ihr c d hc hcd
    by_cases hk : k = 1
    · subst hk
      by_cases hx : x < d
      · rw [higM_lt hx, usesM_var, usesM_var, hr]
        by_cases e : c = d
        · rw [if_pos e, if_pos e, if_neg (by omega)]
        · rw [if_neg e, if_neg e]
      · rw [higM_ge hx, usesM_var, usesM_var, hr, if_neg (by omega)]
        by_cases e : c = d
        · rw [if_pos e, if_pos e]
        · rw [if_neg e, if_neg e, if_neg (by omega)]
    · have hdd : deepK c k ≤ deepK d k ∧ (deepK c k = deepK d k ↔ c = d) := by unfold deepK; split <;> omega
      rw [higM_node hk, usesM_node hk, usesM_node hk, hr, ihl (deepK c k) (deepK d k) (deep_nn hc) hdd.1]
      by_cases e : c = d
      · rw [if_pos e, if_pos (hdd.2.2 e), if_pos e]
      · rw [if_neg e, if_neg (fun h => e (hdd.2.1 h)), if_neg e]
/-- What was moved up is moved back. -/
theorem hig_back (l : List Lm) : ∀ d : Int, LfM l → higM (-1) d (higM 1 d l) = l := by
  induction l using Lm.indL with
  | h0 => intro d _; simp [higM]
  | h k x l r ihl ihr =>
    intro d hl
    obtain ⟨h1, h2, h3⟩ := (LfM_cons k x l r).1 hl
    by_cases hk : k = 1
    · subst hk
      rw [h1 rfl]
      by_cases hx : x < d
      · rw [higM_lt hx, higM_lt hx, ihr d h3]
      · rw [higM_ge hx, higM_ge (by omega), ihr d h3]
        congr 2
        omega
    · rw [higM_node hk, higM_node hk, ihl _ h2, ihr d h3]
/-- Where what is bound isn't used, what lies further out is used as often behind a move down. -/
theorem uses_low (l : List Lm) : ∀ c d : Int, 0 ≤ d → d ≤ c → usesM d l = 0 → usesM c (higM (-1) d l) = usesM (c + 1) l := by
  induction l using Lm.indL with
  | h0 => intro c d _ _ _; simp [higM, usesM]
  | h k x l r ihl ihr =>
    intro c d hd hcd hu
    by_cases hk : k = 1
    · subst hk
      rw [usesM_var] at hu
      have hr := ihr c d hd hcd (by omega)
      have hne : x ≠ d := fun e => by rw [if_pos e] at hu; omega
      by_cases hx : x < d
      · rw [higM_lt hx, usesM_var, usesM_var, hr, if_neg (by omega), if_neg (by omega)]
      · rw [higM_ge hx, usesM_var, usesM_var, hr]
        by_cases e : x = c + 1
        · rw [if_pos e, if_pos (by omega)]
        · rw [if_neg e, if_neg (by omega)]
    · rw [usesM_node hk] at hu
      have hr := ihr c d hd hcd (by omega)
      have hdd : deepK d k ≤ deepK c k ∧ deepK (c + 1) k = deepK c k + 1 := by unfold deepK; split <;> omega
      rw [higM_node hk, usesM_node hk, usesM_node hk, hr, ihl (deepK c k) (deepK d k) (deep_nn hd) hdd.1 (by omega), hdd.2]
/-- Below the place, nothing changes. -/
theorem uses_low0 (l : List Lm) : ∀ c d : Int, 0 ≤ c → c < d → usesM d l = 0 → usesM c (higM (-1) d l) = usesM c l := by
  induction l using Lm.indL with
  | h0 => intro c d _ _ _; simp [higM, usesM]
  | h k x l r ihl ihr =>
    intro c d hc hcd hu
    by_cases hk : k = 1
    · subst hk
      rw [usesM_var] at hu
      have hr := ihr c d hc hcd (by omega)
      have hne : x ≠ d := fun e => by rw [if_pos e] at hu; omega
      by_cases hx : x < d
      · rw [higM_lt hx, usesM_var, usesM_var, hr]
      · rw [higM_ge hx, usesM_var, usesM_var, hr, if_neg (by omega), if_neg (by omega)]
    · rw [usesM_node hk] at hu
      have hr := ihr c d hc hcd (by omega)
      have hdd : deepK c k < deepK d k := by unfold deepK; split <;> omega
      rw [higM_node hk, usesM_node hk, usesM_node hk, hr, ihl (deepK c k) (deepK d k) (deep_nn hc) hdd (by omega)]
/-- Two moves, one further out than the other. -/
theorem hig_comm (y : Int) (hy : y = 1 ∨ y = -1) (l : List Lm) : ∀ c d : Int, 0 ≤ c → c ≤ d → LfM l → usesM c l = 0 → (y = -1 → usesM (d + 1) l = 0) → higM (-1) c (higM y (d + 1) l) = higM y d (higM (-1) c l) := by
  induction l using Lm.indL with
  | h0 => intro c d _ _ _ _ _; simp [higM]
  | h k x l r ihl ihr =>
    intro c d hc hcd hl hu hv
    obtain ⟨h1, h2, h3⟩ := (LfM_cons k x l r).1 hl
    by_cases hk : k = 1
    · subst hk
      rw [usesM_var] at hu
      have hr := ihr c d hc hcd h3 (by omega) (fun e => by have := hv e; rw [usesM_var] at this; omega)
      rw [h1 rfl]
      have hne : x ≠ c := fun e => by rw [if_pos e] at hu; omega
      have hne2 : y = -1 → x ≠ d + 1 := fun e e2 => by have := hv e; rw [usesM_var, if_pos e2] at this; omega
      by_cases hx : x < c
      · rw [higM_lt (show x < d + 1 by omega), higM_lt hx, higM_lt hx, higM_lt (show x < d by omega), hr]
      · by_cases hx2 : x < d + 1
        · rw [higM_lt hx2, higM_ge hx, higM_ge hx, higM_lt (show x + -1 < d by omega), hr]
        · rw [higM_ge hx2, higM_ge (show ¬ x + y < c by omega), higM_ge hx, higM_ge (show ¬ x + -1 < d by omega), hr]
          congr 2
          omega
    · rw [usesM_node hk] at hu
      have hdd : deepK c k ≤ deepK d k ∧ deepK (d + 1) k = deepK d k + 1 := by unfold deepK; split <;> omega
      have hv1 : y = -1 → usesM (deepK (d + 1) k) l = 0 ∧ usesM (d + 1) r = 0 := fun e => by have := hv e; rw [usesM_node hk] at this; omega
      have hr := ihr c d hc hcd h3 (by omega) (fun e => (hv1 e).2)
      rw [higM_node hk, higM_node hk, higM_node hk, higM_node hk, hr, hdd.2, ihl (deepK c k) (deepK d k) (deep_nn hc) hdd.1 h2 (by omega) (fun e => by have := (hv1 e).1; rw [hdd.2] at this; exact this)]
#print axioms hig_comm
#print axioms uses_low0
#print axioms hig_back
#print axioms uses_up
end Go.Proofs.YtanbgnmcaijnnaaGreatDoor

/- Plain: eta is kept by moving what is bound, and done once it is done. -/
namespace Go.Proofs.YtanbgnmcaijnnaaGreatDoor
open Go.RowKit
set_option linter.unusedSimpArgs false
set_option linter.unusedVariables false
set_option maxRecDepth 8000

theorem usesM_cons (c : Int) (t : Lm) (r : List Lm) : usesM c (t :: r) = usesM c [t] + usesM c r := usesM_append c [t] r
theorem etaM_cons (k x : Int) (l r : List Lm) : etaM (⟨k, x, l⟩ :: r) = etaK k x (etaM l) :: etaM r := by rw [etaM]
theorem etaK_ne {k : Int} (h : k ≠ 2) (x : Int) (L : List Lm) : etaK k x L = ⟨k, x, L⟩ := by unfold etaK; rw [if_neg h]
theorem idle_iff (k x : Int) (f y : Lm) : idleT ⟨k, x, [f, y]⟩ = true ↔ k = 3 ∧ usesM 0 [f] = 0 ∧ y.kind = 1 ∧ y.idx = 0 := by
  unfold idleT
  simp only [Bool.and_eq_true, decide_eq_true_eq]
  constructor
  · rintro ⟨h1, ⟨h2, h3⟩, h4⟩; exact ⟨h1, h2, h3, h4⟩
  · rintro ⟨h1, h2, h3, h4⟩; exact ⟨h1, ⟨h2, h3⟩, h4⟩
theorem etaK_idle {x k2 x2 : Int} {f y : Lm} (h : idleT ⟨k2, x2, [f, y]⟩ = true) : etaK 2 x [⟨k2, x2, [f, y]⟩] = higT (-1) 0 f := by
  unfold etaK
  simp only [if_true, h]
theorem uses_eta (l : List Lm) : ∀ d : Int, 0 ≤ d → ShM l → usesM d (etaM l) = usesM d l := by
  induction l using Lm.indL with
  | h0 => intro d _ _; simp [etaM]
  | h k x l r ihl ihr =>
    intro d hd hs
    rw [ShM_cons] at hs
    have hr := ihr d hd hs.2.2
    rw [etaM_cons]
    by_cases h1 : k = 1
    · subst h1
      rw [etaK_ne (by omega), usesM_var, usesM_var, hr]
    · by_cases h2 : k = 2
      · subst h2
        have hl := ihl (deepK d 2) (deep_nn hd) hs.2.1
        have e2 : deepK d 2 = d + 1 := by simp [deepK]
        rcases etaK_two x (etaM l) with e | ⟨k2, x2, f, y, e1, e3, e4⟩
        · rw [e, usesM_node h1, usesM_node h1, hl, hr]
        · obtain ⟨rfl, hu, hy1, hy2⟩ := (idle_iff k2 x2 f y).1 e3
          rw [e4, usesM_cons, usesM_node h1, hr, ← hl, e1, e2, usesM_node (by omega)]
          have e5 : deepK (d + 1) 3 = d + 1 := by simp [deepK]
          have h6 := uses_low [f] d 0 (Int.le_refl 0) hd hu
          rw [higM_one] at h6
          obtain ⟨yk, yx, yl⟩ := y
          simp only at hy1 hy2
          subst hy1
          subst hy2
          have e7 : usesM (d + 1) [f, ⟨1, 0, yl⟩] = usesM (d + 1) [f] := by
            rw [usesM_cons (d + 1) f [⟨1, 0, yl⟩], usesM_var, if_neg (by omega)]
            simp [usesM]
          have e8 : usesM (d + 1) ([] : List Lm) = 0 := by simp [usesM]
          rw [h6, e5, e7, e8, Nat.add_zero]
      · rw [etaK_ne h2, usesM_node h1, usesM_node h1, ihl _ (deep_nn hd) hs.2.1, hr]
theorem sh_eta (l : List Lm) : ShM l → ShM (etaM l) := by
  induction l using Lm.indL with
  | h0 => intro _; simp [etaM, ShM]
  | h k x l r ihl ihr =>
    intro hs
    rw [ShM_cons] at hs
    have a1 := ihl hs.2.1
    have b1 := ihr hs.2.2
    have hlen : (etaM l).length = l.length := by rw [etaM_map]; simp
    rw [etaM_cons]
    have hkeep : ShM (⟨k, x, etaM l⟩ :: etaM r) := (ShM_cons _ _ _ _).2 ⟨by rw [hlen]; exact hs.1, a1, b1⟩
    by_cases k2 : k = 2
    · subst k2
      rcases etaK_two x (etaM l) with e | ⟨k2, x2, f, y, e1, e2, e3⟩
      · rw [e]; exact hkeep
      · rw [e3]
        rw [e1, ShM_cons] at a1
        have hf1 : ShM [f] := ShM.at 0 (by simp) a1.2.1
        have g1 := sh_hig [f] (-1) 0 hf1
        rw [higM_one] at g1
        generalize higT (-1) 0 f = q at *
        obtain ⟨qk, qx, ql⟩ := q
        rw [ShM_cons] at g1
        exact (ShM_cons _ _ _ _).2 ⟨g1.1, g1.2.1, b1⟩
    · rw [etaK_ne k2]; exact hkeep
theorem uses_move (y : Int) (hy : y = 1 ∨ y = -1) (l : List Lm) (d : Int) (hd : 0 ≤ d) (hu : y = -1 → usesM (d + 1) l = 0) : usesM 0 (higM y (d + 1) l) = usesM 0 l := by
  rcases hy with rfl | rfl
  · rw [uses_up l 0 (d + 1) (Int.le_refl 0) (by omega), if_neg (by omega)]
  · exact uses_low0 l 0 (d + 1) (Int.le_refl 0) (by omega) (hu rfl)
/-- Moving first, or eta first. -/
theorem eta_move (y : Int) (hy : y = 1 ∨ y = -1) (l : List Lm) : ∀ d : Int, 0 ≤ d → ShM l → (y = -1 → usesM d l = 0) → etaM (higM y d l) = higM y d (etaM l) := by
  induction l using Lm.indL with
  | h0 => intro d _ _ _; simp [etaM, higM]
  | h k x l r ihl ihr =>
    intro d hd hs hu
    rw [ShM_cons] at hs
    by_cases h1 : k = 1
    · subst h1
      have hr := ihr d hd hs.2.2 (fun e => by have := hu e; rw [usesM_var] at this; omega)
      have hl : l = [] := List.length_eq_zero_iff.1 (by rw [hs.1]; rfl)
      subst hl
      by_cases hx : x < d
      · rw [higM_lt hx, etaM_cons, etaM_cons, etaK_ne (by omega), hr]
        simp only [etaM]
        rw [higM_lt hx]
      · rw [higM_ge hx, etaM_cons, etaM_cons, etaK_ne (by omega), etaK_ne (by omega), hr]
        simp only [etaM]
        rw [higM_ge hx]
    · have hu1 : y = -1 → usesM (deepK d k) l = 0 ∧ usesM d r = 0 := fun e => by have := hu e; rw [usesM_node h1] at this; omega
      have hr := ihr d hd hs.2.2 (fun e => (hu1 e).2)
      have hl := ihl (deepK d k) (deep_nn hd) hs.2.1 (fun e => (hu1 e).1)
      rw [higM_node h1, etaM_cons, etaM_cons, hl, hr]
      by_cases h2 : k = 2
      case neg => rw [etaK_ne h2, etaK_ne h2, higM_node h1]
      subst h2
      have e2 : deepK d 2 = d + 1 := by simp [deepK]
      rw [e2] at hu1 ⊢
      have hsh := sh_eta l hs.2.1
      have hlen : (etaM l).length = 1 := by rw [etaM_map]; simpa [subsK] using hs.1
      have hue : y = -1 → usesM (d + 1) (etaM l) = 0 := fun e => by rw [uses_eta l (d + 1) (by omega) hs.2.1]; exact (hu1 e).1
      obtain ⟨q, hq⟩ := List.length_eq_one_iff.1 hlen
      rw [hq] at hsh hue ⊢
      rw [higM_one]
      have goal : etaK 2 x [higT y (d + 1) q] = higT y d (etaK 2 x [q]) := by
        rcases etaK_two x [q] with e | ⟨k2, x2, f, yy, e1, e3, e4⟩
        · rw [e]
          have e5 : higT y d ⟨2, x, [q]⟩ = ⟨2, x, [higT y (d + 1) q]⟩ := by
            unfold higT
            rw [if_neg (by simp)]
            simp only [e2, higM_one]
            rfl
          rw [e5]
          rcases etaK_two x [higT y (d + 1) q] with e6 | ⟨k2, x2, f, yy, e6, e7, e8⟩
          · exact e6
          · exfalso
            obtain ⟨rfl, g1, g2, g3⟩ := (idle_iff k2 x2 f yy).1 e7
            have e9 : higT y (d + 1) q = ⟨3, x2, [f, yy]⟩ := by simpa using e6
            obtain ⟨qk, qx, ql⟩ := q
            by_cases hk : qk = 1
            · subst hk
              unfold higT at e9
              rw [if_pos rfl] at e9
              split at e9 <;> simp at e9
            · unfold higT at e9
              rw [if_neg hk] at e9
              simp only [Lm.mk.injEq] at e9
              obtain ⟨rfl, rfl, e10⟩ := e9
              rw [show deepK (d + 1) 3 = d + 1 by simp [deepK]] at e10
              have hl2 : ql.length = 2 := by rw [ShM_cons] at hsh; rw [hsh.1]; rfl
              obtain ⟨f0, y0, rfl⟩ : ∃ f0 y0, ql = [f0, y0] := by
                match ql, hl2 with
                | [f0, y0], _ => exact ⟨f0, y0, rfl⟩
              rw [higM_map] at e10
              simp only [List.map_cons, List.map_nil, List.cons.injEq, and_true] at e10
              obtain ⟨rfl, rfl⟩ := e10
              have hu2 : y = -1 → usesM (d + 1) [f0] = 0 ∧ usesM (d + 1) [y0] = 0 := fun e => by
                have := hue e
                rw [usesM_node (by omega), show deepK (d + 1) 3 = d + 1 by simp [deepK], usesM_cons (d + 1) f0] at this
                simp [usesM] at this ⊢
                omega
              have g4 := uses_move y hy [f0] d hd (fun e => (hu2 e).1)
              rw [higM_one] at g4
              rw [g4] at g1
              obtain ⟨yk, yx, yl⟩ := y0
              have hyk : yk = 1 := by
                by_cases h : yk = 1
                · exact h
                · unfold higT at g2; rw [if_neg h] at g2; exact g2
              subst hyk
              have hyx : yx = 0 := by
                unfold higT at g3
                rw [if_pos rfl] at g3
                by_cases h : yx < d + 1
                · rw [if_pos h] at g3; exact g3
                · rw [if_neg h] at g3
                  simp only at g3
                  rcases hy with rfl | rfl
                  · omega
                  · have := (hu2 rfl).2
                    rw [usesM_var] at this
                    have h9 : yx ≠ d + 1 := fun e => by rw [if_pos e] at this; omega
                    omega
              have h10 : idleT ⟨3, qx, [f0, ⟨1, yx, yl⟩]⟩ = true := (idle_iff _ _ _ _).2 ⟨rfl, g1, rfl, hyx⟩
              rw [etaK_idle h10] at e
              have h12 : sizeM [higT (-1) 0 f0] = sizeM [(⟨2, x, [⟨3, qx, [f0, ⟨1, yx, yl⟩]⟩]⟩ : Lm)] := by rw [← e]
              have h13 := size_hig [f0] (-1) 0
              rw [higM_one] at h13
              have h14 : sizeM [(⟨2, x, [⟨3, qx, [f0, ⟨1, yx, yl⟩]⟩]⟩ : Lm)] = 1 + (1 + sizeM [f0, ⟨1, yx, yl⟩]) := by simp [sizeM]
              have h15 : sizeM [f0] ≤ sizeM [f0, ⟨1, yx, yl⟩] := sizeM_take_le [f0, ⟨1, yx, yl⟩] 1
              omega
        · rw [e4]
          obtain ⟨rfl, g1, g2, g3⟩ := (idle_iff k2 x2 f yy).1 e3
          have eq : q = ⟨3, x2, [f, yy]⟩ := by simpa using e1
          subst eq
          have hu2 : y = -1 → usesM (d + 1) [f] = 0 := fun e => by
            have := hue e
            rw [usesM_node (by omega), show deepK (d + 1) 3 = d + 1 by simp [deepK], usesM_cons (d + 1) f] at this
            omega
          have g4 := uses_move y hy [f] d hd hu2
          rw [higM_one] at g4
          obtain ⟨yk, yx, yl⟩ := yy
          simp only at g2 g3
          subst g2
          subst g3
          have e5 : higT y (d + 1) ⟨3, x2, [f, ⟨1, 0, yl⟩]⟩ = ⟨3, x2, [higT y (d + 1) f, ⟨1, 0, yl⟩]⟩ := by
            unfold higT
            rw [if_neg (by simp)]
            simp only [show deepK (d + 1) 3 = d + 1 by simp [deepK]]
            rw [higM_map]
            simp only [List.map_cons, List.map_nil]
            have e6 : higT y (d + 1) ⟨1, 0, yl⟩ = ⟨1, 0, yl⟩ := by unfold higT; rw [if_pos rfl, if_pos (by show (0 : Int) < d + 1; omega)]
            rw [e6]
            rfl
          rw [e5, etaK_idle ((idle_iff _ _ _ _).2 ⟨rfl, by rw [g4]; exact g1, rfl, rfl⟩)]
          have hfs : ShM [f] := by
            rw [ShM_cons] at hsh
            exact ShM.at 0 (by simp) hsh.2.1
          have h7 := hig_comm y hy [f] 0 d (Int.le_refl 0) hd (lf_of_shE _ hfs) g1 hu2
          rw [higM_one, higM_one, higM_one, higM_one] at h7
          simpa using h7
      rw [goal]
      have e9 : ∀ t : Lm, higM y d (t :: etaM r) = higT y d t :: higM y d (etaM r) := fun t => by rw [higM_map, higM_map]; rfl
      rw [e9]
#print axioms uses_eta
#print axioms eta_move
end Go.Proofs.YtanbgnmcaijnnaaGreatDoor

/- Plain: eta is done once it is done, undoes an expansion, and makes no step. -/
namespace Go.Proofs.YtanbgnmcaijnnaaGreatDoor
open Go.RowKit
set_option linter.unusedSimpArgs false
set_option linter.unusedVariables false
set_option maxRecDepth 8000

theorem etaM_one (t : Lm) : etaM [t] = [etaT t] := by rw [etaM_map]; rfl
theorem eta_idem (l : List Lm) : ShM l → etaM (etaM l) = etaM l := by
  induction l using Lm.indL with
  | h0 => intro _; simp [etaM]
  | h k x l r ihl ihr =>
    intro hs
    rw [ShM_cons] at hs
    have hl := ihl hs.2.1
    have hr := ihr hs.2.2
    have sl := sh_eta l hs.2.1
    rw [etaM_cons]
    by_cases h2 : k = 2
    · subst h2
      rcases etaK_two x (etaM l) with e | ⟨k2, x2, f, y, e1, e3, e4⟩
      · rw [e, etaM_cons, hl, e, hr]
      · rw [e4]
        obtain ⟨rfl, hu, hy1, hy2⟩ := (idle_iff k2 x2 f y).1 e3
        rw [e1] at hl sl
        rw [ShM_cons] at sl
        have sf : ShM [f] := ShM.at 0 (by simp) sl.2.1
        rw [etaM_cons, etaK_ne (by omega)] at hl
        have h3 : etaM [f, y] = [f, y] := by
          have := hl
          simp only [List.cons.injEq, Lm.mk.injEq, true_and] at this
          exact this.1
        have h4 : etaM [f] = [f] := by
          rw [etaM_map] at h3 ⊢
          simp only [List.map_cons, List.map_nil, List.cons.injEq] at h3 ⊢
          exact ⟨h3.1, trivial⟩
        have h5 := eta_move (-1) (Or.inr rfl) [f] 0 (Int.le_refl 0) sf (fun _ => hu)
        rw [h4, higM_one, etaM_one] at h5
        have h6 : etaT (higT (-1) 0 f) = higT (-1) 0 f := by simpa using h5
        rw [etaM_map, List.map_cons, ← etaM_map, hr, h6]
    · rw [etaK_ne h2, etaM_cons, hl, hr, etaK_ne h2]
theorem eta_wide (t : Lm) (hs : ShM [t]) : etaT ⟨2, 0, [⟨3, 0, [higT 1 0 t, ⟨1, 0, []⟩]⟩]⟩ = etaT t := by
  have h1 := eta_move 1 (Or.inl rfl) [t] 0 (Int.le_refl 0) hs (fun h => by omega)
  rw [higM_one, etaM_one, etaM_one, higM_one] at h1
  have h2 : etaT (higT 1 0 t) = higT 1 0 (etaT t) := by simpa using h1
  have h3 := sh_eta [t] hs
  rw [etaM_one] at h3
  have h4 := hig_back [etaT t] 0 (lf_of_shE _ h3)
  rw [higM_one, higM_one] at h4
  have h5 := uses_up [etaT t] 0 0 (Int.le_refl 0) (Int.le_refl 0)
  rw [higM_one, if_pos rfl] at h5
  have e1 : etaM [⟨3, 0, [higT 1 0 t, ⟨1, 0, []⟩]⟩] = [⟨3, 0, [higT 1 0 (etaT t), ⟨1, 0, []⟩]⟩] := by
    rw [etaM_cons, etaK_ne (by omega), etaM_map [higT 1 0 t, ⟨1, 0, []⟩], List.map_cons, List.map_cons, h2]
    simp [etaM, etaT, etaK]
  have h6 : idleT ⟨3, 0, [higT 1 0 (etaT t), ⟨1, 0, []⟩]⟩ = true := (idle_iff _ _ _ _).2 ⟨rfl, h5, rfl, rfl⟩
  have e2 : etaT ⟨2, 0, [⟨3, 0, [higT 1 0 t, ⟨1, 0, []⟩]⟩]⟩ = etaK 2 0 (etaM [⟨3, 0, [higT 1 0 t, ⟨1, 0, []⟩]⟩]) := rfl
  rw [e2, e1, etaK_idle h6]
  simpa using h4
theorem kind_hig (y d : Int) (t : Lm) : (higT y d t).kind = t.kind := by
  unfold higT
  split
  · split
    · rfl
    · rename_i h _; exact h.symm
  · rfl
theorem step_hig (l : List Lm) : ∀ y d, stepM l = false → stepM (higM y d l) = false := by
  induction l using Lm.indL with
  | h0 => intro y d _; simp [higM, stepM]
  | h k x l r ihl ihr =>
    intro y d h
    rw [stepM, Bool.or_eq_false_iff, Bool.or_eq_false_iff] at h
    obtain ⟨⟨a, b⟩, c⟩ := h
    by_cases h1 : k = 1
    · subst h1
      by_cases h : x < d
      · rw [higM_lt h, stepM, a, b, ihr y d c]; rfl
      · rw [higM_ge h, stepM, ihr y d c]
        simp [rdxT, stepM]
    · rw [higM_node h1, stepM, ihr y d c, ihl y _ b]
      have : rdxT ⟨k, x, higM y (deepK d k) l⟩ = rdxT ⟨k, x, l⟩ := by
        unfold rdxT
        cases l with
        | nil => simp [higM]
        | cons p q =>
          rw [higM_map]
          simp only [List.map_cons, kind_hig]
      rw [this, a]; rfl
theorem step_eta (l : List Lm) : stepM l = false → stepM (etaM l) = false := by
  induction l using Lm.indL with
  | h0 => intro _; simp [etaM, stepM]
  | h k x l r ihl ihr =>
    intro h
    rw [stepM, Bool.or_eq_false_iff, Bool.or_eq_false_iff] at h
    obtain ⟨⟨a, b⟩, c⟩ := h
    have hl := ihl b
    have hr := ihr c
    rw [etaM_cons]
    by_cases h2 : k = 2
    · subst h2
      rcases etaK_two x (etaM l) with e | ⟨k2, x2, f, y, e1, e3, e4⟩
      · rw [e, stepM, hl, hr]
        simp [rdxT]
      · rw [e4]
        have h5 := stepM_append [higT (-1) 0 f] (etaM r)
        rw [List.cons_append, List.nil_append] at h5
        rw [h5, hr, ← higM_one, Bool.or_false]
        rw [e1, stepM_one, Bool.or_eq_false_iff] at hl
        have h7 := stepM_append [f] [y]
        rw [List.cons_append, List.nil_append, hl.2] at h7
        exact step_hig [f] (-1) 0 (Bool.or_eq_false_iff.1 h7.symm).1
    · rw [etaK_ne h2, stepM, hl, hr, Bool.or_false, Bool.or_false]
      unfold rdxT at a ⊢
      cases l with
      | nil => simp [etaM]
      | cons p q =>
        obtain ⟨pk, px, pl⟩ := p
        rw [etaM_cons]
        simp only at a ⊢
        rw [Bool.and_eq_false_iff] at a ⊢
        rcases a with a | a
        · exact Or.inl a
        · right
          have a2 : pk ≠ 2 := by simpa using a
          rw [etaK_ne a2]
          exact a
#print axioms eta_idem
#print axioms eta_wide
#print axioms step_eta
end Go.Proofs.YtanbgnmcaijnnaaGreatDoor

/- Plain: eta keeps a term that may be; how great a step is; no step. -/
namespace Go.Proofs.YtanbgnmcaijnnaaGreatDoor
open Go.RowKit
set_option linter.unusedSimpArgs false
set_option linter.unusedVariables false
set_option maxRecDepth 8000

theorem err_low (m : Int) (l : List Lm) : ∀ u c : Int, 0 ≤ u → 0 ≤ c → errM (u + c + 1) m l = 0 → usesM c l = 0 → errM (u + c) m (higM (-1) c l) = 0 := by
  induction l using Lm.indL with
  | h0 => intro u c _ _ _ _; simp [higM, errM]
  | h k x l r ihl ihr =>
    intro u c hu hc h hn
    obtain ⟨h1, h2⟩ := err_two0.1 h
    obtain ⟨h3, h4⟩ := err_one0.1 h1
    obtain ⟨a1, a2, a3, a4⟩ := knE_zero.1 h3
    by_cases hk : k = 1
    · subst hk
      have hl : l = [] := List.length_eq_zero_iff.1 (by rw [a2]; rfl)
      subst hl
      rw [usesM_var] at hn
      have hx : x ≠ c := fun e => by rw [if_pos e] at hn; omega
      have a5 : x < u + c + 1 := by simpa [mostK] using a4
      by_cases hlt : x < c
      · rw [higM_lt hlt]
        exact err_two0.2 ⟨err_one0.2 ⟨knE_zero.2 ⟨a1, a2, a3, by show x < mostK _ _ 1; simp [mostK]; omega⟩, by simp [errM]⟩, ihr u c hu hc h2 (by omega)⟩
      · rw [higM_ge hlt]
        exact err_two0.2 ⟨err_one0.2 ⟨knE_zero.2 ⟨by omega, rfl, by omega, by show x + -1 < mostK _ _ 1; simp [mostK]; omega⟩, by simp [errM]⟩, ihr u c hu hc h2 (by omega)⟩
    · rw [usesM_node hk] at hn
      rw [higM_node hk]
      refine err_two0.2 ⟨err_one0.2 ⟨knE_zero.2 ⟨a1, by rw [hig_len]; exact a2, a3, by rw [mostK_ne hk (u' := u + c + 1)]; exact a4⟩, ?_⟩, ihr u c hu hc h2 (by omega)⟩
      by_cases h2 : k = 2
      · subst h2
        have e1 : deepK (u + c) 2 = u + (c + 1) := by simp [deepK]; omega
        have e2 : deepK c 2 = c + 1 := by simp [deepK]
        have e3 : deepK (u + c + 1) 2 = u + (c + 1) + 1 := by simp [deepK]; omega
        rw [e2] at hn
        rw [e1, e2]
        rw [e3] at h4
        exact ihl u (c + 1) hu (by omega) h4 (by omega)
      · have e1 : ∀ z, deepK z k = z := fun z => by simp [deepK, h2]
        rw [e1] at hn
        rw [e1, e1]
        rw [e1] at h4
        exact ihl u c hu hc h4 (by omega)
theorem err_eta (m : Int) (l : List Lm) : ∀ u : Int, 0 ≤ u → errM u m l = 0 → errM u m (etaM l) = 0 := by
  induction l using Lm.indL with
  | h0 => intro u _ _; simp [etaM, errM]
  | h k x l r ihl ihr =>
    intro u hu h
    obtain ⟨h1, h2⟩ := err_two0.1 h
    obtain ⟨h3, h4⟩ := err_one0.1 h1
    obtain ⟨a1, a2, a3, a4⟩ := knE_zero.1 h3
    have hlen : (etaM l).length = l.length := by rw [etaM_map]; simp
    have g1 := ihl (deepK u k) (deep_nn hu) h4
    have g2 := ihr u hu h2
    have hk : errM u m [(⟨k, x, etaM l⟩ : Lm)] = 0 := err_one0.2 ⟨knE_zero.2 ⟨a1, by rw [hlen]; exact a2, a3, a4⟩, g1⟩
    rw [etaM_cons]
    refine err_two0.2 ⟨?_, g2⟩
    by_cases k2 : k = 2
    · subst k2
      rcases etaK_two x (etaM l) with e | ⟨k2, x2, f, y, e1, e3, e4⟩
      · rw [e]; exact hk
      · rw [e4]
        obtain ⟨rfl, hf, hy1, hy2⟩ := (idle_iff k2 x2 f y).1 e3
        rw [e1, show deepK u 2 = u + 1 by simp [deepK]] at g1
        obtain ⟨_, g3⟩ := err_one0.1 g1
        rw [show deepK (u + 1) 3 = u + 1 by simp [deepK]] at g3
        have g4 := (err_two0.1 g3).1
        have g5 := err_low m [f] u 0 hu (Int.le_refl 0) (by simpa using g4) hf
        rw [higM_one] at g5
        simpa using g5
    · rw [etaK_ne k2]; exact hk
theorem size_eta (l : List Lm) : sizeM (etaM l) ≤ sizeM l := by
  induction l using Lm.indL with
  | h0 => simp [etaM]
  | h k x l r ihl ihr =>
    have hc : ∀ (t : Lm) (r : List Lm), sizeM (t :: r) = sizeM [t] + sizeM r := fun t r => sizeM_append [t] r
    rw [etaM_cons, hc, hc _ r, sizeM_one]
    by_cases k2 : k = 2
    · subst k2
      rcases etaK_two x (etaM l) with e | ⟨k2, x2, f, y, e1, e3, e4⟩
      · rw [e, sizeM_one]; omega
      · rw [e4]
        have h13 := size_hig [f] (-1) 0
        rw [higM_one] at h13
        rw [e1, sizeM_one, hc f] at ihl
        omega
    · rw [etaK_ne k2, sizeM_one]; omega
theorem stepM_get {l : List Lm} {k : Nat} (h : k < l.length) (hs : stepM l = false) : stepM [l[k]] = false := by
  cases h1 : stepM [l[k]] with
  | false => rfl
  | true => rw [stepM_of h h1] at hs; exact hs
/-- Where there is no step, none is told. -/
theorem hnd_none (n : Nat) : ∀ (t : Lm), stepM [t] = false → hndT n t = [] := by
  induction n with
  | zero => intro t _; rfl
  | succ n ih =>
    rintro ⟨k, x, l⟩ h
    rw [stepM_one, Bool.or_eq_false_iff] at h
    rw [hndT]
    have h1 : hndH ⟨k, x, l⟩ = [] := by unfold hndH; rw [if_neg (by rw [h.1]; decide)]
    rw [h1, List.nil_append]
    apply List.eq_nil_iff_forall_not_mem.2
    intro p hp
    obtain ⟨q, hq, p', h2, _⟩ := hndR_mem hp
    rw [ih _ (stepM_get hq h.2)] at h2
    simp at h2
theorem sizeM_put (l : List Lm) (i : Nat) (h : i < l.length) (y : Lm) : sizeM (l.set i y) + sizeM [l[i]] = sizeM l + sizeM [y] := by
  induction l generalizing i with
  | nil => simp at h
  | cons t r ih =>
    have hc : ∀ (t : Lm) (r : List Lm), sizeM (t :: r) = sizeM [t] + sizeM r := fun t r => sizeM_append [t] r
    cases i with
    | zero => simp only [List.set_cons_zero, List.getElem_cons_zero]; rw [hc y r, hc t r]; omega
    | succ i =>
      simp only [List.set_cons_succ, List.getElem_cons_succ]
      have := ih i (by simpa using h)
      rw [hc t, hc t r]; omega
theorem four_mul (b z : Nat) : 4 * (b * z) ≤ (b + z) * (b + z) := by
  rcases Nat.le_total b z with h | h
  · obtain ⟨d, rfl⟩ := Nat.le.dest h
    have : (b + (b + d)) * (b + (b + d)) = 4 * (b * (b + d)) + d * d := by
      simp only [Nat.mul_add, Nat.add_mul, Nat.mul_comm d b]; omega
    omega
  · obtain ⟨d, rfl⟩ := Nat.le.dest h
    have : (z + d + z) * (z + d + z) = 4 * ((z + d) * z) + d * d := by
      simp only [Nat.mul_add, Nat.add_mul, Nat.mul_comm d z]; omega
    omega
/-- How great what a step makes is. -/
theorem hnd_size (n : Nat) : ∀ (t : Lm) (p : Hnd), LfM [t] → p ∈ hndT n t → 4 * sizeM [p.2.2] ≤ sizeM [t] * sizeM [t] + 4 * sizeM [t] := by
  induction n with
  | zero => intro t p _ h; simp [hndT] at h
  | succ n ih =>
    rintro ⟨k, x, l⟩ p hf h
    rw [hndT] at h
    have hl : LfM l := ((LfM_cons k x l []).1 hf).2.1
    rcases List.mem_append.1 h with h | h
    · unfold hndH at h
      split at h
      · simp only [List.mem_singleton] at h
        have e : p.2.2 = conT l := by rw [h]; unfold hndC; split <;> rfl
        rw [e]
        unfold conT
        split
        · rename_i k1 x1 b z _ _
          have hb : LfM [b] := ((LfM_cons _ _ _ _).1 hl).2.1
          have hz : LfM [z] := ((LfM_cons _ _ _ _).1 hl).2.2
          have h1 := insT_size (d := 0) hz hb
          have h2 := usesM_le [b] 0
          have h3 : usesM 0 [b] * sizeM [z] ≤ sizeM [b] * sizeM [z] := Nat.mul_le_mul_right _ h2
          have h4 := four_mul (sizeM [b]) (sizeM [z])
          have h5 : sizeM [(⟨k, x, [⟨k1, x1, [b]⟩, z]⟩ : Lm)] = 1 + (1 + sizeM [b] + sizeM [z]) := by
            rw [sizeM_one, show sizeM [(⟨k1, x1, [b]⟩ : Lm), z] = sizeM [(⟨k1, x1, [b]⟩ : Lm)] + sizeM [z] from sizeM_append [⟨k1, x1, [b]⟩] [z], sizeM_one]
          rw [h5]
          have h6 : (sizeM [b] + sizeM [z]) * (sizeM [b] + sizeM [z]) ≤ (1 + (1 + sizeM [b] + sizeM [z])) * (1 + (1 + sizeM [b] + sizeM [z])) := Nat.mul_le_mul (by omega) (by omega)
          omega
        · rw [sizeM_one]
          simp [sizeM]
          omega
      · simp at h
    · obtain ⟨q, hq, p', h2, rfl⟩ := hndR_mem h
      have h3 := ih _ _ (LfM.at q hq hl) h2
      have h4 := sizeM_put l q hq p'.2.2
      have h5 := sizeM_get l q hq
      show 4 * sizeM [(⟨k, x, l.set q p'.2.2⟩ : Lm)] ≤ _
      rw [sizeM_one, sizeM_one]
      have h6 : sizeM [l[q]] * sizeM [l[q]] ≤ (1 + sizeM l) * (1 + sizeM l) := Nat.mul_le_mul (by omega) (by omega)
      omega
#print axioms err_eta
#print axioms size_eta
#print axioms hnd_none
#print axioms hnd_size
end Go.Proofs.YtanbgnmcaijnnaaGreatDoor
