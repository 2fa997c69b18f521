/- Several texts in one. -/
import Derived.Test.YtnllgbcakmddkaaGreatDoorZBTopTakahashiOwn
import Derived.Test.YtnllgbcakmddkaaGreatDoorZETopTakahashiOwn
import Derived.Test.YtnllgbcakmddkaaGreatDoorZDTopTakahashiOwn
import Derived.Test.YtnllgbcakmddkaaGreatDoorZITopTakahashiOwn
/- Lambda terms in plain: all ways of working them out come together again (by complete developments). -/
namespace Go.Proofs.YtnllgbcakmddkaaGreatDoor

inductive PX where
  | v (i : Nat)
  | c (k : Int)
  | l (b : PX)
  | a (f x : PX)

/-- Other names for what is bound from outside. -/
def PX.upr (r : Nat → Nat) : Nat → Nat
  | 0 => 0
  | i + 1 => r i + 1
def PX.ren (r : Nat → Nat) : PX → PX
  | .v i => .v (r i)
  | .c k => .c k
  | .l b => .l (b.ren (upr r))
  | .a f x => .a (f.ren r) (x.ren r)
/-- Terms for what is bound from outside. -/
def PX.up (s : Nat → PX) : Nat → PX
  | 0 => .v 0
  | i + 1 => (s i).ren (· + 1)
def PX.sub (s : Nat → PX) : PX → PX
  | .v i => s i
  | .c k => .c k
  | .l b => .l (b.sub (up s))
  | .a f x => .a (f.sub s) (x.sub s)
/-- One term for the nearest. -/
def PX.ins (z : PX) : Nat → PX
  | 0 => z
  | i + 1 => .v i

theorem PX.upr_comp (r q : Nat → Nat) : (fun i => upr r (upr q i)) = upr (fun i => r (q i)) := by
  funext i; cases i <;> rfl
theorem PX.ren_ren (t : PX) : ∀ (r q : Nat → Nat), (t.ren q).ren r = t.ren (fun i => r (q i)) := by
  induction t with
  | v i => intro r q; rfl
  | c k => intro r q; rfl
  | l b ih => intro r q; simp only [PX.ren]; rw [ih, PX.upr_comp]
  | a f x hf hx => intro r q; simp only [PX.ren]; rw [hf, hx]
theorem PX.up_upr (s : Nat → PX) (r : Nat → Nat) : (fun i => up s (upr r i)) = up (fun i => s (r i)) := by
  funext i; cases i <;> rfl
theorem PX.sub_ren (t : PX) : ∀ (s : Nat → PX) (r : Nat → Nat), (t.ren r).sub s = t.sub (fun i => s (r i)) := by
  induction t with
  | v i => intro s r; rfl
  | c k => intro s r; rfl
  | l b ih => intro s r; simp only [PX.ren, PX.sub]; rw [ih, PX.up_upr]
  | a f x hf hx => intro s r; simp only [PX.ren, PX.sub]; rw [hf, hx]
theorem PX.ren_up (r : Nat → Nat) (s : Nat → PX) : (fun i => (up s i).ren (upr r)) = up (fun i => (s i).ren r) := by
  funext i
  cases i with
  | zero => rfl
  | succ i => simp only [PX.up]; rw [PX.ren_ren, PX.ren_ren]; rfl
theorem PX.ren_sub (t : PX) : ∀ (r : Nat → Nat) (s : Nat → PX), (t.sub s).ren r = t.sub (fun i => (s i).ren r) := by
  induction t with
  | v i => intro r s; rfl
  | c k => intro r s; rfl
  | l b ih => intro r s; simp only [PX.ren, PX.sub]; rw [ih, PX.ren_up]
  | a f x hf hx => intro r s; simp only [PX.ren, PX.sub]; rw [hf, hx]
theorem PX.sub_up (s q : Nat → PX) : (fun i => (up q i).sub (up s)) = up (fun i => (q i).sub s) := by
  funext i
  cases i with
  | zero => rfl
  | succ i => simp only [PX.up]; rw [PX.sub_ren, PX.ren_sub]; rfl
theorem PX.sub_sub (t : PX) : ∀ (s q : Nat → PX), (t.sub q).sub s = t.sub (fun i => (q i).sub s) := by
  induction t with
  | v i => intro s q; rfl
  | c k => intro s q; rfl
  | l b ih => intro s q; simp only [PX.sub]; rw [ih, PX.sub_up]
  | a f x hf hx => intro s q; simp only [PX.sub]; rw [hf, hx]
theorem PX.up_v : up PX.v = PX.v := by funext i; cases i <;> rfl
theorem PX.sub_v (t : PX) : t.sub PX.v = t := by
  induction t with
  | v i => rfl
  | c k => rfl
  | l b ih => simp only [PX.sub]; rw [PX.up_v, ih]
  | a f x hf hx => simp only [PX.sub]; rw [hf, hx]
theorem PX.ren_is (t : PX) : ∀ (r : Nat → Nat), t.ren r = t.sub (fun i => .v (r i)) := by
  induction t with
  | v i => intro r; rfl
  | c k => intro r; rfl
  | l b ih =>
    intro r; simp only [PX.ren, PX.sub]; rw [ih]
    congr 2
    funext i; cases i <;> rfl
  | a f x hf hx => intro r; simp only [PX.ren, PX.sub]; rw [hf, hx]
/-- Terms put into what was put in. -/
theorem PX.sub_ins (s : Nat → PX) (z b : PX) : (b.sub (ins z)).sub s = (b.sub (up s)).sub (ins (z.sub s)) := by
  rw [PX.sub_sub, PX.sub_sub]
  congr 1
  funext i
  cases i with
  | zero => rfl
  | succ i =>
    simp only [PX.ins, PX.up, PX.sub]
    rw [PX.sub_ren]
    exact (PX.sub_v (s i)).symm
theorem PX.ren_ins (r : Nat → Nat) (z b : PX) : (b.sub (ins z)).ren r = (b.ren (upr r)).sub (ins (z.ren r)) := by
  rw [PX.ren_is, PX.sub_ins, PX.ren_is z r, PX.ren_is b (upr r)]
  congr 2
  funext i; cases i <;> rfl

/-- Some steps at once. -/
inductive PX.Par : PX → PX → Prop where
  | v (i : Nat) : Par (.v i) (.v i)
  | c (k : Int) : Par (.c k) (.c k)
  | l {b b' : PX} : Par b b' → Par (.l b) (.l b')
  | a {f f' x x' : PX} : Par f f' → Par x x' → Par (.a f x) (.a f' x')
  | b {b b' x x' : PX} : Par b b' → Par x x' → Par (.a (.l b) x) (b'.sub (ins x'))
theorem PX.Par.refl : ∀ t : PX, Par t t
  | .v i => .v i
  | .c k => .c k
  | .l y => .l (Par.refl y)
  | .a f x => .a (Par.refl f) (Par.refl x)
theorem PX.Par.ren {t s : PX} (h : Par t s) : ∀ r : Nat → Nat, Par (t.ren r) (s.ren r) := by
  induction h with
  | v i => intro r; exact .v _
  | c k => intro r; exact .c _
  | l _ ih => intro r; exact .l (ih _)
  | a _ _ h1 h2 => intro r; exact .a (h1 _) (h2 _)
  | b _ _ h1 h2 => intro r; rw [PX.ren_ins]; exact .b (h1 _) (h2 _)
theorem PX.Par.up {s s' : Nat → PX} (h : ∀ i, Par (s i) (s' i)) : ∀ i, Par (PX.up s i) (PX.up s' i)
  | 0 => .v 0
  | i + 1 => (h i).ren _
theorem PX.Par.sub {t t' : PX} (h : Par t t') : ∀ {s s' : Nat → PX}, (∀ i, Par (s i) (s' i)) → Par (t.sub s) (t'.sub s') := by
  induction h with
  | v i => intro s s' hs; exact hs i
  | c k => intro s s' hs; exact .c k
  | l _ ih => intro s s' hs; exact .l (ih (PX.Par.up hs))
  | a _ _ h1 h2 => intro s s' hs; exact .a (h1 hs) (h2 hs)
  | b _ _ h1 h2 => intro s s' hs; rw [PX.sub_ins]; exact .b (h1 (PX.Par.up hs)) (h2 hs)
theorem PX.Par.ins {z z' b b' : PX} (hz : Par z z') (hb : Par b b') : Par (b.sub (PX.ins z)) (b'.sub (PX.ins z')) :=
  hb.sub fun i => by cases i with | zero => exact hz | succ i => exact .v i

/-- All steps at once. -/
def PX.dev : PX → PX
  | .v i => .v i
  | .c k => .c k
  | .l b => .l b.dev
  | .a (.l b) x => b.dev.sub (ins x.dev)
  | .a f x => .a f.dev x.dev
theorem PX.Par.lam {b t : PX} (h : Par (.l b) t) : ∃ b', t = .l b' ∧ Par b b' := by
  cases h with
  | l h => exact ⟨_, rfl, h⟩
theorem PX.taka {t s : PX} (h : Par t s) : Par s t.dev := by
  induction h with
  | v i => exact .v i
  | c k => exact .c k
  | l _ ih => exact .l ih
  | @a f f' x x' h1 h2 i1 i2 =>
    cases f with
    | v i => exact .a i1 i2
    | c k => exact .a i1 i2
    | a g y => exact .a i1 i2
    | l b =>
      obtain ⟨b', rfl, hb⟩ := h1.lam
      simp only [PX.dev]
      have i1' : Par (.l b') (.l b.dev) := i1
      obtain ⟨b2, e, hb2⟩ := i1'.lam
      cases e
      exact .b hb2 i2
  | b _ _ i1 i2 => exact PX.Par.ins i2 i1

/-- Again and again. -/
inductive PX.Pars : PX → PX → Prop where
  | refl (t : PX) : Pars t t
  | tail {t s u : PX} : Pars t s → Par s u → Pars t u
theorem PX.Pars.trans {t s u : PX} (h : Pars t s) (k : Pars s u) : Pars t u := by
  induction k with
  | refl => exact h
  | tail _ h2 ih => exact .tail ih h2
theorem PX.Pars.one {t s : PX} (h : Par t s) : Pars t s := .tail (.refl t) h
theorem PX.strip {t s u : PX} (h : Par t s) (k : Pars t u) : ∃ w, Pars s w ∧ Par u w := by
  induction k with
  | refl => exact ⟨s, .refl s, h⟩
  | tail _ h2 ih =>
    obtain ⟨w, h3, h4⟩ := ih
    exact ⟨_, h3.tail (PX.taka h4), PX.taka h2⟩
/-- CHURCH, ROSSER. -/
theorem PX.meet {t s u : PX} (h : Pars t s) (k : Pars t u) : ∃ w, Pars s w ∧ Pars u w := by
  induction h with
  | refl => exact ⟨u, k, .refl u⟩
  | tail _ h2 ih =>
    obtain ⟨w, h3, h4⟩ := ih
    obtain ⟨x, h5, h6⟩ := PX.strip h2 h3
    exact ⟨x, h5, h4.tail h6⟩

/-- Is there a step? -/
def PX.isl : PX → Bool
  | .l _ => true
  | _ => false
def PX.st : PX → Bool
  | .v _ => false
  | .c _ => false
  | .l b => b.st
  | .a f x => f.isl || f.st || x.st
theorem PX.Par.nf {t s : PX} (h : Par t s) : t.st = false → s = t := by
  induction h with
  | v i => intro _; rfl
  | c k => intro _; rfl
  | l _ ih => intro hn; rw [ih hn]
  | a _ _ h1 h2 => intro hn; simp [PX.st] at hn; rw [h1 hn.1.2, h2 hn.2]
  | b _ _ _ _ => intro hn; simp [PX.st, PX.isl] at hn
theorem PX.Pars.nf {t s : PX} (h : Pars t s) (hn : t.st = false) : s = t := by
  induction h with
  | refl => rfl
  | tail _ h2 ih => subst ih; exact h2.nf hn
/-- One end alone. -/
theorem PX.only {t s u : PX} (h : Pars t s) (k : Pars t u) (hs : s.st = false) (hu : u.st = false) : s = u := by
  obtain ⟨w, h1, h2⟩ := PX.meet h k
  rw [← h1.nf hs, ← h2.nf hu]
end Go.Proofs.YtnllgbcakmddkaaGreatDoor

/- Plain: what a lambda term develops to. -/
namespace Go.Proofs.YtnllgbcakmddkaaGreatDoor
open Go.RowKit
set_option linter.unusedSimpArgs false
set_option linter.unusedVariables false
set_option maxRecDepth 8000

theorem hig_size (y : Int) (l : List Lm) : ∀ d, LfM l → sizeM (higM y d l) = sizeM l := by
  induction l using Lm.indL with
  | h0 => intro d _; simp [higM]
  | h k x l r ihl ihr =>
    intro d h
    obtain ⟨h1, h2, h3⟩ := (LfM_cons k x l r).1 h
    rw [higM]
    by_cases hk : k = 1
    · rw [if_pos hk, h1 hk]
      split <;> simp [sizeM, ihr d h3]
    · rw [if_neg hk]
      simp [sizeM, ihr d h3, ihl _ h2]
theorem higT_size {y d : Int} {t : Lm} (h : LfM [t]) : sizeM [higT y d t] = sizeM [t] := by
  have := hig_size y [t] d h
  rw [higM_map] at this
  exact this
/-- How great a term becomes. -/
theorem ins_size (z : Lm) (hz : LfM [z]) (l : List Lm) : ∀ d, LfM l → sizeM (insM z d l) + usesM d l = sizeM l + usesM d l * sizeM [z] := by
  induction l using Lm.indL with
  | h0 => intro d _; simp [insM, usesM]
  | h k x l r ihl ihr =>
    intro d h
    obtain ⟨h1, h2, h3⟩ := (LfM_cons k x l r).1 h
    have h4 := ihr d h3
    have e0 : sizeM (⟨k, x, l⟩ :: r) = 1 + sizeM l + sizeM r := by simp [sizeM]
    rw [insM, usesM, e0]
    by_cases hk : k = 1
    · subst hk
      rw [h1 rfl]
      simp only [if_true]
      have e1 : ∀ (t : Lm) (r' : List Lm), sizeM (t :: r') = sizeM [t] + sizeM r' := fun t r' => sizeM_append [t] r'
      by_cases hx : x < d
      · rw [if_pos hx, if_neg (by omega), e1]
        simp [sizeM] at h4 ⊢
        omega
      · rw [if_neg hx]
        by_cases hd : x = d
        · rw [if_pos hd, if_pos hd, e1, higT_size hz]
          simp [sizeM, Nat.add_mul]
          omega
        · rw [if_neg hd, if_neg hd, e1]
          simp [sizeM] at h4 ⊢
          omega
    · rw [if_neg hk, if_neg hk]
      have h5 := ihl (deepK d k) h2
      have e1 : sizeM (⟨k, x, insM z (deepK d k) l⟩ :: insM z d r) = 1 + sizeM (insM z (deepK d k) l) + sizeM (insM z d r) := by simp [sizeM]
      rw [e1, Nat.add_mul]
      omega
theorem insT_size {z t : Lm} {d : Int} (hz : LfM [z]) (ht : LfM [t]) : sizeM [insT z d t] + usesM d [t] = sizeM [t] + usesM d [t] * sizeM [z] := by
  have := ins_size z hz [t] d ht
  rw [insM_map] at this
  exact this
/-- All of a list developed; none where one is too great. -/
def devL (f : Lm → Option Lm) : List Lm → Option (List Lm)
  | [] => some []
  | y :: r => match f y with
    | none => none
    | some z => match devL f r with
      | none => none
      | some q => some (z :: q)
/-- What a knot comes to. -/
def devK (k x : Int) (l l' : List Lm) : Lm := if rdxT ⟨k, x, l⟩ = true then conT l' else ⟨k, x, l'⟩
def devT : Nat → Lm → Option Lm
  | 0, _ => none
  | n + 1, ⟨k, x, l⟩ => match devL (devT n) l with
    | none => none
    | some l' => if 2000 < sizeM [devK k x l l'] then none else some (devK k x l l')
theorem devL_cons (f : Lm → Option Lm) (y : Lm) (r : List Lm) : devL f (y :: r) = match f y with
    | none => none
    | some z => match devL f r with
      | none => none
      | some q => some (z :: q) := rfl
theorem devL_append (f : Lm → Option Lm) : ∀ (a b : List Lm) (a' : List Lm), devL f a = some a' → devL f (a ++ b) = (devL f b).map (a' ++ ·)
  | [], b, a', h => by
    simp [devL] at h
    subst h
    rw [List.nil_append]
    cases devL f b <;> simp
  | y :: r, b, a', h => by
    rw [devL_cons] at h
    rw [List.cons_append, devL_cons]
    cases hy : f y with
    | none => rw [hy] at h; cases h
    | some z =>
      rw [hy] at h
      cases hr : devL f r with
      | none => rw [hr] at h; cases h
      | some q =>
        rw [hr] at h
        simp at h
        subst h
        simp only [devL_append f r b q hr]
        cases devL f b <;> simp
theorem devL_step {f : Lm → Option Lm} {l out : List Lm} {q : Nat} (h : q < l.length) (ho : devL f (l.take q) = some out) {z : Lm} (hz : f l[q] = some z) : devL f (l.take (q + 1)) = some (out ++ [z]) := by
  rw [List.take_succ_eq_append_getElem h, devL_append f _ _ _ ho]
  simp [devL, hz]
theorem devL_stop {f : Lm → Option Lm} {l out : List Lm} {q : Nat} (h : q < l.length) (ho : devL f (l.take q) = some out) (hz : f l[q] = none) : devL f l = none := by
  have e : l = l.take q ++ l[q] :: l.drop (q + 1) := by rw [← List.drop_eq_getElem_cons h, List.take_append_drop]
  rw [e, devL_append f _ _ _ ho]
  simp [devL, hz]
theorem devL_len {f : Lm → Option Lm} : ∀ {l l' : List Lm}, devL f l = some l' → l'.length = l.length
  | [], l', h => by simp [devL] at h; subst h; rfl
  | y :: r, l', h => by
    rw [devL_cons] at h
    cases hy : f y with
    | none => rw [hy] at h; cases h
    | some z =>
      rw [hy] at h
      cases hr : devL f r with
      | none => rw [hr] at h; cases h
      | some q =>
        rw [hr] at h
        simp at h
        subst h
        simp [devL_len hr]
theorem devL_mem {f : Lm → Option Lm} : ∀ {l l' : List Lm}, devL f l = some l' → ∀ z ∈ l', ∃ y ∈ l, f y = some z
  | [], l', h, z, hz => by simp [devL] at h; subst h; cases hz
  | y :: r, l', h, z, hz => by
    rw [devL_cons] at h
    cases hy : f y with
    | none => rw [hy] at h; cases h
    | some z0 =>
      rw [hy] at h
      cases hr : devL f r with
      | none => rw [hr] at h; cases h
      | some q =>
        rw [hr] at h
        simp at h
        subst h
        rcases List.mem_cons.1 hz with rfl | hz
        · exact ⟨y, by simp, hy⟩
        · obtain ⟨y', h1, h2⟩ := devL_mem hr z hz
          exact ⟨y', by simp [h1], h2⟩
theorem devT_succ {n : Nat} {k x : Int} {l l' : List Lm} (h : devL (devT n) l = some l') : devT (n + 1) ⟨k, x, l⟩ = if 2000 < sizeM [devK k x l l'] then none else some (devK k x l l') := by
  rw [devT, h]
theorem devT_none {n : Nat} {k x : Int} {l : List Lm} (h : devL (devT n) l = none) : devT (n + 1) ⟨k, x, l⟩ = none := by
  rw [devT, h]
/-- A binder stays a binder. -/
theorem devT_lam {n : Nat} {x : Int} {b t' : Lm} (h : devT n ⟨2, x, [b]⟩ = some t') : ∃ b', t' = ⟨2, x, [b']⟩ := by
  cases n with
  | zero => simp [devT] at h
  | succ n =>
    cases hl : devL (devT n) [b] with
    | none => rw [devT_none hl] at h; cases h
    | some l' =>
      rw [devT_succ hl] at h
      have h1 := devL_len hl
      split at h
      · cases h
      · have e : devK 2 x [b] l' = ⟨2, x, l'⟩ := by unfold devK rdxT; simp
        rw [e] at h
        obtain ⟨b', rfl⟩ := List.length_eq_one_iff.1 h1
        exact ⟨b', by simpa using h.symm⟩
theorem err_dev (m : Int) (n : Nat) : ∀ (t t' : Lm) (u : Int), 0 ≤ u → errM u m [t] = 0 → devT n t = some t' → errM u m [t'] = 0 ∧ sizeM [t'] ≤ 2000 := by
  induction n with
  | zero => intro t t' u _ _ h; simp [devT] at h
  | succ n ih =>
    rintro ⟨k, x, l⟩ t' u hu he h
    cases hl : devL (devT n) l with
    | none => rw [devT_none hl] at h; cases h
    | some l' =>
      rw [devT_succ hl] at h
      split at h
      · cases h
      · rename_i hz
        simp at h
        subst h
        refine ⟨?_, by omega⟩
        obtain ⟨h3, h4⟩ := err_one0.1 he
        have hd : 0 ≤ deepK u k := by unfold deepK; split <;> omega
        have h5 : errM (deepK u k) m l' = 0 := err_all0.2 fun y hy => by
          obtain ⟨y0, h1, h2⟩ := devL_mem hl y hy
          exact (ih _ _ _ hd (err_all0.1 h4 y0 h1) h2).1
        unfold devK
        split
        · rename_i hr
          obtain ⟨x', i, b, z, e, h1, h2⟩ := subs_two he hr
          cases e
          rw [devL_cons] at hl
          cases hf : devT n ⟨2, i, [b]⟩ with
          | none => rw [hf] at hl; cases hl
          | some f' =>
            rw [hf] at hl
            obtain ⟨b', rfl⟩ := devT_lam hf
            cases hzz : devL (devT n) [z] with
            | none => rw [hzz] at hl; cases hl
            | some lz =>
              rw [hzz] at hl
              obtain ⟨z', rfl⟩ := List.length_eq_one_iff.1 (devL_len hzz)
              simp at hl
              subst hl
              have e3 : deepK u 3 = u := by simp [deepK]
              rw [e3] at h5
              obtain ⟨p1, p2⟩ := err_two0.1 h5
              have e2 : deepK u 2 = u + 1 := by simp [deepK]
              have p3 := (err_one0.1 p1).2
              rw [e2] at p3
              exact err_insT hu p2 p3
        · exact err_one0.2 ⟨by rw [devL_len hl]; exact h3, h5⟩
end Go.Proofs.YtnllgbcakmddkaaGreatDoor

/- Plain: lambda terms that may be, as those whose ways come together again. -/
namespace Go.Proofs.YtnllgbcakmddkaaGreatDoor
open Go.RowKit
set_option linter.unusedSimpArgs false
set_option linter.unusedVariables false
set_option maxRecDepth 8000

/-- The lambda term that it is. -/
def PX.m : PX → Lm
  | .v i => ⟨1, (i : Int), []⟩
  | .c k => ⟨4, k, []⟩
  | .l b => ⟨2, 0, [b.m]⟩
  | .a f x => ⟨3, 0, [f.m, x.m]⟩
theorem px_of (t : Lm) : ∀ u, errM u 0 [t] = 0 → ∃ p : PX, p.m = t := by
  induction t using Lm.ind with
  | h k x l ih =>
    intro u he
    rcases may_look he with ⟨y, e, h0, h1⟩ | ⟨b, e, hb⟩ | ⟨f, a, e, hf, ha⟩ | ⟨y, e, h0, h1⟩
    · cases e
      exact ⟨.v x.toNat, by simp only [PX.m]; congr 1; omega⟩
    · cases e
      obtain ⟨p, hp⟩ := ih b (by simp) _ hb
      exact ⟨.l p, by simp only [PX.m, hp]⟩
    · cases e
      obtain ⟨p, hp⟩ := ih f (by simp) _ hf
      obtain ⟨q, hq⟩ := ih a (by simp) _ ha
      exact ⟨.a p q, by simp only [PX.m, hp, hq]⟩
    · cases e
      exact ⟨.c x, rfl⟩
theorem hgT_v (y d x : Int) : higT y d ⟨1, x, []⟩ = if x < d then ⟨1, x, []⟩ else ⟨1, x + y, []⟩ := by
  unfold higT
  by_cases h : x < d <;> simp [h]
theorem hgT_o (y d k x : Int) (l : List Lm) (hk : k ≠ 1) : higT y d ⟨k, x, l⟩ = ⟨k, x, l.map (higT y (deepK d k))⟩ := by
  rw [← higM_map]
  unfold higT
  simp [hk]
theorem isT_v (z : Lm) (d x : Int) : insT z d ⟨1, x, []⟩ = if x < d then ⟨1, x, []⟩ else if x = d then higT d 0 z else ⟨1, x - 1, []⟩ := by
  unfold insT
  by_cases h : x < d <;> simp [h]
theorem isT_o (z : Lm) (d k x : Int) (l : List Lm) (hk : k ≠ 1) : insT z d ⟨k, x, l⟩ = ⟨k, x, l.map (insT z (deepK d k))⟩ := by
  rw [← insM_map]
  unfold insT
  simp [hk]
/-- Moved on by so many, from so many binders on. -/
def PX.mv (y d : Nat) (i : Nat) : Nat := if i < d then i else i + y
theorem PX.mv_up (y d : Nat) : upr (mv y d) = mv y (d + 1) := by
  funext i
  cases i with
  | zero => simp [PX.upr, PX.mv]
  | succ i =>
    simp only [PX.upr, PX.mv]
    by_cases h : i < d
    · rw [if_pos h, if_pos (by omega)]
    · rw [if_neg h, if_neg (by omega)]; omega
theorem px_hig (y : Nat) : ∀ (p : PX) (d : Nat), higT (y : Int) (d : Int) p.m = (p.ren (PX.mv y d)).m
  | .v i, d => by
    simp only [PX.m, PX.ren, PX.mv]
    rw [hgT_v]
    by_cases h : i < d
    · rw [if_pos (by omega), if_pos h]
    · rw [if_neg (by omega), if_neg h]; simp
  | .c k, d => by simp only [PX.m, PX.ren]; rw [hgT_o _ _ _ _ _ (by decide)]; rfl
  | .l b, d => by
    have h1 := px_hig y b (d + 1)
    simp only [PX.m, PX.ren]
    have e : deepK (d : Int) 2 = ((d + 1 : Nat) : Int) := by simp [deepK]
    rw [hgT_o _ _ _ _ _ (by decide), e, PX.mv_up, ← h1]
    rfl
  | .a f x, d => by
    have h1 := px_hig y f d
    have h2 := px_hig y x d
    simp only [PX.m, PX.ren]
    have e : deepK (d : Int) 3 = (d : Int) := by simp [deepK]
    rw [hgT_o _ _ _ _ _ (by decide), e, ← h1, ← h2]
    rfl
/-- A term for what is bound so many binders around. -/
def PX.inAt (z : PX) (d : Nat) (i : Nat) : PX := if i < d then .v i else if i = d then z.ren (· + d) else .v (i - 1)
theorem PX.inAt_up (z : PX) (d : Nat) : up (inAt z d) = inAt z (d + 1) := by
  funext i
  cases i with
  | zero => simp [PX.up, PX.inAt]
  | succ i =>
    simp only [PX.up, PX.inAt]
    by_cases h : i < d
    · rw [if_pos h, if_pos (by omega)]; rfl
    · rw [if_neg h, if_neg (by omega : ¬ i + 1 < d + 1)]
      by_cases h2 : i = d
      · rw [if_pos h2, if_pos (by omega), PX.ren_ren]; rfl
      · rw [if_neg h2, if_neg (by omega)]
        simp only [PX.ren]
        congr 1
        omega
theorem PX.inAt_zero (z : PX) : inAt z 0 = ins z := by
  funext i
  cases i with
  | zero =>
    simp only [PX.inAt, PX.ins]
    rw [if_neg (by omega), if_pos trivial]
    rw [PX.ren_is]
    exact PX.sub_v z
  | succ i => simp [PX.inAt, PX.ins]
theorem px_insAt (z : PX) : ∀ (p : PX) (d : Nat), insT z.m (d : Int) p.m = (p.sub (PX.inAt z d)).m
  | .v i, d => by
    simp only [PX.m, PX.sub, PX.inAt]
    rw [isT_v]
    by_cases h : i < d
    · rw [if_pos (by omega), if_pos h]; rfl
    · rw [if_neg (by omega), if_neg h]
      by_cases h2 : i = d
      · rw [if_pos (by omega), if_pos h2]
        have := px_hig d z 0
        rw [show ((0 : Nat) : Int) = 0 from rfl] at this
        rw [this]
        congr 1
      · rw [if_neg (by omega), if_neg h2]
        simp only [PX.m]
        congr 1
        omega
  | .c k, d => by simp only [PX.m, PX.sub]; rw [isT_o _ _ _ _ _ (by decide)]; rfl
  | .l b, d => by
    have h1 := px_insAt z b (d + 1)
    simp only [PX.m, PX.sub]
    have e : deepK (d : Int) 2 = ((d + 1 : Nat) : Int) := by simp [deepK]
    rw [isT_o _ _ _ _ _ (by decide), e, PX.inAt_up, ← h1]
    rfl
  | .a f x, d => by
    have h1 := px_insAt z f d
    have h2 := px_insAt z x d
    simp only [PX.m, PX.sub]
    have e : deepK (d : Int) 3 = (d : Int) := by simp [deepK]
    rw [isT_o _ _ _ _ _ (by decide), e, ← h1, ← h2]
    rfl
theorem px_ins (z p : PX) : insT z.m 0 p.m = (p.sub (PX.ins z)).m := by
  have := px_insAt z p 0
  rw [PX.inAt_zero] at this
  exact this

/-- Is there a step? -/
theorem px_isl (p : PX) : decide (p.m.kind = 2) = p.isl := by cases p <;> simp [PX.m, PX.isl]
theorem px_st : ∀ p : PX, stepM [p.m] = p.st
  | .v i => by simp [PX.m, stepM, rdxT, PX.st]
  | .c k => by simp [PX.m, stepM, rdxT, PX.st]
  | .l b => by
    have h := px_st b
    simp only [PX.m, PX.st]
    rw [stepM_one, h]
    simp [rdxT]
  | .a f x => by
    have h1 := px_st f
    have h2 := px_st x
    simp only [PX.m, PX.st]
    rw [stepM_one]
    have h3 : stepM [f.m, x.m] = (stepM [f.m] || stepM [x.m]) := stepM_append [f.m] [x.m]
    rw [h3, h1, h2, ← px_isl f]
    simp [rdxT, Bool.or_assoc]
theorem px_rdx {f x : PX} (h : rdxT (PX.a f x).m = true) : ∃ b, f = .l b := by
  cases f with
  | l b => exact ⟨b, rfl⟩
  | v i => simp [PX.m, rdxT] at h
  | c k => simp [PX.m, rdxT] at h
  | a g y => simp [PX.m, rdxT] at h
theorem px_con (b x : PX) : conT [(PX.l b).m, x.m] = (b.sub (PX.ins x)).m := by
  show insT x.m 0 b.m = _
  exact px_ins x b

/-- Each step that is told is one. -/
theorem px_hnd : ∀ (n : Nat) (p : PX) (e : Hnd), e ∈ hndT n p.m → ∃ q : PX, e.2.2 = q.m ∧ PX.Par p q
  | 0, p, e, h => by simp [hndT] at h
  | n + 1, p, e, h => by
    have key : ∀ (k x : Int) (l : List Lm), p.m = ⟨k, x, l⟩ → e ∈ hndH ⟨k, x, l⟩ ∨ ∃ (q : Nat) (hq : q < l.length) (e' : Hnd), e' ∈ hndT n l[q] ∧ e.2.2 = ⟨k, x, l.set q e'.2.2⟩ := by
      intro k x l hp
      rw [hp, hndT] at h
      rcases List.mem_append.1 h with h | h
      · exact Or.inl h
      · obtain ⟨q, hq, e', h1, h2⟩ := hndR_mem h
        exact Or.inr ⟨q, hq, e', h1, by rw [h2]; rfl⟩
    cases p with
    | v i =>
      rcases key 1 i [] rfl with h1 | ⟨q, hq, _⟩
      · simp [hndH, rdxT] at h1
      · simp at hq
    | c k =>
      rcases key 4 k [] rfl with h1 | ⟨q, hq, _⟩
      · simp [hndH, rdxT] at h1
      · simp at hq
    | l b =>
      rcases key 2 0 [b.m] rfl with h1 | ⟨q, hq, e', h1, h2⟩
      · simp [hndH, rdxT] at h1
      · have hq0 : q = 0 := by simp at hq; exact hq
        subst hq0
        obtain ⟨r, h3, h4⟩ := px_hnd n b e' h1
        exact ⟨.l r, by rw [h2, h3]; rfl, .l h4⟩
    | a f x =>
      rcases key 3 0 [f.m, x.m] rfl with h1 | ⟨q, hq, e', h1, h2⟩
      · unfold hndH at h1
        by_cases hr : rdxT (⟨3, 0, [f.m, x.m]⟩ : Lm) = true
        · rw [if_pos hr] at h1
          obtain ⟨b, rfl⟩ := px_rdx (f := f) (x := x) hr
          simp only [List.mem_singleton] at h1
          have e2 : e.2.2 = conT [(PX.l b).m, x.m] := by rw [h1]; unfold hndC; split <;> rfl
          exact ⟨b.sub (PX.ins x), by rw [e2, px_con], .b (.refl b) (.refl x)⟩
        · rw [if_neg hr] at h1; simp at h1
      · have hq2 : q = 0 ∨ q = 1 := by simp at hq; omega
        rcases hq2 with rfl | rfl
        · obtain ⟨r, h3, h4⟩ := px_hnd n f e' h1
          exact ⟨.a r x, by rw [h2, h3]; rfl, .a h4 (.refl x)⟩
        · obtain ⟨r, h3, h4⟩ := px_hnd n x e' h1
          exact ⟨.a f r, by rw [h2, h3]; rfl, .a (.refl f) h4⟩
/-- The development is all steps at once. -/
theorem px_dev : ∀ (n : Nat) (p : PX) (r : Lm), devT n p.m = some r → r = p.dev.m
  | 0, p, r, h => by simp [devT] at h
  | n + 1, p, r, h => by
    have key : ∀ (k x : Int) (l : List Lm), p.m = ⟨k, x, l⟩ → ∃ l', devL (devT n) l = some l' ∧ r = devK k x l l' := by
      intro k x l hp
      rw [hp, devT] at h
      cases hd : devL (devT n) l with
      | none => rw [hd] at h; simp at h
      | some l' =>
        rw [hd] at h
        simp only at h
        split at h
        · cases h
        · exact ⟨l', rfl, (Option.some.inj h).symm⟩
    cases p with
    | v i =>
      obtain ⟨l', h1, h2⟩ := key 1 i [] rfl
      simp [devL] at h1
      subst h1
      rw [h2]
      simp [devK, rdxT, PX.dev, PX.m]
    | c k =>
      obtain ⟨l', h1, h2⟩ := key 4 k [] rfl
      simp [devL] at h1
      subst h1
      rw [h2]
      simp [devK, rdxT, PX.dev, PX.m]
    | l b =>
      obtain ⟨l', h1, h2⟩ := key 2 0 [b.m] rfl
      rw [devL_cons] at h1
      cases hb : devT n b.m with
      | none => rw [hb] at h1; simp at h1
      | some z =>
        rw [hb] at h1
        simp [devL] at h1
        subst h1
        rw [h2, px_dev n b z hb]
        simp [devK, rdxT, PX.dev, PX.m]
    | a f x =>
      obtain ⟨l', h1, h2⟩ := key 3 0 [f.m, x.m] rfl
      rw [devL_cons] at h1
      cases hb : devT n f.m with
      | none => rw [hb] at h1; simp at h1
      | some z =>
        rw [hb] at h1
        simp only [devL_cons] at h1
        cases hx : devT n x.m with
        | none => rw [hx] at h1; simp at h1
        | some y =>
          rw [hx] at h1
          simp [devL] at h1
          subst h1
          have ez := px_dev n f z hb
          have ey := px_dev n x y hx
          rw [h2, ez, ey]
          unfold devK
          by_cases hr : rdxT (⟨3, 0, [f.m, x.m]⟩ : Lm) = true
          · obtain ⟨b, rfl⟩ := px_rdx (f := f) (x := x) hr
            rw [if_pos hr]
            simp only [PX.dev]
            exact px_con b.dev x.dev
          · rw [if_neg hr]
            cases f with
            | v i => rfl
            | c k => rfl
            | a g y => rfl
            | l b => exact absurd (by simp [rdxT, PX.m]) hr
end Go.Proofs.YtnllgbcakmddkaaGreatDoor

/- Plain: how great lambda terms become, and that they may be. -/
namespace Go.Proofs.YtnllgbcakmddkaaGreatDoor
open Go.RowKit
set_option linter.unusedSimpArgs false
set_option linter.unusedVariables false
set_option maxRecDepth 8000

def PX.sz : PX → Nat
  | .v _ => 1
  | .c _ => 1
  | .l b => 1 + b.sz
  | .a f x => 1 + (f.sz + x.sz)
def PX.lv : PX → Nat
  | .v _ => 1
  | .c _ => 1
  | .l b => b.lv
  | .a f x => f.lv + x.lv
theorem PX.lv_sz : ∀ p : PX, 2 * p.lv ≤ p.sz + 1
  | .v _ => by simp [PX.lv, PX.sz]
  | .c _ => by simp [PX.lv, PX.sz]
  | .l b => by have := PX.lv_sz b; simp only [PX.lv, PX.sz]; omega
  | .a f x => by have := PX.lv_sz f; have := PX.lv_sz x; simp only [PX.lv, PX.sz]; omega
theorem PX.ren_sz (p : PX) : ∀ r : Nat → Nat, (p.ren r).sz = p.sz := by
  induction p with
  | v i => intro r; rfl
  | c k => intro r; rfl
  | l b ih => intro r; simp only [PX.ren, PX.sz, ih]
  | a f x hf hx => intro r; simp only [PX.ren, PX.sz, hf, hx]
theorem PX.sub_sz (K : Nat) (hK : 1 ≤ K) (p : PX) : ∀ s : Nat → PX, (∀ i, (s i).sz ≤ K) → (p.sub s).sz ≤ p.sz + p.lv * (K - 1) := by
  induction p with
  | v i => intro s hs; have := hs i; simp only [PX.sub, PX.sz, PX.lv]; omega
  | c k => intro s hs; simp only [PX.sub, PX.sz, PX.lv]; omega
  | l b ih =>
    intro s hs
    have := ih (up s) (fun i => by
      cases i with
      | zero => exact hK
      | succ i => simp only [PX.up]; rw [PX.ren_sz]; exact hs i)
    simp only [PX.sub, PX.sz, PX.lv]; omega
  | a f x hf hx =>
    intro s hs
    have h1 := hf s hs
    have h2 := hx s hs
    simp only [PX.sub, PX.sz, PX.lv]
    rw [Nat.add_mul]
    omega
theorem PX.ins_sz {q : PX} {K : Nat} (hq : q.sz ≤ K) (hK : 1 ≤ K) (p : PX) : (p.sub (ins q)).sz ≤ p.sz + p.lv * (K - 1) :=
  PX.sub_sz K hK p _ fun i => by cases i with | zero => exact hq | succ i => exact hK
theorem px_sz : ∀ p : PX, sizeM [p.m] = p.sz
  | .v i => by simp [PX.m, sizeM, PX.sz]
  | .c k => by simp [PX.m, sizeM, PX.sz]
  | .l b => by have := px_sz b; simp only [PX.m, PX.sz]; rw [← this]; simp [sizeM]
  | .a f x => by
    have h1 := px_sz f
    have h2 := px_sz x
    simp only [PX.m, PX.sz]
    rw [← h1, ← h2]
    have h3 : sizeM [f.m, x.m] = sizeM [f.m] + sizeM [x.m] := sizeM_append [f.m] [x.m]
    rw [← h3]
    simp [sizeM]
/-- May it be, under so many? -/
def PX.ok : PX → Nat → Prop
  | .v i, u => i < u
  | .c k, _ => 0 ≤ k ∧ k < 40
  | .l b, u => b.ok (u + 1)
  | .a f x, u => f.ok u ∧ x.ok u
theorem px_ok : ∀ (p : PX) (u : Nat), errM (u : Int) 0 [p.m] = 0 ↔ p.ok u
  | .v i, u => by
    simp only [PX.m, PX.ok]
    rw [err_one0, knE_zero]
    simp [subsK, mostK, errM]
  | .c k, u => by
    simp only [PX.m, PX.ok]
    rw [err_one0, knE_zero]
    simp [subsK, mostK, errM]
  | .l b, u => by
    have h := px_ok b (u + 1)
    simp only [PX.m, PX.ok]
    rw [← h, err_one0, knE_zero]
    simp [subsK, mostK, deepK]
  | .a f x, u => by
    have h1 := px_ok f u
    have h2 := px_ok x u
    simp only [PX.m, PX.ok]
    rw [← h1, ← h2, err_one0, knE_zero, err_two0]
    simp [subsK, mostK, deepK]
theorem PX.ren_ok (p : PX) : ∀ (r : Nat → Nat) (u u' : Nat), (∀ i, i < u → r i < u') → p.ok u → (p.ren r).ok u' := by
  induction p with
  | v i => intro r u u' h hp; exact h i hp
  | c k => intro r u u' h hp; exact hp
  | l b ih =>
    intro r u u' h hp
    exact ih _ (u + 1) (u' + 1) (fun i hi => by cases i with | zero => simp [PX.upr] | succ i => have := h i (by omega); simp only [PX.upr]; omega) hp
  | a f x hf hx => intro r u u' h hp; exact ⟨hf r u u' h hp.1, hx r u u' h hp.2⟩
theorem PX.sub_ok (p : PX) : ∀ (s : Nat → PX) (u u' : Nat), (∀ i, i < u → (s i).ok u') → p.ok u → (p.sub s).ok u' := by
  induction p with
  | v i => intro s u u' h hp; exact h i hp
  | c k => intro s u u' h hp; exact hp
  | l b ih =>
    intro s u u' h hp
    refine ih _ (u + 1) (u' + 1) (fun i hi => ?_) hp
    cases i with
    | zero => simp [PX.up, PX.ok]
    | succ i => exact PX.ren_ok (s i) (· + 1) u' (u' + 1) (fun i hi => by omega) (h i (by omega))
  | a f x hf hx => intro s u u' h hp; exact ⟨hf s u u' h hp.1, hx s u u' h hp.2⟩
theorem PX.ins_ok {q : PX} {u : Nat} (hq : q.ok u) {p : PX} (hp : p.ok (u + 1)) : (p.sub (ins q)).ok u :=
  PX.sub_ok p _ (u + 1) u (fun i hi => by cases i with | zero => exact hq | succ i => show i < u; omega) hp

end Go.Proofs.YtnllgbcakmddkaaGreatDoor

/- Plain: moving what is bound, up and down. -/
namespace Go.Proofs.YtnllgbcakmddkaaGreatDoor
open Go.RowKit
set_option linter.unusedSimpArgs false
set_option linter.unusedVariables false
set_option maxRecDepth 8000

end Go.Proofs.YtnllgbcakmddkaaGreatDoor

/- Plain: eta is kept by moving what is bound, and done once it is done. -/
namespace Go.Proofs.YtnllgbcakmddkaaGreatDoor
open Go.RowKit
set_option linter.unusedSimpArgs false
set_option linter.unusedVariables false
set_option maxRecDepth 8000

end Go.Proofs.YtnllgbcakmddkaaGreatDoor

/- Plain: eta is done once it is done, undoes an expansion, and makes no step. -/
namespace Go.Proofs.YtnllgbcakmddkaaGreatDoor
open Go.RowKit
set_option linter.unusedSimpArgs false
set_option linter.unusedVariables false
set_option maxRecDepth 8000

end Go.Proofs.YtnllgbcakmddkaaGreatDoor

/- Plain: eta keeps a term that may be; how great a step is; no step. -/
namespace Go.Proofs.YtnllgbcakmddkaaGreatDoor
open Go.RowKit
set_option linter.unusedSimpArgs false
set_option linter.unusedVariables false
set_option maxRecDepth 8000

theorem sizeM_put (l : List Lm) (i : Nat) (h : i < l.length) (y : Lm) : sizeM (l.set i y) + sizeM [l[i]] = sizeM l + sizeM [y] := by
  induction l generalizing i with
  | nil => simp at h
  | cons t r ih =>
    have hc : ∀ (t : Lm) (r : List Lm), sizeM (t :: r) = sizeM [t] + sizeM r := fun t r => sizeM_append [t] r
    cases i with
    | zero => simp only [List.set_cons_zero, List.getElem_cons_zero]; rw [hc y r, hc t r]; omega
    | succ i =>
      simp only [List.set_cons_succ, List.getElem_cons_succ]
      have := ih i (by simpa using h)
      rw [hc t, hc t r]; omega
theorem four_mul (b z : Nat) : 4 * (b * z) ≤ (b + z) * (b + z) := by
  rcases Nat.le_total b z with h | h
  · obtain ⟨d, rfl⟩ := Nat.le.dest h
    have : (b + (b + d)) * (b + (b + d)) = 4 * (b * (b + d)) + d * d := by
      simp only [Nat.mul_add, Nat.add_mul, Nat.mul_comm d b]; omega
    omega
  · obtain ⟨d, rfl⟩ := Nat.le.dest h
    have : (z + d + z) * (z + d + z) = 4 * ((z + d) * z) + d * d := by
      simp only [Nat.mul_add, Nat.add_mul, Nat.mul_comm d z]; omega
    omega
/-- How great what a step makes is. -/
theorem hnd_size (n : Nat) : ∀ (t : Lm) (p : Hnd), LfM [t] → p ∈ hndT n t → 4 * sizeM [p.2.2] ≤ sizeM [t] * sizeM [t] + 4 * sizeM [t] := by
  induction n with
  | zero => intro t p _ h; simp [hndT] at h
  | succ n ih =>
    rintro ⟨k, x, l⟩ p hf h
    rw [hndT] at h
    have hl : LfM l := ((LfM_cons k x l []).1 hf).2.1
    rcases List.mem_append.1 h with h | h
    · unfold hndH at h
      split at h
      · simp only [List.mem_singleton] at h
        have e : p.2.2 = conT l := by rw [h]; unfold hndC; split <;> rfl
        rw [e]
        unfold conT
        split
        · rename_i k1 x1 b z _ _
          have hb : LfM [b] := ((LfM_cons _ _ _ _).1 hl).2.1
          have hz : LfM [z] := ((LfM_cons _ _ _ _).1 hl).2.2
          have h1 := insT_size (d := 0) hz hb
          have h2 := usesM_le [b] 0
          have h3 : usesM 0 [b] * sizeM [z] ≤ sizeM [b] * sizeM [z] := Nat.mul_le_mul_right _ h2
          have h4 := four_mul (sizeM [b]) (sizeM [z])
          have h5 : sizeM [(⟨k, x, [⟨k1, x1, [b]⟩, z]⟩ : Lm)] = 1 + (1 + sizeM [b] + sizeM [z]) := by
            rw [sizeM_one, show sizeM [(⟨k1, x1, [b]⟩ : Lm), z] = sizeM [(⟨k1, x1, [b]⟩ : Lm)] + sizeM [z] from sizeM_append [⟨k1, x1, [b]⟩] [z], sizeM_one]
          rw [h5]
          have h6 : (sizeM [b] + sizeM [z]) * (sizeM [b] + sizeM [z]) ≤ (1 + (1 + sizeM [b] + sizeM [z])) * (1 + (1 + sizeM [b] + sizeM [z])) := Nat.mul_le_mul (by omega) (by omega)
          omega
        · rw [sizeM_one]
          simp [sizeM]
          omega
      · simp at h
    · obtain ⟨q, hq, p', h2, rfl⟩ := hndR_mem h
      have h3 := ih _ _ (LfM.at q hq hl) h2
      have h4 := sizeM_put l q hq p'.2.2
      have h5 := sizeM_get l q hq
      show 4 * sizeM [(⟨k, x, l.set q p'.2.2⟩ : Lm)] ≤ _
      rw [sizeM_one, sizeM_one]
      have h6 : sizeM [l[q]] * sizeM [l[q]] ≤ (1 + sizeM l) * (1 + sizeM l) := Nat.mul_le_mul (by omega) (by omega)
      omega
end Go.Proofs.YtnllgbcakmddkaaGreatDoor
