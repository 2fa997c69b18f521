/- Several texts in one. -/
import Derived.Test.YtfkjejpfhflanaaGreatDoorZBTopWithoutOwn
import Derived.Test.YtfkjejpfhflanaaGreatDoorZETopWithoutOwn
import Derived.Test.YtfkjejpfhflanaaGreatDoorZDTopWithoutOwn
import Derived.Test.YtfkjejpfhflanaaGreatDoorZHTopWithoutOwn
/- Lambda terms in plain: all ways of working them out come together again (by complete developments). -/
namespace Go.Proofs.YtfkjejpfhflanaaGreatDoor

inductive PX where
  | v (i : Nat)
  | c (k : Int)
  | l (b : PX)
  | a (f x : PX)

/-- Other names for what is bound from outside. -/
def PX.upr (r : Nat → Nat) : Nat → Nat
  | 0 => 0
  | i + 1 => r i + 1
def PX.ren (r : Nat → Nat) : PX → PX
  | .v i => .v (r i)
  | .c k => .c k
  | .l b => .l (b.ren (upr r))
  | .a f x => .a (f.ren r) (x.ren r)
/-- Terms for what is bound from outside. -/
def PX.up (s : Nat → PX) : Nat → PX
  | 0 => .v 0
  | i + 1 => (s i).ren (· + 1)
def PX.sub (s : Nat → PX) : PX → PX
  | .v i => s i
  | .c k => .c k
  | .l b => .l (b.sub (up s))
  | .a f x => .a (f.sub s) (x.sub s)
/-- One term for the nearest. -/
def PX.ins (z : PX) : Nat → PX
  | 0 => z
  | i + 1 => .v i

theorem PX.upr_comp (r q : Nat → Nat) : (fun i => upr r (upr q i)) = upr (fun i => r (q i)) := by
  funext i; cases i <;> rfl
theorem PX.ren_ren (t : PX) : ∀ (r q : Nat → Nat), (t.ren q).ren r = t.ren (fun i => r (q i)) := by
  induction t with
  | v i => intro r q; rfl
  | c k => intro r q; rfl
  | l b ih => intro r q; simp only [PX.ren]; rw [ih, PX.upr_comp]
  | a f x hf hx => intro r q; simp only [PX.ren]; rw [hf, hx]
theorem PX.up_upr (s : Nat → PX) (r : Nat → Nat) : (fun i => up s (upr r i)) = up (fun i => s (r i)) := by
  funext i; cases i <;> rfl
theorem PX.sub_ren (t : PX) : ∀ (s : Nat → PX) (r : Nat → Nat), (t.ren r).sub s = t.sub (fun i => s (r i)) := by
  induction t with
  | v i => intro s r; rfl
  | c k => intro s r; rfl
  | l b ih => intro s r; simp only [PX.ren, PX.sub]; rw [ih, PX.up_upr]
  | a f x hf hx => intro s r; simp only [PX.ren, PX.sub]; rw [hf, hx]
theorem PX.ren_up (r : Nat → Nat) (s : Nat → PX) : (fun i => (up s i).ren (upr r)) = up (fun i => (s i).ren r) := by
  funext i
  cases i with
  | zero => rfl
  | succ i => simp only [PX.up]; rw [PX.ren_ren, PX.ren_ren]; rfl
theorem PX.ren_sub (t : PX) : ∀ (r : Nat → Nat) (s : Nat → PX), (t.sub s).ren r = t.sub (fun i => (s i).ren r) := by
  induction t with
  | v i => intro r s; rfl
  | c k => intro r s; rfl
  | l b ih => intro r s; simp only [PX.ren, PX.sub]; rw [ih, PX.ren_up]
  | a f x hf hx => intro r s; simp only [PX.ren, PX.sub]; rw [hf, hx]
theorem PX.sub_up (s q : Nat → PX) : (fun i => (up q i).sub (up s)) = up (fun i => (q i).sub s) := by
  funext i
  cases i with
  | zero => rfl
  | succ i => simp only [PX.up]; rw [PX.sub_ren, PX.ren_sub]; rfl
theorem PX.sub_sub (t : PX) : ∀ (s q : Nat → PX), (t.sub q).sub s = t.sub (fun i => (q i).sub s) := by
  induction t with
  | v i => intro s q; rfl
  | c k => intro s q; rfl
  | l b ih => intro s q; simp only [PX.sub]; rw [ih, PX.sub_up]
  | a f x hf hx => intro s q; simp only [PX.sub]; rw [hf, hx]
theorem PX.up_v : up PX.v = PX.v := by funext i; cases i <;> rfl
theorem PX.sub_v (t : PX) : t.sub PX.v = t := by
  induction t with
  | v i => rfl
  | c k => rfl
  | l b ih => simp only [PX.sub]; rw [PX.up_v, ih]
  | a f x hf hx => simp only [PX.sub]; rw [hf, hx]
theorem PX.ren_is (t : PX) : ∀ (r : Nat → Nat), t.ren r = t.sub (fun i => .v (r i)) := by
  induction t with
  | v i => intro r; rfl
  | c k => intro r; rfl
  | l b ih =>
    intro r; simp only [PX.ren, PX.sub]; rw [ih]
    congr 2
    funext i; cases i <;> rfl
  | a f x hf hx => intro r; simp only [PX.ren, PX.sub]; rw [hf, hx]
/-- Terms put into what was put in. -/
theorem PX.sub_ins (s : Nat → PX) (z b : PX) : (b.sub (ins z)).sub s = (b.sub (up s)).sub (ins (z.sub s)) := by
  rw [PX.sub_sub, PX.sub_sub]
  congr 1
  funext i
  cases i with
  | zero => rfl
  | succ i =>
    simp only [PX.ins, PX.up, PX.sub]
    rw [PX.sub_ren]
    exact (PX.sub_v (s i)).symm
theorem PX.ren_ins (r : Nat → Nat) (z b : PX) : (b.sub (ins z)).ren r = (b.ren (upr r)).sub (ins (z.ren r)) := by
  rw [PX.ren_is, PX.sub_ins, PX.ren_is z r, PX.ren_is b (upr r)]
  congr 2
  funext i; cases i <;> rfl

/-- Some steps at once. -/
inductive PX.Par : PX → PX → Prop where
  | v (i : Nat) : Par (.v i) (.v i)
  | c (k : Int) : Par (.c k) (.c k)
  | l {b b' : PX} : Par b b' → Par (.l b) (.l b')
  | a {f f' x x' : PX} : Par f f' → Par x x' → Par (.a f x) (.a f' x')
  | b {b b' x x' : PX} : Par b b' → Par x x' → Par (.a (.l b) x) (b'.sub (ins x'))
theorem PX.Par.refl : ∀ t : PX, Par t t
  | .v i => .v i
  | .c k => .c k
  | .l y => .l (Par.refl y)
  | .a f x => .a (Par.refl f) (Par.refl x)
theorem PX.Par.ren {t s : PX} (h : Par t s) : ∀ r : Nat → Nat, Par (t.ren r) (s.ren r) := by
  induction h with
  | v i => intro r; exact .v _
  | c k => intro r; exact .c _
  | l _ ih => intro r; exact .l (ih _)
  | a _ _ h1 h2 => intro r; exact .a (h1 _) (h2 _)
  | b _ _ h1 h2 => intro r; rw [PX.ren_ins]; exact .b (h1 _) (h2 _)
theorem PX.Par.up {s s' : Nat → PX} (h : ∀ i, Par (s i) (s' i)) : ∀ i, Par (PX.up s i) (PX.up s' i)
  | 0 => .v 0
  | i + 1 => (h i).ren _
theorem PX.Par.sub {t t' : PX} (h : Par t t') : ∀ {s s' : Nat → PX}, (∀ i, Par (s i) (s' i)) → Par (t.sub s) (t'.sub s') := by
  induction h with
  | v i => intro s s' hs; exact hs i
  | c k => intro s s' hs; exact .c k
  | l _ ih => intro s s' hs; exact .l (ih (PX.Par.up hs))
  | a _ _ h1 h2 => intro s s' hs; exact .a (h1 hs) (h2 hs)
  | b _ _ h1 h2 => intro s s' hs; rw [PX.sub_ins]; exact .b (h1 (PX.Par.up hs)) (h2 hs)
theorem PX.Par.ins {z z' b b' : PX} (hz : Par z z') (hb : Par b b') : Par (b.sub (PX.ins z)) (b'.sub (PX.ins z')) :=
  hb.sub fun i => by cases i with | zero => exact hz | succ i => exact .v i

/-- All steps at once. -/
def PX.dev : PX → PX
  | .v i => .v i
  | .c k => .c k
  | .l b => .l b.dev
  | .a (.l b) x => b.dev.sub (ins x.dev)
  | .a f x => .a f.dev x.dev
theorem PX.Par.lam {b t : PX} (h : Par (.l b) t) : ∃ b', t = .l b' ∧ Par b b' := by
  cases h with
  | l h => exact ⟨_, rfl, h⟩
theorem PX.taka {t s : PX} (h : Par t s) : Par s t.dev := by
  induction h with
  | v i => exact .v i
  | c k => exact .c k
  | l _ ih => exact .l ih
  | @a f f' x x' h1 h2 i1 i2 =>
    cases f with
    | v i => exact .a i1 i2
    | c k => exact .a i1 i2
    | a g y => exact .a i1 i2
    | l b =>
      obtain ⟨b', rfl, hb⟩ := h1.lam
      simp only [PX.dev]
      have i1' : Par (.l b') (.l b.dev) := i1
      obtain ⟨b2, e, hb2⟩ := i1'.lam
      cases e
      exact .b hb2 i2
  | b _ _ i1 i2 => exact PX.Par.ins i2 i1

/-- Again and again. -/
inductive PX.Pars : PX → PX → Prop where
  | refl (t : PX) : Pars t t
  | tail {t s u : PX} : Pars t s → Par s u → Pars t u
theorem PX.Pars.trans {t s u : PX} (h : Pars t s) (k : Pars s u) : Pars t u := by
  induction k with
  | refl => exact h
  | tail _ h2 ih => exact .tail ih h2
theorem PX.Pars.one {t s : PX} (h : Par t s) : Pars t s := .tail (.refl t) h
theorem PX.strip {t s u : PX} (h : Par t s) (k : Pars t u) : ∃ w, Pars s w ∧ Par u w := by
  induction k with
  | refl => exact ⟨s, .refl s, h⟩
  | tail _ h2 ih =>
    obtain ⟨w, h3, h4⟩ := ih
    exact ⟨_, h3.tail (PX.taka h4), PX.taka h2⟩
/-- CHURCH, ROSSER. -/
theorem PX.meet {t s u : PX} (h : Pars t s) (k : Pars t u) : ∃ w, Pars s w ∧ Pars u w := by
  induction h with
  | refl => exact ⟨u, k, .refl u⟩
  | tail _ h2 ih =>
    obtain ⟨w, h3, h4⟩ := ih
    obtain ⟨x, h5, h6⟩ := PX.strip h2 h3
    exact ⟨x, h5, h4.tail h6⟩

/-- Is there a step? -/
def PX.isl : PX → Bool
  | .l _ => true
  | _ => false
def PX.st : PX → Bool
  | .v _ => false
  | .c _ => false
  | .l b => b.st
  | .a f x => f.isl || f.st || x.st
theorem PX.Par.nf {t s : PX} (h : Par t s) : t.st = false → s = t := by
  induction h with
  | v i => intro _; rfl
  | c k => intro _; rfl
  | l _ ih => intro hn; rw [ih hn]
  | a _ _ h1 h2 => intro hn; simp [PX.st] at hn; rw [h1 hn.1.2, h2 hn.2]
  | b _ _ _ _ => intro hn; simp [PX.st, PX.isl] at hn
theorem PX.Pars.nf {t s : PX} (h : Pars t s) (hn : t.st = false) : s = t := by
  induction h with
  | refl => rfl
  | tail _ h2 ih => subst ih; exact h2.nf hn
/-- One end alone. -/
theorem PX.only {t s u : PX} (h : Pars t s) (k : Pars t u) (hs : s.st = false) (hu : u.st = false) : s = u := by
  obtain ⟨w, h1, h2⟩ := PX.meet h k
  rw [← h1.nf hs, ← h2.nf hu]
end Go.Proofs.YtfkjejpfhflanaaGreatDoor

/- Lambda terms in plain: steps and eta together come to one end. -/
namespace Go.Proofs.YtfkjejpfhflanaaGreatDoor
set_option linter.unusedSimpArgs false
set_option linter.unusedVariables false

/-- Does one of these stand in it, bound from outside? -/
def PX.lowp (p : Nat → Bool) : Nat → Bool
  | 0 => false
  | i + 1 => p i
def PX.any (p : Nat → Bool) : PX → Bool
  | .v i => p i
  | .c _ => false
  | .l b => b.any (lowp p)
  | .a f x => f.any p || x.any p
theorem PX.lowp_upr (p : Nat → Bool) (r : Nat → Nat) : (fun i => lowp p (upr r i)) = lowp (fun i => p (r i)) := by
  funext i; cases i <;> rfl
theorem PX.any_ren (t : PX) : ∀ (p : Nat → Bool) (r : Nat → Nat), (t.ren r).any p = t.any (fun i => p (r i)) := by
  induction t with
  | v i => intro p r; rfl
  | c k => intro p r; rfl
  | l b ih => intro p r; simp only [PX.ren, PX.any]; rw [ih, PX.lowp_upr]
  | a f x hf hx => intro p r; simp only [PX.ren, PX.any]; rw [hf, hx]
theorem PX.any_none (t : PX) : t.any (fun _ => false) = false := by
  induction t with
  | v i => rfl
  | c k => rfl
  | l b ih =>
    simp only [PX.any]
    rw [show lowp (fun _ => false) = fun _ => false by funext i; cases i <;> rfl]
    exact ih
  | a f x hf hx => simp only [PX.any]; rw [hf, hx]; rfl
theorem PX.ren_same (t : PX) : ∀ (r q : Nat → Nat), t.any (fun i => decide (r i ≠ q i)) = false → t.ren r = t.ren q := by
  induction t with
  | v i => intro r q h; simp only [PX.any, decide_eq_false_iff_not, Decidable.not_not] at h; simp only [PX.ren, h]
  | c k => intro r q h; rfl
  | l b ih =>
    intro r q h
    simp only [PX.ren]
    rw [ih (upr r) (upr q)]
    simp only [PX.any] at h
    rw [← h]
    congr 1
    funext i
    cases i with
    | zero => simp [PX.upr, PX.lowp]
    | succ i => simp [PX.upr, PX.lowp]
  | a f x hf hx =>
    intro r q h
    simp only [PX.any, Bool.or_eq_false_iff] at h
    simp only [PX.ren]
    rw [hf _ _ h.1, hx _ _ h.2]
theorem PX.ren_id (t : PX) : t.ren (fun i => i) = t := by rw [PX.ren_is]; exact PX.sub_v t
/-- Does the nearest not stand in it? -/
def PX.far (t : PX) : Bool := !t.any (fun i => i == 0)
def PX.low (t : PX) : PX := t.ren (fun i => i - 1)
def PX.hi (t : PX) : PX := t.ren (fun i => i + 1)
theorem PX.far_hi (t : PX) : t.hi.far = true := by
  unfold PX.far PX.hi
  rw [PX.any_ren]
  rw [show (fun i : Nat => (i + 1 == 0)) = fun _ => false by funext i; simp]
  rw [PX.any_none]; rfl
theorem PX.low_hi (t : PX) : t.hi.low = t := by
  unfold PX.low PX.hi
  rw [PX.ren_ren]
  exact PX.ren_id t
theorem PX.hi_low {t : PX} (h : t.far = true) : t.low.hi = t := by
  unfold PX.low PX.hi
  rw [PX.ren_ren]
  conv => rhs; rw [← PX.ren_id t]
  apply PX.ren_same
  unfold PX.far at h
  simp only [Bool.not_eq_true'] at h
  rw [← h]
  congr 1
  funext i
  cases i with
  | zero => rfl
  | succ i => simp
theorem PX.hi_inj {t s : PX} (h : t.hi = s.hi) : t = s := by rw [← PX.low_hi t, h, PX.low_hi]
theorem PX.hi_ren (t : PX) (r : Nat → Nat) : t.hi.ren (upr r) = (t.ren r).hi := by
  unfold PX.hi
  rw [PX.ren_ren, PX.ren_ren]
  rfl
theorem PX.far_ren (t : PX) (r : Nat → Nat) : (t.ren (upr r)).far = t.far := by
  unfold PX.far
  rw [PX.any_ren]
  congr 2
  funext i; cases i <;> rfl
def PX.nk : PX → Nat
  | .v _ => 1
  | .c _ => 1
  | .l b => b.nk + 1
  | .a f x => f.nk + x.nk + 1
theorem PX.nk_ren (t : PX) : ∀ r : Nat → Nat, (t.ren r).nk = t.nk := by
  induction t with
  | v i => intro r; rfl
  | c k => intro r; rfl
  | l b ih => intro r; simp only [PX.ren, PX.nk]; rw [ih]
  | a f x hf hx => intro r; simp only [PX.ren, PX.nk]; rw [hf, hx]
/-- A binder around what is done already. -/
def PX.etl : PX → PX
  | .a f (.v 0) => if f.far = true then f.low else .l (.a f (.v 0))
  | t => .l t
def PX.eta : PX → PX
  | .v i => .v i
  | .c k => .c k
  | .l b => etl b.eta
  | .a f x => .a f.eta x.eta
theorem PX.etl_hi (g : PX) : etl (.a g.hi (.v 0)) = g := by
  simp only [PX.etl]
  rw [if_pos (PX.far_hi g), PX.low_hi]
theorem PX.etl_or (t : PX) : etl t = .l t ∨ ∃ g : PX, t = .a g.hi (.v 0) ∧ etl t = g := by
  unfold PX.etl
  split
  · rename_i f
    by_cases h : f.far = true
    · right
      exact ⟨f.low, by rw [PX.hi_low h], by rw [if_pos h]⟩
    · left
      rw [if_neg h]
  · left; rfl
theorem PX.etl_ren (t : PX) (r : Nat → Nat) : etl (t.ren (upr r)) = (etl t).ren r := by
  rcases PX.etl_or t with h | ⟨g, rfl, h⟩
  · rw [h]
    simp only [PX.ren]
    rcases PX.etl_or (t.ren (upr r)) with h2 | ⟨g, h2, h3⟩
    · exact h2
    · exfalso
      cases t with
      | v i => simp [PX.ren] at h2
      | c k => simp [PX.ren] at h2
      | l b => simp [PX.ren] at h2
      | a f x =>
        simp only [PX.ren, PX.a.injEq] at h2
        obtain ⟨h4, h5⟩ := h2
        have h6 : x = .v 0 := by
          cases x with
          | v i =>
            cases i with
            | zero => rfl
            | succ i => simp [PX.ren, PX.upr] at h5
          | c k => simp [PX.ren] at h5
          | l b => simp [PX.ren] at h5
          | a p q => simp [PX.ren] at h5
        subst h6
        have h7 : f.far = true := by rw [← PX.far_ren f r, h4]; exact PX.far_hi g
        simp only [PX.etl] at h
        rw [if_pos h7] at h
        have h8 : PX.l (.a f (.v 0)) = f.low := h.symm
        have h10 := PX.nk_ren f (fun i => i - 1)
        have h11 := congrArg PX.nk h8
        unfold PX.low at h11
        rw [h10] at h11
        simp only [PX.nk] at h11
        omega
  · rw [h]
    simp only [PX.ren]
    rw [PX.hi_ren]
    exact PX.etl_hi _
theorem PX.eta_ren (t : PX) : ∀ r : Nat → Nat, (t.ren r).eta = t.eta.ren r := by
  induction t with
  | v i => intro r; rfl
  | c k => intro r; rfl
  | l b ih => intro r; simp only [PX.ren, PX.eta]; rw [ih, PX.etl_ren]
  | a f x hf hx => intro r; simp only [PX.ren, PX.eta]; rw [hf, hx]
theorem PX.eta_hi (t : PX) : t.hi.eta = t.eta.hi := PX.eta_ren t _
theorem PX.eta_idem (t : PX) : t.eta.eta = t.eta := by
  induction t with
  | v i => rfl
  | c k => rfl
  | l b ih =>
    simp only [PX.eta]
    rcases PX.etl_or b.eta with h | ⟨g, h1, h2⟩
    · rw [h]; simp only [PX.eta]; rw [ih, h]
    · rw [h2]
      rw [h1] at ih
      simp only [PX.eta, PX.a.injEq, and_true] at ih
      rw [PX.eta_hi] at ih
      exact PX.hi_inj ih
  | a f x hf hx => simp only [PX.eta]; rw [hf, hx]
theorem PX.sub_hi (g : PX) (s : Nat → PX) : g.hi.sub (up s) = (g.sub s).hi := by
  unfold PX.hi
  rw [PX.sub_ren, PX.ren_sub]
  rfl
/-- Terms put in, ahead of it or behind it. -/
theorem PX.eta_sub (t : PX) : ∀ s : Nat → PX, (t.sub s).eta = (t.eta.sub (fun i => (s i).eta)).eta := by
  induction t with
  | v i => intro s; simp only [PX.sub, PX.eta]; rw [PX.eta_idem]
  | c k => intro s; rfl
  | l b ih =>
    intro s
    have e : (fun i => (up s i).eta) = up (fun i => (s i).eta) := by
      funext i
      cases i with
      | zero => rfl
      | succ i => exact PX.eta_ren (s i) _
    simp only [PX.sub, PX.eta]
    rw [ih, e]
    rcases PX.etl_or b.eta with h | ⟨g, h1, h2⟩
    · rw [h]; simp only [PX.sub, PX.eta]
    · rw [h2, h1]
      simp only [PX.sub, PX.eta]
      rw [PX.sub_hi, PX.eta_hi]
      exact PX.etl_hi _
  | a f x hf hx => intro s; simp only [PX.sub, PX.eta]; rw [hf, hx]
theorem PX.eta_ins (b x : PX) : (b.sub (ins x)).eta = (b.eta.sub (ins x.eta)).eta := by
  rw [PX.eta_sub]
  congr 2
  funext i
  cases i <;> rfl
/-- A step of what has other names is a step with other names. -/
theorem PX.Par.unren {t' s : PX} (h : Par t' s) : ∀ (t : PX) (r : Nat → Nat), t' = t.ren r → ∃ s', s = s'.ren r ∧ Par t s' := by
  induction h with
  | v i =>
    intro t r e
    exact ⟨t, e, .refl t⟩
  | c k =>
    intro t r e
    exact ⟨t, e, .refl t⟩
  | @l b b' _ ih =>
    intro t r e
    cases t with
    | v i => simp [PX.ren] at e
    | c k => simp [PX.ren] at e
    | a f x => simp [PX.ren] at e
    | l d =>
      simp only [PX.ren, PX.l.injEq] at e
      obtain ⟨s', rfl, h2⟩ := ih d _ e
      exact ⟨.l s', rfl, .l h2⟩
  | @a f f' x x' _ _ i1 i2 =>
    intro t r e
    cases t with
    | v i => simp [PX.ren] at e
    | c k => simp [PX.ren] at e
    | l d => simp [PX.ren] at e
    | a g y =>
      simp only [PX.ren, PX.a.injEq] at e
      obtain ⟨s1, rfl, h1⟩ := i1 g _ e.1
      obtain ⟨s2, rfl, h2⟩ := i2 y _ e.2
      exact ⟨.a s1 s2, rfl, .a h1 h2⟩
  | @b b b' x x' _ _ i1 i2 =>
    intro t r e
    cases t with
    | v i => simp [PX.ren] at e
    | c k => simp [PX.ren] at e
    | l d => simp [PX.ren] at e
    | a g y =>
      simp only [PX.ren, PX.a.injEq] at e
      obtain ⟨e1, e2⟩ := e
      cases g with
      | v i => simp [PX.ren] at e1
      | c k => simp [PX.ren] at e1
      | a p q => simp [PX.ren] at e1
      | l d =>
        simp only [PX.ren, PX.l.injEq] at e1
        obtain ⟨s1, rfl, h1⟩ := i1 d _ e1
        obtain ⟨s2, rfl, h2⟩ := i2 y _ e2
        exact ⟨s1.sub (PX.ins s2), by rw [PX.ren_ins], .b h1 h2⟩
/-- A step of what eta has come to, of a knot whose second is the nearest. -/
theorem PX.Par.at0 {g rb : PX} (h : Par (.a g.hi (.v 0)) rb) : (∃ g', rb = .a g'.hi (.v 0) ∧ Par g g') ∨ ∃ b0, g = .l b0 ∧ Par b0 rb := by
  generalize he : g.hi = k at h
  cases h with
  | a h1 h2 =>
    cases h2
    subst he
    obtain ⟨s', rfl, h3⟩ := PX.Par.unren h1 g _ rfl
    exact Or.inl ⟨s', rfl, h3⟩
  | b h1 h2 =>
    cases h2
    cases g with
    | v i => simp [PX.hi, PX.ren] at he
    | c k => simp [PX.hi, PX.ren] at he
    | a p q => simp [PX.hi, PX.ren] at he
    | l b0 =>
      simp only [PX.hi, PX.ren, PX.l.injEq] at he
      obtain ⟨s', rfl, h3⟩ := PX.Par.unren h1 b0 _ he.symm
      refine Or.inr ⟨b0, rfl, ?_⟩
      rw [PX.sub_ren]
      rw [show (fun i => PX.ins (.v 0) (PX.upr (fun i => i + 1) i)) = PX.v by funext i; cases i <;> rfl]
      rw [PX.sub_v]
      exact h3
/-- Steps, seen behind eta. -/
theorem PX.Par.eta {t s : PX} (h : Par t s) : ∃ r, Par t.eta r ∧ r.eta = s.eta := by
  induction h with
  | v i => exact ⟨.v i, .v i, rfl⟩
  | c k => exact ⟨.c k, .c k, rfl⟩
  | @l b b' _ ih =>
    obtain ⟨rb, h1, h2⟩ := ih
    rcases PX.etl_or b.eta with e | ⟨g, e1, e2⟩
    · refine ⟨.l rb, ?_, ?_⟩
      · simp only [PX.eta]; rw [e]; exact .l h1
      · simp only [PX.eta]; rw [h2]
    · simp only [PX.eta]
      rw [e2]
      rw [e1] at h1
      rcases PX.Par.at0 h1 with ⟨g', rfl, h3⟩ | ⟨b0, rfl, h3⟩
      · refine ⟨g', h3, ?_⟩
        rw [← h2]
        simp only [PX.eta]
        rw [PX.eta_hi]
        exact (PX.etl_hi _).symm
      · refine ⟨.l rb, .l h3, ?_⟩
        simp only [PX.eta]; rw [h2]
  | a _ _ i1 i2 =>
    obtain ⟨r1, h1, h2⟩ := i1
    obtain ⟨r2, h3, h4⟩ := i2
    exact ⟨.a r1 r2, .a h1 h3, by simp only [PX.eta]; rw [h2, h4]⟩
  | @b b b' x x' _ _ i1 i2 =>
    obtain ⟨rb, h1, h2⟩ := i1
    obtain ⟨rx, h3, h4⟩ := i2
    have hs : (rb.sub (PX.ins rx)).eta = (b'.sub (PX.ins x')).eta := by rw [PX.eta_ins, h2, h4, ← PX.eta_ins]
    rcases PX.etl_or b.eta with e | ⟨g, e1, e2⟩
    · refine ⟨rb.sub (PX.ins rx), ?_, hs⟩
      simp only [PX.eta]
      rw [e]
      exact .b h1 h3
    · simp only [PX.eta]
      rw [e2]
      rw [e1] at h1
      rcases PX.Par.at0 h1 with ⟨g', rfl, h5⟩ | ⟨b0, rfl, h5⟩
      · refine ⟨.a g' rx, .a h5 h3, ?_⟩
        rw [← hs]
        simp only [PX.sub, PX.ins]
        congr 2
        unfold PX.hi
        rw [PX.sub_ren]
        exact (PX.sub_v g').symm
      · exact ⟨rb.sub (PX.ins rx), .b h5 h3, hs⟩

/-- One step behind eta. -/
def PX.Qs (x y : PX) : Prop := ∃ r, Par x r ∧ y = r.eta
inductive PX.Qss : PX → PX → Prop where
  | refl (t : PX) : Qss t t
  | tail {t s u : PX} : Qss t s → Qs s u → Qss t u
theorem PX.Qs.dia {x y z : PX} (h : Qs x y) (k : Qs x z) : ∃ d, Qs y d ∧ Qs z d := by
  obtain ⟨r, h1, rfl⟩ := h
  obtain ⟨q, h2, rfl⟩ := k
  obtain ⟨s1, h3, h4⟩ := PX.Par.eta (PX.taka h1)
  obtain ⟨s2, h5, h6⟩ := PX.Par.eta (PX.taka h2)
  exact ⟨x.dev.eta, ⟨s1, h3, h4.symm⟩, ⟨s2, h5, h6.symm⟩⟩
theorem PX.Qss.strip {t s u : PX} (h : Qs t s) (k : Qss t u) : ∃ w, Qss s w ∧ Qs u w := by
  induction k with
  | refl => exact ⟨s, .refl s, h⟩
  | tail _ h2 ih =>
    obtain ⟨w, h3, h4⟩ := ih
    obtain ⟨d, h5, h6⟩ := h4.dia h2
    exact ⟨d, h3.tail h5, h6⟩
theorem PX.Qss.meet {t s u : PX} (h : Qss t s) (k : Qss t u) : ∃ w, Qss s w ∧ Qss u w := by
  induction h with
  | refl => exact ⟨u, k, .refl u⟩
  | tail _ h2 ih =>
    obtain ⟨w, h3, h4⟩ := ih
    obtain ⟨x, h5, h6⟩ := PX.Qss.strip h2 h3
    exact ⟨x, h5, h4.tail h6⟩
theorem PX.Qss.trans {t s u : PX} (h : Qss t s) (k : Qss s u) : Qss t u := by
  induction k with
  | refl => exact h
  | tail _ h2 ih => exact .tail ih h2

/-- By steps and eta, either way. -/
inductive PX.Cv : PX → PX → Prop where
  | par {t s : PX} : Par t s → Cv t s
  | eta {t s : PX} : t.eta = s.eta → Cv t s
  | symm {t s : PX} : Cv t s → Cv s t
  | trans {t s u : PX} : Cv t s → Cv s u → Cv t u
theorem PX.Cv.refl (t : PX) : Cv t t := .eta rfl
theorem PX.Cv.meet {t s : PX} (h : Cv t s) : ∃ d, Qss t.eta d ∧ Qss s.eta d := by
  induction h with
  | @par t s h =>
    obtain ⟨r, h1, h2⟩ := h.eta
    exact ⟨s.eta, .tail (.refl _) ⟨r, h1, h2.symm⟩, .refl _⟩
  | @eta t s h => exact ⟨t.eta, .refl _, by rw [h]; exact .refl _⟩
  | symm _ ih => obtain ⟨d, h1, h2⟩ := ih; exact ⟨d, h2, h1⟩
  | trans _ _ i1 i2 =>
    obtain ⟨d, h1, h2⟩ := i1
    obtain ⟨e, h3, h4⟩ := i2
    obtain ⟨w, h5, h6⟩ := h2.meet h3
    exact ⟨w, h1.trans h5, h4.trans h6⟩
theorem PX.Cv.lam {t s : PX} (h : Cv t s) : Cv (.l t) (.l s) := by
  induction h with
  | par h => exact .par (.l h)
  | eta h => exact .eta (by simp only [PX.eta]; rw [h])
  | symm _ ih => exact .symm ih
  | trans _ _ i1 i2 => exact .trans i1 i2
theorem PX.Cv.fst {t s : PX} (h : Cv t s) (x : PX) : Cv (.a t x) (.a s x) := by
  induction h with
  | par h => exact .par (.a h (.refl x))
  | eta h => exact .eta (by simp only [PX.eta]; rw [h])
  | symm _ ih => exact .symm ih
  | trans _ _ i1 i2 => exact .trans i1 i2
theorem PX.Cv.snd {t s : PX} (h : Cv t s) (x : PX) : Cv (.a x t) (.a x s) := by
  induction h with
  | par h => exact .par (.a (.refl x) h)
  | eta h => exact .eta (by simp only [PX.eta]; rw [h])
  | symm _ ih => exact .symm ih
  | trans _ _ i1 i2 => exact .trans i1 i2
theorem PX.Cv.app {t s x y : PX} (h : Cv t s) (k : Cv x y) : Cv (.a t x) (.a s y) := (h.fst x).trans (k.snd s)
theorem PX.Cv.beta (b x : PX) : Cv (.a (.l b) x) (b.sub (ins x)) := .par (.b (.refl b) (.refl x))
theorem PX.Cv.wide (g : PX) : Cv (.l (.a g.hi (.v 0))) g := .eta (by simp only [PX.eta]; rw [PX.eta_hi]; exact PX.etl_hi _)
theorem PX.Cv.pars {t s : PX} (h : Pars t s) : Cv t s := by
  induction h with
  | refl => exact .refl _
  | tail _ h2 ih => exact ih.trans (.par h2)
theorem PX.isl_ren (t : PX) (r : Nat → Nat) : (t.ren r).isl = t.isl := by cases t <;> rfl
theorem PX.st_ren (t : PX) : ∀ r : Nat → Nat, (t.ren r).st = t.st := by
  induction t with
  | v i => intro r; rfl
  | c k => intro r; rfl
  | l b ih => intro r; exact ih _
  | a f x hf hx => intro r; simp only [PX.ren, PX.st]; rw [hf, hx, PX.isl_ren]
theorem PX.isl_eta {t : PX} (h : t.isl = false) : t.eta.isl = false := by
  cases t with
  | v i => rfl
  | c k => rfl
  | l b => simp [PX.isl] at h
  | a f x => rfl
theorem PX.st_eta (t : PX) : t.st = false → t.eta.st = false := by
  induction t with
  | v i => intro _; rfl
  | c k => intro _; rfl
  | l b ih =>
    intro h
    have h1 := ih h
    simp only [PX.eta]
    rcases PX.etl_or b.eta with e | ⟨g, e1, e2⟩
    · rw [e]; exact h1
    · rw [e2]
      rw [e1] at h1
      simp only [PX.st, Bool.or_eq_false_iff] at h1
      have h2 := h1.1.2
      unfold PX.hi at h2
      rw [PX.st_ren] at h2
      exact h2
  | a f x hf hx =>
    intro h
    simp only [PX.st, Bool.or_eq_false_iff] at h
    simp only [PX.eta, PX.st]
    rw [PX.isl_eta h.1.1, hf h.1.2, hx h.2]
    rfl
theorem PX.Qss.stay {u s : PX} (h : Qss u s) (hn : u.st = false) (he : u.eta = u) : s = u := by
  induction h with
  | refl => rfl
  | tail _ h2 ih =>
    subst ih
    obtain ⟨r, h3, rfl⟩ := h2
    rw [PX.Par.nf h3 hn, he]
theorem PX.Qss.nf {t s : PX} (h : Qss t.eta s) (hn : t.st = false) : s = t.eta := h.stay (PX.st_eta t hn) (PX.eta_idem t)
/-- One end alone, but for eta. -/
theorem PX.Cv.ends {t s : PX} (h : Cv t s) (ht : t.st = false) (hs : s.st = false) : t.eta = s.eta := by
  obtain ⟨d, h1, h2⟩ := h.meet
  rw [← h1.nf ht, ← h2.nf hs]
end Go.Proofs.YtfkjejpfhflanaaGreatDoor

/- Plain: what a lambda term develops to. -/
namespace Go.Proofs.YtfkjejpfhflanaaGreatDoor
open Go.RowKit
set_option linter.unusedSimpArgs false
set_option linter.unusedVariables false
set_option maxRecDepth 8000

end Go.Proofs.YtfkjejpfhflanaaGreatDoor

/- Plain: lambda terms that may be, as those whose ways come together again. -/
namespace Go.Proofs.YtfkjejpfhflanaaGreatDoor
open Go.RowKit
set_option linter.unusedSimpArgs false
set_option linter.unusedVariables false
set_option maxRecDepth 8000

/-- The lambda term that it is. -/
def PX.m : PX → Lm
  | .v i => ⟨1, (i : Int), []⟩
  | .c k => ⟨4, k, []⟩
  | .l b => ⟨2, 0, [b.m]⟩
  | .a f x => ⟨3, 0, [f.m, x.m]⟩
theorem px_of (t : Lm) : ∀ u, errM u 0 [t] = 0 → ∃ p : PX, p.m = t := by
  induction t using Lm.ind with
  | h k x l ih =>
    intro u he
    rcases may_look he with ⟨y, e, h0, h1⟩ | ⟨b, e, hb⟩ | ⟨f, a, e, hf, ha⟩ | ⟨y, e, h0, h1⟩
    · cases e
      exact ⟨.v x.toNat, by simp only [PX.m]; congr 1; omega⟩
    · cases e
      obtain ⟨p, hp⟩ := ih b (by simp) _ hb
      exact ⟨.l p, by simp only [PX.m, hp]⟩
    · cases e
      obtain ⟨p, hp⟩ := ih f (by simp) _ hf
      obtain ⟨q, hq⟩ := ih a (by simp) _ ha
      exact ⟨.a p q, by simp only [PX.m, hp, hq]⟩
    · cases e
      exact ⟨.c x, rfl⟩
theorem hgT_v (y d x : Int) : higT y d ⟨1, x, []⟩ = if x < d then ⟨1, x, []⟩ else ⟨1, x + y, []⟩ := by
  unfold higT
  by_cases h : x < d <;> simp [h]
theorem hgT_o (y d k x : Int) (l : List Lm) (hk : k ≠ 1) : higT y d ⟨k, x, l⟩ = ⟨k, x, l.map (higT y (deepK d k))⟩ := by
  rw [← higM_map]
  unfold higT
  simp [hk]
theorem isT_v (z : Lm) (d x : Int) : insT z d ⟨1, x, []⟩ = if x < d then ⟨1, x, []⟩ else if x = d then higT d 0 z else ⟨1, x - 1, []⟩ := by
  unfold insT
  by_cases h : x < d <;> simp [h]
theorem isT_o (z : Lm) (d k x : Int) (l : List Lm) (hk : k ≠ 1) : insT z d ⟨k, x, l⟩ = ⟨k, x, l.map (insT z (deepK d k))⟩ := by
  rw [← insM_map]
  unfold insT
  simp [hk]
/-- Moved on by so many, from so many binders on. -/
def PX.mv (y d : Nat) (i : Nat) : Nat := if i < d then i else i + y
theorem PX.mv_up (y d : Nat) : upr (mv y d) = mv y (d + 1) := by
  funext i
  cases i with
  | zero => simp [PX.upr, PX.mv]
  | succ i =>
    simp only [PX.upr, PX.mv]
    by_cases h : i < d
    · rw [if_pos h, if_pos (by omega)]
    · rw [if_neg h, if_neg (by omega)]; omega
theorem px_hig (y : Nat) : ∀ (p : PX) (d : Nat), higT (y : Int) (d : Int) p.m = (p.ren (PX.mv y d)).m
  | .v i, d => by
    simp only [PX.m, PX.ren, PX.mv]
    rw [hgT_v]
    by_cases h : i < d
    · rw [if_pos (by omega), if_pos h]
    · rw [if_neg (by omega), if_neg h]; simp
  | .c k, d => by simp only [PX.m, PX.ren]; rw [hgT_o _ _ _ _ _ (by decide)]; rfl
  | .l b, d => by
    have h1 := px_hig y b (d + 1)
    simp only [PX.m, PX.ren]
    have e : deepK (d : Int) 2 = ((d + 1 : Nat) : Int) := by simp [deepK]
    rw [hgT_o _ _ _ _ _ (by decide), e, PX.mv_up, ← h1]
    rfl
  | .a f x, d => by
    have h1 := px_hig y f d
    have h2 := px_hig y x d
    simp only [PX.m, PX.ren]
    have e : deepK (d : Int) 3 = (d : Int) := by simp [deepK]
    rw [hgT_o _ _ _ _ _ (by decide), e, ← h1, ← h2]
    rfl
/-- A term for what is bound so many binders around. -/
def PX.inAt (z : PX) (d : Nat) (i : Nat) : PX := if i < d then .v i else if i = d then z.ren (· + d) else .v (i - 1)
theorem PX.inAt_up (z : PX) (d : Nat) : up (inAt z d) = inAt z (d + 1) := by
  funext i
  cases i with
  | zero => simp [PX.up, PX.inAt]
  | succ i =>
    simp only [PX.up, PX.inAt]
    by_cases h : i < d
    · rw [if_pos h, if_pos (by omega)]; rfl
    · rw [if_neg h, if_neg (by omega : ¬ i + 1 < d + 1)]
      by_cases h2 : i = d
      · rw [if_pos h2, if_pos (by omega), PX.ren_ren]; rfl
      · rw [if_neg h2, if_neg (by omega)]
        simp only [PX.ren]
        congr 1
        omega
theorem PX.inAt_zero (z : PX) : inAt z 0 = ins z := by
  funext i
  cases i with
  | zero =>
    simp only [PX.inAt, PX.ins]
    rw [if_neg (by omega), if_pos trivial]
    rw [PX.ren_is]
    exact PX.sub_v z
  | succ i => simp [PX.inAt, PX.ins]
theorem px_insAt (z : PX) : ∀ (p : PX) (d : Nat), insT z.m (d : Int) p.m = (p.sub (PX.inAt z d)).m
  | .v i, d => by
    simp only [PX.m, PX.sub, PX.inAt]
    rw [isT_v]
    by_cases h : i < d
    · rw [if_pos (by omega), if_pos h]; rfl
    · rw [if_neg (by omega), if_neg h]
      by_cases h2 : i = d
      · rw [if_pos (by omega), if_pos h2]
        have := px_hig d z 0
        rw [show ((0 : Nat) : Int) = 0 from rfl] at this
        rw [this]
        congr 1
      · rw [if_neg (by omega), if_neg h2]
        simp only [PX.m]
        congr 1
        omega
  | .c k, d => by simp only [PX.m, PX.sub]; rw [isT_o _ _ _ _ _ (by decide)]; rfl
  | .l b, d => by
    have h1 := px_insAt z b (d + 1)
    simp only [PX.m, PX.sub]
    have e : deepK (d : Int) 2 = ((d + 1 : Nat) : Int) := by simp [deepK]
    rw [isT_o _ _ _ _ _ (by decide), e, PX.inAt_up, ← h1]
    rfl
  | .a f x, d => by
    have h1 := px_insAt z f d
    have h2 := px_insAt z x d
    simp only [PX.m, PX.sub]
    have e : deepK (d : Int) 3 = (d : Int) := by simp [deepK]
    rw [isT_o _ _ _ _ _ (by decide), e, ← h1, ← h2]
    rfl
theorem px_ins (z p : PX) : insT z.m 0 p.m = (p.sub (PX.ins z)).m := by
  have := px_insAt z p 0
  rw [PX.inAt_zero] at this
  exact this

/-- Is there a step? -/
theorem px_isl (p : PX) : decide (p.m.kind = 2) = p.isl := by cases p <;> simp [PX.m, PX.isl]
theorem px_st : ∀ p : PX, stepM [p.m] = p.st
  | .v i => by simp [PX.m, stepM, rdxT, PX.st]
  | .c k => by simp [PX.m, stepM, rdxT, PX.st]
  | .l b => by
    have h := px_st b
    simp only [PX.m, PX.st]
    rw [stepM_one, h]
    simp [rdxT]
  | .a f x => by
    have h1 := px_st f
    have h2 := px_st x
    simp only [PX.m, PX.st]
    rw [stepM_one]
    have h3 : stepM [f.m, x.m] = (stepM [f.m] || stepM [x.m]) := stepM_append [f.m] [x.m]
    rw [h3, h1, h2, ← px_isl f]
    simp [rdxT, Bool.or_assoc]
theorem px_rdx {f x : PX} (h : rdxT (PX.a f x).m = true) : ∃ b, f = .l b := by
  cases f with
  | l b => exact ⟨b, rfl⟩
  | v i => simp [PX.m, rdxT] at h
  | c k => simp [PX.m, rdxT] at h
  | a g y => simp [PX.m, rdxT] at h
theorem px_rdx_app {p : PX} (h : rdxT p.m = true) : ∃ b x, p = .a (.l b) x := by
  cases p with
  | v i => simp [PX.m, rdxT] at h
  | c k => simp [PX.m, rdxT] at h
  | l b => simp [PX.m, rdxT] at h
  | a f x => obtain ⟨b, rfl⟩ := px_rdx h; exact ⟨b, x, rfl⟩
theorem px_con (b x : PX) : conT [(PX.l b).m, x.m] = (b.sub (PX.ins x)).m := by
  show insT x.m 0 b.m = _
  exact px_ins x b

/-- The first step is one. -/
theorem px_stp (inn : Bool) : ∀ (n : Nat) (p : PX), ∃ q : PX, stpT inn n p.m = q.m ∧ PX.Par p q
  | 0, p => ⟨p, rfl, .refl p⟩
  | n + 1, p => by
    cases hh : hereT inn p.m with
    | true =>
      have hr : rdxT p.m = true := by unfold hereT at hh; simp at hh; exact hh.1
      obtain ⟨b, x, rfl⟩ := px_rdx_app hr
      refine ⟨b.sub (PX.ins x), ?_, .b (.refl b) (.refl x)⟩
      rw [← px_con]
      show stpT inn (n + 1) ⟨3, 0, [(PX.l b).m, x.m]⟩ = _
      have hh2 : hereT inn (⟨3, 0, [(PX.l b).m, x.m]⟩ : Lm) = true := hh
      rw [stpT, if_pos hh2]
    | false =>
      cases p with
      | v i => exact ⟨.v i, by simp only [PX.m] at hh ⊢; rw [stpT, if_neg (by rw [hh]; simp)]; rfl, .v i⟩
      | c k => exact ⟨.c k, by simp only [PX.m] at hh ⊢; rw [stpT, if_neg (by rw [hh]; simp)]; rfl, .c k⟩
      | l b =>
        obtain ⟨q, h1, h2⟩ := px_stp inn n b
        simp only [PX.m] at hh ⊢
        rw [stpT, if_neg (by rw [hh]; simp), repF]
        by_cases hs : stepM [b.m] = true
        · rw [if_pos hs, h1]; exact ⟨.l q, rfl, .l h2⟩
        · rw [if_neg hs]; exact ⟨.l b, rfl, .refl _⟩
      | a f x =>
        obtain ⟨q, h1, h2⟩ := px_stp inn n f
        obtain ⟨r, h3, h4⟩ := px_stp inn n x
        simp only [PX.m] at hh ⊢
        rw [stpT, if_neg (by rw [hh]; simp), repF]
        by_cases hs : stepM [f.m] = true
        · rw [if_pos hs, h1]; exact ⟨.a q x, rfl, .a h2 (.refl x)⟩
        · rw [if_neg hs, repF]
          by_cases hs2 : stepM [x.m] = true
          · rw [if_pos hs2, h3]; exact ⟨.a f r, rfl, .a (.refl f) h4⟩
          · rw [if_neg hs2]; exact ⟨.a f x, rfl, .refl _⟩
/-- What it becomes at last comes of it, and has no step. -/
theorem px_end (inn : Bool) : ∀ (k : Nat) (p : PX) (r : Lm) (j : Nat), endM inn k p.m = (0, r, j) → ∃ q : PX, r = q.m ∧ PX.Pars p q ∧ q.st = false ∧ (j = 0 ↔ p.st = false)
  | 0, p, r, j, h => by
    rw [endM] at h
    by_cases hs : stepM [p.m] = true
    · rw [if_pos hs] at h; simp at h
    · rw [if_neg hs] at h
      simp only [Prod.mk.injEq, true_and] at h
      have hn : p.st = false := by rw [← px_st]; simpa using hs
      exact ⟨p, h.1.symm, .refl p, hn, fun _ => hn, fun _ => h.2.symm⟩
  | k + 1, p, r, j, h => by
    rw [endM] at h
    by_cases hs : stepM [p.m] = true
    · rw [if_pos hs] at h
      by_cases hz : 2000 < sizeM [stpT inn 2001 p.m]
      · rw [if_pos hz] at h; simp at h
      · rw [if_neg hz] at h
        obtain ⟨q, h1, h2⟩ := px_stp inn 2001 p
        rw [h1] at h
        generalize hg : endM inn k q.m = g at h
        obtain ⟨g1, g2, g3⟩ := g
        simp only [Prod.mk.injEq] at h
        obtain ⟨rfl, rfl, rfl⟩ := h
        obtain ⟨q', h3, h4, h5, _⟩ := px_end inn k q _ _ hg
        have hn : p.st = true := by rw [← px_st]; exact hs
        exact ⟨q', h3, (PX.Pars.one h2).trans h4, h5, fun h => by omega, fun h => by rw [hn] at h; cases h⟩
    · rw [if_neg hs] at h
      simp only [Prod.mk.injEq, true_and] at h
      have hn : p.st = false := by rw [← px_st]; simpa using hs
      exact ⟨p, h.1.symm, .refl p, hn, fun _ => hn, fun _ => h.2.symm⟩
end Go.Proofs.YtfkjejpfhflanaaGreatDoor

/- Plain: moving what is bound, up and down. -/
namespace Go.Proofs.YtfkjejpfhflanaaGreatDoor
open Go.RowKit
set_option linter.unusedSimpArgs false
set_option linter.unusedVariables false
set_option maxRecDepth 8000

theorem lf_of_shE (l : List Lm) : ShM l → LfM l := by
  induction l using Lm.indL with
  | h0 => intro _; exact LfM_nil
  | h k x l r ihl ihr =>
    intro h
    rw [ShM_cons] at h
    exact (LfM_cons _ _ _ _).2 ⟨fun hk => by subst hk; exact List.length_eq_zero_iff.1 (by rw [h.1]; rfl), ihl h.2.1, ihr h.2.2⟩
theorem deep_nn {d k : Int} (h : 0 ≤ d) : 0 ≤ deepK d k := by unfold deepK; split <;> omega
theorem usesM_var (c x : Int) (l r : List Lm) : usesM c (⟨1, x, l⟩ :: r) = (if x = c then 1 else 0) + usesM c r := by simp [usesM]
theorem usesM_node {k : Int} (h : k ≠ 1) (c x : Int) (l r : List Lm) : usesM c (⟨k, x, l⟩ :: r) = usesM (deepK c k) l + usesM c r := by simp [usesM, h]
theorem higM_lt {x d : Int} (h : x < d) (y : Int) (l r : List Lm) : higM y d (⟨1, x, l⟩ :: r) = ⟨1, x, l⟩ :: higM y d r := by simp [higM, h]
theorem higM_ge {x d : Int} (h : ¬ x < d) (y : Int) (l r : List Lm) : higM y d (⟨1, x, l⟩ :: r) = ⟨1, x + y, []⟩ :: higM y d r := by simp [higM, h]
theorem higM_node {k : Int} (h : k ≠ 1) (y d x : Int) (l r : List Lm) : higM y d (⟨k, x, l⟩ :: r) = ⟨k, x, higM y (deepK d k) l⟩ :: higM y d r := by simp [higM, h]
/-- How often what is bound is used behind a move. -/
theorem uses_up (l : List Lm) : ∀ c d : Int, 0 ≤ c → c ≤ d → usesM c (higM 1 d l) = if c = d then 0 else usesM c l := by
  induction l using Lm.indL with
  | h0 => intro c d _ _; simp [higM, usesM]
  | h k x l r ihl ihr =>
    intro c d hc hcd
    have hr := ihr c d hc hcd
    by_cases hk : k = 1
    · subst hk
      by_cases hx : x < d
      · rw [higM_lt hx, usesM_var, usesM_var, hr]
        by_cases e : c = d
        · rw [if_pos e, if_pos e, if_neg (by omega)]
        · rw [if_neg e, if_neg e]
      · rw [higM_ge hx, usesM_var, usesM_var, hr, if_neg (by omega)]
        by_cases e : c = d
        · rw [if_pos e, if_pos e]
        · rw [if_neg e, if_neg e, if_neg (by omega)]
    · have hdd : deepK c k ≤ deepK d k ∧ (deepK c k = deepK d k ↔ c = d) := by unfold deepK; split <;> omega
      rw [higM_node hk, usesM_node hk, usesM_node hk, hr, ihl (deepK c k) (deepK d k) (deep_nn hc) hdd.1]
      by_cases e : c = d
      · rw [if_pos e, if_pos (hdd.2.2 e), if_pos e]
      · rw [if_neg e, if_neg (fun h => e (hdd.2.1 h)), if_neg e]
/-- What was moved up is moved back. -/
theorem hig_back (l : List Lm) : ∀ d : Int, LfM l → higM (-1) d (higM 1 d l) = l := by
  induction l using Lm.indL with
  | h0 => intro d _; simp [higM]
  | h k x l r ihl ihr =>
    intro d hl
    obtain ⟨h1, h2, h3⟩ := (LfM_cons k x l r).1 hl
    by_cases hk : k = 1
    · subst hk
      rw [h1 rfl]
      by_cases hx : x < d
      · rw [higM_lt hx, higM_lt hx, ihr d h3]
      · rw [higM_ge hx, higM_ge (by omega), ihr d h3]
        congr 2
        omega
    · rw [higM_node hk, higM_node hk, ihl _ h2, ihr d h3]
/-- Where what is bound isn't used, what lies further out is used as often behind a move down. -/
theorem uses_low (l : List Lm) : ∀ c d : Int, 0 ≤ d → d ≤ c → usesM d l = 0 → usesM c (higM (-1) d l) = usesM (c + 1) l := by
  induction l using Lm.indL with
  | h0 => intro c d _ _ _; simp [higM, usesM]
  | h k x l r ihl ihr =>
    intro c d hd hcd hu
    by_cases hk : k = 1
    · subst hk
      rw [usesM_var] at hu
      have hr := ihr c d hd hcd (by omega)
      have hne : x ≠ d := fun e => by rw [if_pos e] at hu; omega
      by_cases hx : x < d
      · rw [higM_lt hx, usesM_var, usesM_var, hr, if_neg (by omega), if_neg (by omega)]
      · rw [higM_ge hx, usesM_var, usesM_var, hr]
        by_cases e : x = c + 1
        · rw [if_pos e, if_pos (by omega)]
        · rw [if_neg e, if_neg (by omega)]
    · rw [usesM_node hk] at hu
      have hr := ihr c d hd hcd (by omega)
      have hdd : deepK d k ≤ deepK c k ∧ deepK (c + 1) k = deepK c k + 1 := by unfold deepK; split <;> omega
      rw [higM_node hk, usesM_node hk, usesM_node hk, hr, ihl (deepK c k) (deepK d k) (deep_nn hd) hdd.1 (by omega), hdd.2]
/-- Below the place, nothing changes. -/
theorem uses_low0 (l : List Lm) : ∀ c d : Int, 0 ≤ c → c < d → usesM d l = 0 → usesM c (higM (-1) d l) = usesM c l := by
  induction l using Lm.indL with
  | h0 => intro c d _ _ _; simp [higM, usesM]
  | h k x l r ihl ihr =>
    intro c d hc hcd hu
    by_cases hk : k = 1
    · subst hk
      rw [usesM_var] at hu
      have hr := ihr c d hc hcd (by omega)
      have hne : x ≠ d := fun e => by rw [if_pos e] at hu; omega
      by_cases hx : x < d
      · rw [higM_lt hx, usesM_var, usesM_var, hr]
      · rw [higM_ge hx, usesM_var, usesM_var, hr, if_neg (by omega), if_neg (by omega)]
    · rw [usesM_node hk] at hu
      have hr := ihr c d hc hcd (by omega)
      have hdd : deepK c k < deepK d k := by unfold deepK; split <;> omega
      rw [higM_node hk, usesM_node hk, usesM_node hk, hr, ihl (deepK c k) (deepK d k) (deep_nn hc) hdd (by omega)]
/-- Two moves, one further out than the other. -/
theorem hig_comm (y : Int) (hy : y = 1 ∨ y = -1) (l : List Lm) : ∀ c d : Int, 0 ≤ c → c ≤ d → LfM l → usesM c l = 0 → (y = -1 → usesM (d + 1) l = 0) → higM (-1) c (higM y (d + 1) l) = higM y d (higM (-1) c l) := by
  induction l using Lm.indL with
  | h0 => intro c d _ _ _ _ _; simp [higM]
  | h k x l r ihl ihr =>
    intro c d hc hcd hl hu hv
    obtain ⟨h1, h2, h3⟩ := (LfM_cons k x l r).1 hl
    by_cases hk : k = 1
    · subst hk
      rw [usesM_var] at hu
      have hr := ihr c d hc hcd h3 (by omega) (fun e => by have := hv e; rw [usesM_var] at this; omega)
      rw [h1 rfl]
      have hne : x ≠ c := fun e => by rw [if_pos e] at hu; omega
      have hne2 : y = -1 → x ≠ d + 1 := fun e e2 => by have := hv e; rw [usesM_var, if_pos e2] at this; omega
      by_cases hx : x < c
      · rw [higM_lt (show x < d + 1 by omega), higM_lt hx, higM_lt hx, higM_lt (show x < d by omega), hr]
      · by_cases hx2 : x < d + 1
        · rw [higM_lt hx2, higM_ge hx, higM_ge hx, higM_lt (show x + -1 < d by omega), hr]
        · rw [higM_ge hx2, higM_ge (show ¬ x + y < c by omega), higM_ge hx, higM_ge (show ¬ x + -1 < d by omega), hr]
          congr 2
          omega
    · rw [usesM_node hk] at hu
      have hdd : deepK c k ≤ deepK d k ∧ deepK (d + 1) k = deepK d k + 1 := by unfold deepK; split <;> omega
      have hv1 : y = -1 → usesM (deepK (d + 1) k) l = 0 ∧ usesM (d + 1) r = 0 := fun e => by have := hv e; rw [usesM_node hk] at this; omega
      have hr := ihr c d hc hcd h3 (by omega) (fun e => (hv1 e).2)
      rw [higM_node hk, higM_node hk, higM_node hk, higM_node hk, hr, hdd.2, ihl (deepK c k) (deepK d k) (deep_nn hc) hdd.1 h2 (by omega) (fun e => by have := (hv1 e).1; rw [hdd.2] at this; exact this)]
end Go.Proofs.YtfkjejpfhflanaaGreatDoor

/- Plain: eta is kept by moving what is bound, and done once it is done. -/
namespace Go.Proofs.YtfkjejpfhflanaaGreatDoor
open Go.RowKit
set_option linter.unusedSimpArgs false
set_option linter.unusedVariables false
set_option maxRecDepth 8000

theorem usesM_cons (c : Int) (t : Lm) (r : List Lm) : usesM c (t :: r) = usesM c [t] + usesM c r := usesM_append c [t] r
theorem etaM_cons (k x : Int) (l r : List Lm) : etaM (⟨k, x, l⟩ :: r) = etaK k x (etaM l) :: etaM r := by rw [etaM]
theorem etaK_ne {k : Int} (h : k ≠ 2) (x : Int) (L : List Lm) : etaK k x L = ⟨k, x, L⟩ := by unfold etaK; rw [if_neg h]
theorem idle_iff (k x : Int) (f y : Lm) : idleT ⟨k, x, [f, y]⟩ = true ↔ k = 3 ∧ usesM 0 [f] = 0 ∧ y.kind = 1 ∧ y.idx = 0 := by
  unfold idleT
  simp only [Bool.and_eq_true, decide_eq_true_eq]
  constructor
  · rintro ⟨h1, ⟨h2, h3⟩, h4⟩; exact ⟨h1, h2, h3, h4⟩
  · rintro ⟨h1, h2, h3, h4⟩; exact ⟨h1, ⟨h2, h3⟩, h4⟩
theorem etaK_idle {x k2 x2 : Int} {f y : Lm} (h : idleT ⟨k2, x2, [f, y]⟩ = true) : etaK 2 x [⟨k2, x2, [f, y]⟩] = higT (-1) 0 f := by
  unfold etaK
  simp only [if_true, h]
theorem uses_eta (l : List Lm) : ∀ d : Int, 0 ≤ d → ShM l → usesM d (etaM l) = usesM d l := by
  induction l using Lm.indL with
  | h0 => intro d _ _; simp [etaM]
  | h k x l r ihl ihr =>
    intro d hd hs
    rw [ShM_cons] at hs
    have hr := ihr d hd hs.2.2
    rw [etaM_cons]
    by_cases h1 : k = 1
    · subst h1
      rw [etaK_ne (by omega), usesM_var, usesM_var, hr]
    · by_cases h2 : k = 2
      · subst h2
        have hl := ihl (deepK d 2) (deep_nn hd) hs.2.1
        have e2 : deepK d 2 = d + 1 := by simp [deepK]
        rcases etaK_two x (etaM l) with e | ⟨k2, x2, f, y, e1, e3, e4⟩
        · rw [e, usesM_node h1, usesM_node h1, hl, hr]
        · obtain ⟨rfl, hu, hy1, hy2⟩ := (idle_iff k2 x2 f y).1 e3
          rw [e4, usesM_cons, usesM_node h1, hr, ← hl, e1, e2, usesM_node (by omega)]
          have e5 : deepK (d + 1) 3 = d + 1 := by simp [deepK]
          have h6 := uses_low [f] d 0 (Int.le_refl 0) hd hu
          rw [higM_one] at h6
          obtain ⟨yk, yx, yl⟩ := y
          simp only at hy1 hy2
          subst hy1
          subst hy2
          have e7 : usesM (d + 1) [f, ⟨1, 0, yl⟩] = usesM (d + 1) [f] := by
            rw [usesM_cons (d + 1) f [⟨1, 0, yl⟩], usesM_var, if_neg (by omega)]
            simp [usesM]
          have e8 : usesM (d + 1) ([] : List Lm) = 0 := by simp [usesM]
          rw [h6, e5, e7, e8, Nat.add_zero]
      · rw [etaK_ne h2, usesM_node h1, usesM_node h1, ihl _ (deep_nn hd) hs.2.1, hr]
theorem sh_eta (l : List Lm) : ShM l → ShM (etaM l) := by
  induction l using Lm.indL with
  | h0 => intro _; simp [etaM, ShM]
  | h k x l r ihl ihr =>
    intro hs
    rw [ShM_cons] at hs
    have a1 := ihl hs.2.1
    have b1 := ihr hs.2.2
    have hlen : (etaM l).length = l.length := by rw [etaM_map]; simp
    rw [etaM_cons]
    have hkeep : ShM (⟨k, x, etaM l⟩ :: etaM r) := (ShM_cons _ _ _ _).2 ⟨by rw [hlen]; exact hs.1, a1, b1⟩
    by_cases k2 : k = 2
    · subst k2
      rcases etaK_two x (etaM l) with e | ⟨k2, x2, f, y, e1, e2, e3⟩
      · rw [e]; exact hkeep
      · rw [e3]
        rw [e1, ShM_cons] at a1
        have hf1 : ShM [f] := ShM.at 0 (by simp) a1.2.1
        have g1 := sh_hig [f] (-1) 0 hf1
        rw [higM_one] at g1
        generalize higT (-1) 0 f = q at *
        obtain ⟨qk, qx, ql⟩ := q
        rw [ShM_cons] at g1
        exact (ShM_cons _ _ _ _).2 ⟨g1.1, g1.2.1, b1⟩
    · rw [etaK_ne k2]; exact hkeep
theorem uses_move (y : Int) (hy : y = 1 ∨ y = -1) (l : List Lm) (d : Int) (hd : 0 ≤ d) (hu : y = -1 → usesM (d + 1) l = 0) : usesM 0 (higM y (d + 1) l) = usesM 0 l := by
  rcases hy with rfl | rfl
  · rw [uses_up l 0 (d + 1) (Int.le_refl 0) (by omega), if_neg (by omega)]
  · exact uses_low0 l 0 (d + 1) (Int.le_refl 0) (by omega) (hu rfl)
/-- Moving first, or eta first. -/
theorem eta_move (y : Int) (hy : y = 1 ∨ y = -1) (l : List Lm) : ∀ d : Int, 0 ≤ d → ShM l → (y = -1 → usesM d l = 0) → etaM (higM y d l) = higM y d (etaM l) := by
  induction l using Lm.indL with
  | h0 => intro d _ _ _; simp [etaM, higM]
  | h k x l r ihl ihr =>
    intro d hd hs hu
    rw [ShM_cons] at hs
    by_cases h1 : k = 1
    · subst h1
      have hr := ihr d hd hs.2.2 (fun e => by have := hu e; rw [usesM_var] at this; omega)
      have hl : l = [] := List.length_eq_zero_iff.1 (by rw [hs.1]; rfl)
      subst hl
      by_cases hx : x < d
      · rw [higM_lt hx, etaM_cons, etaM_cons, etaK_ne (by omega), hr]
        simp only [etaM]
        rw [higM_lt hx]
      · rw [higM_ge hx, etaM_cons, etaM_cons, etaK_ne (by omega), etaK_ne (by omega), hr]
        simp only [etaM]
        rw [higM_ge hx]
    · have hu1 : y = -1 → usesM (deepK d k) l = 0 ∧ usesM d r = 0 := fun e => by have := hu e; rw [usesM_node h1] at this; omega
      have hr := ihr d hd hs.2.2 (fun e => (hu1 e).2)
      have hl := ihl (deepK d k) (deep_nn hd) hs.2.1 (fun e => (hu1 e).1)
      rw [higM_node h1, etaM_cons, etaM_cons, hl, hr]
      by_cases h2 : k = 2
      case neg => rw [etaK_ne h2, etaK_ne h2, higM_node h1]
      subst h2
      have e2 : deepK d 2 = d + 1 := by simp [deepK]
      rw [e2] at hu1 ⊢
      have hsh := sh_eta l hs.2.1
      have hlen : (etaM l).length = 1 := by rw [etaM_map]; simpa [subsK] using hs.1
      have hue : y = -1 → usesM (d + 1) (etaM l) = 0 := fun e => by rw [uses_eta l (d + 1) (by omega) hs.2.1]; exact (hu1 e).1
      obtain ⟨q, hq⟩ := List.length_eq_one_iff.1 hlen
      rw [hq] at hsh hue ⊢
      rw [higM_one]
      have goal : etaK 2 x [higT y (d + 1) q] = higT y d (etaK 2 x [q]) := by
        rcases etaK_two x [q] with e | ⟨k2, x2, f, yy, e1, e3, e4⟩
        · rw [e]
          have e5 : higT y d ⟨2, x, [q]⟩ = ⟨2, x, [higT y (d + 1) q]⟩ := by
            unfold higT
            rw [if_neg (by simp)]
            simp only [e2, higM_one]
            rfl
          rw [e5]
          rcases etaK_two x [higT y (d + 1) q] with e6 | ⟨k2, x2, f, yy, e6, e7, e8⟩
          · exact e6
          · exfalso
            obtain ⟨rfl, g1, g2, g3⟩ := (idle_iff k2 x2 f yy).1 e7
            have e9 : higT y (d + 1) q = ⟨3, x2, [f, yy]⟩ := by simpa using e6
            obtain ⟨qk, qx, ql⟩ := q
            by_cases hk : qk = 1
            · subst hk
              unfold higT at e9
              rw [if_pos rfl] at e9
              split at e9 <;> simp at e9
            · unfold higT at e9
              rw [if_neg hk] at e9
              simp only [Lm.mk.injEq] at e9
              obtain ⟨rfl, rfl, e10⟩ := e9
              rw [show deepK (d + 1) 3 = d + 1 by simp [deepK]] at e10
              have hl2 : ql.length = 2 := by rw [ShM_cons] at hsh; rw [hsh.1]; rfl
              obtain ⟨f0, y0, rfl⟩ : ∃ f0 y0, ql = [f0, y0] := by
                match ql, hl2 with
                | [f0, y0], _ => exact ⟨f0, y0, rfl⟩
              rw [higM_map] at e10
              simp only [List.map_cons, List.map_nil, List.cons.injEq, and_true] at e10
              obtain ⟨rfl, rfl⟩ := e10
              have hu2 : y = -1 → usesM (d + 1) [f0] = 0 ∧ usesM (d + 1) [y0] = 0 := fun e => by
                have := hue e
                rw [usesM_node (by omega), show deepK (d + 1) 3 = d + 1 by simp [deepK], usesM_cons (d + 1) f0] at this
                simp [usesM] at this ⊢
                omega
              have g4 := uses_move y hy [f0] d hd (fun e => (hu2 e).1)
              rw [higM_one] at g4
              rw [g4] at g1
              obtain ⟨yk, yx, yl⟩ := y0
              have hyk : yk = 1 := by
                by_cases h : yk = 1
                · exact h
                · unfold higT at g2; rw [if_neg h] at g2; exact g2
              subst hyk
              have hyx : yx = 0 := by
                unfold higT at g3
                rw [if_pos rfl] at g3
                by_cases h : yx < d + 1
                · rw [if_pos h] at g3; exact g3
                · rw [if_neg h] at g3
                  simp only at g3
                  rcases hy with rfl | rfl
                  · omega
                  · have := (hu2 rfl).2
                    rw [usesM_var] at this
                    have h9 : yx ≠ d + 1 := fun e => by rw [if_pos e] at this; omega
                    omega
              have h10 : idleT ⟨3, qx, [f0, ⟨1, yx, yl⟩]⟩ = true := (idle_iff _ _ _ _).2 ⟨rfl, g1, rfl, hyx⟩
              rw [etaK_idle h10] at e
              have h12 : sizeM [higT (-1) 0 f0] = sizeM [(⟨2, x, [⟨3, qx, [f0, ⟨1, yx, yl⟩]⟩]⟩ : Lm)] := by rw [← e]
              have h13 := size_hig [f0] (-1) 0
              rw [higM_one] at h13
              have h14 : sizeM [(⟨2, x, [⟨3, qx, [f0, ⟨1, yx, yl⟩]⟩]⟩ : Lm)] = 1 + (1 + sizeM [f0, ⟨1, yx, yl⟩]) := by simp [sizeM]
              have h15 : sizeM [f0] ≤ sizeM [f0, ⟨1, yx, yl⟩] := sizeM_take_le [f0, ⟨1, yx, yl⟩] 1
              omega
        · rw [e4]
          obtain ⟨rfl, g1, g2, g3⟩ := (idle_iff k2 x2 f yy).1 e3
          have eq : q = ⟨3, x2, [f, yy]⟩ := by simpa using e1
          subst eq
          have hu2 : y = -1 → usesM (d + 1) [f] = 0 := fun e => by
            have := hue e
            rw [usesM_node (by omega), show deepK (d + 1) 3 = d + 1 by simp [deepK], usesM_cons (d + 1) f] at this
            omega
          have g4 := uses_move y hy [f] d hd hu2
          rw [higM_one] at g4
          obtain ⟨yk, yx, yl⟩ := yy
          simp only at g2 g3
          subst g2
          subst g3
          have e5 : higT y (d + 1) ⟨3, x2, [f, ⟨1, 0, yl⟩]⟩ = ⟨3, x2, [higT y (d + 1) f, ⟨1, 0, yl⟩]⟩ := by
            unfold higT
            rw [if_neg (by simp)]
            simp only [show deepK (d + 1) 3 = d + 1 by simp [deepK]]
            rw [higM_map]
            simp only [List.map_cons, List.map_nil]
            have e6 : higT y (d + 1) ⟨1, 0, yl⟩ = ⟨1, 0, yl⟩ := by unfold higT; rw [if_pos rfl, if_pos (by show (0 : Int) < d + 1; omega)]
            rw [e6]
            rfl
          rw [e5, etaK_idle ((idle_iff _ _ _ _).2 ⟨rfl, by rw [g4]; exact g1, rfl, rfl⟩)]
          have hfs : ShM [f] := by
            rw [ShM_cons] at hsh
            exact ShM.at 0 (by simp) hsh.2.1
          have h7 := hig_comm y hy [f] 0 d (Int.le_refl 0) hd (lf_of_shE _ hfs) g1 hu2
          rw [higM_one, higM_one, higM_one, higM_one] at h7
          simpa using h7
      rw [goal]
      have e9 : ∀ t : Lm, higM y d (t :: etaM r) = higT y d t :: higM y d (etaM r) := fun t => by rw [higM_map, higM_map]; rfl
      rw [e9]
end Go.Proofs.YtfkjejpfhflanaaGreatDoor

/- Plain: eta is done once it is done, undoes an expansion, and makes no step. -/
namespace Go.Proofs.YtfkjejpfhflanaaGreatDoor
open Go.RowKit
set_option linter.unusedSimpArgs false
set_option linter.unusedVariables false
set_option maxRecDepth 8000

theorem etaM_one (t : Lm) : etaM [t] = [etaT t] := by rw [etaM_map]; rfl
theorem eta_idem (l : List Lm) : ShM l → etaM (etaM l) = etaM l := by
  induction l using Lm.indL with
  | h0 => intro _; simp [etaM]
  | h k x l r ihl ihr =>
    intro hs
    rw [ShM_cons] at hs
    have hl := ihl hs.2.1
    have hr := ihr hs.2.2
    have sl := sh_eta l hs.2.1
    rw [etaM_cons]
    by_cases h2 : k = 2
    · subst h2
      rcases etaK_two x (etaM l) with e | ⟨k2, x2, f, y, e1, e3, e4⟩
      · rw [e, etaM_cons, hl, e, hr]
      · rw [e4]
        obtain ⟨rfl, hu, hy1, hy2⟩ := (idle_iff k2 x2 f y).1 e3
        rw [e1] at hl sl
        rw [ShM_cons] at sl
        have sf : ShM [f] := ShM.at 0 (by simp) sl.2.1
        rw [etaM_cons, etaK_ne (by omega)] at hl
        have h3 : etaM [f, y] = [f, y] := by
          have := hl
          simp only [List.cons.injEq, Lm.mk.injEq, true_and] at this
          exact this.1
        have h4 : etaM [f] = [f] := by
          rw [etaM_map] at h3 ⊢
          simp only [List.map_cons, List.map_nil, List.cons.injEq] at h3 ⊢
          exact ⟨h3.1, trivial⟩
        have h5 := eta_move (-1) (Or.inr rfl) [f] 0 (Int.le_refl 0) sf (fun _ => hu)
        rw [h4, higM_one, etaM_one] at h5
        have h6 : etaT (higT (-1) 0 f) = higT (-1) 0 f := by simpa using h5
        rw [etaM_map, List.map_cons, ← etaM_map, hr, h6]
    · rw [etaK_ne h2, etaM_cons, hl, hr, etaK_ne h2]
end Go.Proofs.YtfkjejpfhflanaaGreatDoor

/- Plain: eta keeps a term that may be; how great a step is; no step. -/
namespace Go.Proofs.YtfkjejpfhflanaaGreatDoor
open Go.RowKit
set_option linter.unusedSimpArgs false
set_option linter.unusedVariables false
set_option maxRecDepth 8000

end Go.Proofs.YtfkjejpfhflanaaGreatDoor
