/- Lambda terms in plain: all ways of working them out come together again (by complete developments). -/
import Derived.Test.YtclobmmdlhianaaGreatDoorZBTopSubstitutionOwn
namespace Go.Proofs.YtclobmmdlhianaaGreatDoor

inductive PX where
  | v (i : Nat)
  | c (k : Int)
  | l (b : PX)
  | a (f x : PX)

/-- Other names for what is bound from outside. -/
def PX.upr (r : Nat → Nat) : Nat → Nat
  | 0 => 0
  | i + 1 => r i + 1
def PX.ren (r : Nat → Nat) : PX → PX
  | .v i => .v (r i)
  | .c k => .c k
  | .l b => .l (b.ren (upr r))
  | .a f x => .a (f.ren r) (x.ren r)
/-- Terms for what is bound from outside. -/
def PX.up (s : Nat → PX) : Nat → PX
  | 0 => .v 0
  | i + 1 => (s i).ren (· + 1)
def PX.sub (s : Nat → PX) : PX → PX
  | .v i => s i
  | .c k => .c k
  | .l b => .l (b.sub (up s))
  | .a f x => .a (f.sub s) (x.sub s)
/-- One term for the nearest. -/
def PX.ins (z : PX) : Nat → PX
  | 0 => z
  | i + 1 => .v i

theorem PX.upr_comp (r q : Nat → Nat) : (fun i => upr r (upr q i)) = upr (fun i => r (q i)) := by
  funext i; cases i <;> rfl
theorem PX.ren_ren (t : PX) : ∀ (r q : Nat → Nat), (t.ren q).ren r = t.ren (fun i => r (q i)) := by
  induction t with
  | v i => intro r q; rfl
  | c k => intro r q; rfl
  | l b ih => intro r q; simp only [PX.ren]; rw [ih, PX.upr_comp]
  | a f x hf hx => intro r q; simp only [PX.ren]; rw [hf, hx]
theorem PX.up_upr (s : Nat → PX) (r : Nat → Nat) : (fun i => up s (upr r i)) = up (fun i => s (r i)) := by
  funext i; cases i <;> rfl
theorem PX.sub_ren (t : PX) : ∀ (s : Nat → PX) (r : Nat → Nat), (t.ren r).sub s = t.sub (fun i => s (r i)) := by
  induction t with
  | v i => intro s r; rfl
  | c k => intro s r; rfl
  | l b ih => intro s r; simp only [PX.ren, PX.sub]; rw [ih, PX.up_upr]
  | a f x hf hx => intro s r; simp only [PX.ren, PX.sub]; rw [hf, hx]
theorem PX.ren_up (r : Nat → Nat) (s : Nat → PX) : (fun i => (up s i).ren (upr r)) = up (fun i => (s i).ren r) := by
  funext i
  cases i with
  | zero => rfl
  | succ i => simp only [PX.up]; rw [PX.ren_ren, PX.ren_ren]; rfl
theorem PX.ren_sub (t : PX) : ∀ (r : Nat → Nat) (s : Nat → PX), (t.sub s).ren r = t.sub (fun i => (s i).ren r) := by
  induction t with
  | v i => intro r s; rfl
  | c k => intro r s; rfl
  | l b ih => intro r s; simp only [PX.ren, PX.sub]; rw [ih, PX.ren_up]
  | a f x hf hx => intro r s; simp only [PX.ren, PX.sub]; rw [hf, hx]
theorem PX.sub_up (s q : Nat → PX) : (fun i => (up q i).sub (up s)) = up (fun i => (q i).sub s) := by
  funext i
  cases i with
  | zero => rfl
  | succ i => simp only [PX.up]; rw [PX.sub_ren, PX.ren_sub]; rfl
theorem PX.sub_sub (t : PX) : ∀ (s q : Nat → PX), (t.sub q).sub s = t.sub (fun i => (q i).sub s) := by
  induction t with
  | v i => intro s q; rfl
  | c k => intro s q; rfl
  | l b ih => intro s q; simp only [PX.sub]; rw [ih, PX.sub_up]
  | a f x hf hx => intro s q; simp only [PX.sub]; rw [hf, hx]
theorem PX.up_v : up PX.v = PX.v := by funext i; cases i <;> rfl
theorem PX.sub_v (t : PX) : t.sub PX.v = t := by
  induction t with
  | v i => rfl
  | c k => rfl
  | l b ih => simp only [PX.sub]; rw [PX.up_v, ih]
  | a f x hf hx => simp only [PX.sub]; rw [hf, hx]
theorem PX.ren_is (t : PX) : ∀ (r : Nat → Nat), t.ren r = t.sub (fun i => .v (r i)) := by
  induction t with
  | v i => intro r; rfl
  | c k => intro r; rfl
  | l b ih =>
    intro r; simp only [PX.ren, PX.sub]; rw [ih]
    congr 2
    funext i; cases i <;> rfl
  | a f x hf hx => intro r; simp only [PX.ren, PX.sub]; rw [hf, hx]
/-- Terms put into what was put in. -/
theorem PX.sub_ins (s : Nat → PX) (z b : PX) : (b.sub (ins z)).sub s = (b.sub (up s)).sub (ins (z.sub s)) := by
  rw [PX.sub_sub, PX.sub_sub]
  congr 1
  funext i
  cases i with
  | zero => rfl
  | succ i =>
    simp only [PX.ins, PX.up, PX.sub]
    rw [PX.sub_ren]
    exact (PX.sub_v (s i)).symm
theorem PX.ren_ins (r : Nat → Nat) (z b : PX) : (b.sub (ins z)).ren r = (b.ren (upr r)).sub (ins (z.ren r)) := by
  rw [PX.ren_is, PX.sub_ins, PX.ren_is z r, PX.ren_is b (upr r)]
  congr 2
  funext i; cases i <;> rfl

/-- Some steps at once. -/
inductive PX.Par : PX → PX → Prop where
  | v (i : Nat) : Par (.v i) (.v i)
  | c (k : Int) : Par (.c k) (.c k)
  | l {b b' : PX} : Par b b' → Par (.l b) (.l b')
  | a {f f' x x' : PX} : Par f f' → Par x x' → Par (.a f x) (.a f' x')
  | b {b b' x x' : PX} : Par b b' → Par x x' → Par (.a (.l b) x) (b'.sub (ins x'))
theorem PX.Par.refl : ∀ t : PX, Par t t
  | .v i => .v i
  | .c k => .c k
  | .l y => .l (Par.refl y)
  | .a f x => .a (Par.refl f) (Par.refl x)
theorem PX.Par.ren {t s : PX} (h : Par t s) : ∀ r : Nat → Nat, Par (t.ren r) (s.ren r) := by
  induction h with
  | v i => intro r; exact .v _
  | c k => intro r; exact .c _
  | l _ ih => intro r; exact .l (ih _)
  | a _ _ h1 h2 => intro r; exact .a (h1 _) (h2 _)
  | b _ _ h1 h2 => intro r; rw [PX.ren_ins]; exact .b (h1 _) (h2 _)
theorem PX.Par.up {s s' : Nat → PX} (h : ∀ i, Par (s i) (s' i)) : ∀ i, Par (PX.up s i) (PX.up s' i)
  | 0 => .v 0
  | i + 1 => (h i).ren _
theorem PX.Par.sub {t t' : PX} (h : Par t t') : ∀ {s s' : Nat → PX}, (∀ i, Par (s i) (s' i)) → Par (t.sub s) (t'.sub s') := by
  induction h with
  | v i => intro s s' hs; exact hs i
  | c k => intro s s' hs; exact .c k
  | l _ ih => intro s s' hs; exact .l (ih (PX.Par.up hs))
  | a _ _ h1 h2 => intro s s' hs; exact .a (h1 hs) (h2 hs)
  | b _ _ h1 h2 => intro s s' hs; rw [PX.sub_ins]; exact .b (h1 (PX.Par.up hs)) (h2 hs)
theorem PX.Par.ins {z z' b b' : PX} (hz : Par z z') (hb : Par b b') : Par (b.sub (PX.ins z)) (b'.sub (PX.ins z')) :=
  hb.sub fun i => by cases i with | zero => exact hz | succ i => exact .v i

/-- All steps at once. -/
def PX.dev : PX → PX
  | .v i => .v i
  | .c k => .c k
  | .l b => .l b.dev
  | .a (.l b) x => b.dev.sub (ins x.dev)
  | .a f x => .a f.dev x.dev
theorem PX.Par.lam {b t : PX} (h : Par (.l b) t) : ∃ b', t = .l b' ∧ Par b b' := by
  cases h with
  | l h => exact ⟨_, rfl, h⟩
theorem PX.taka {t s : PX} (h : Par t s) : Par s t.dev := by
  induction h with
  | v i => exact .v i
  | c k => exact .c k
  | l _ ih => exact .l ih
  | @a f f' x x' h1 h2 i1 i2 =>
    cases f with
    | v i => exact .a i1 i2
    | c k => exact .a i1 i2
    | a g y => exact .a i1 i2
    | l b =>
      obtain ⟨b', rfl, hb⟩ := h1.lam
      simp only [PX.dev]
      have i1' : Par (.l b') (.l b.dev) := i1
      obtain ⟨b2, e, hb2⟩ := i1'.lam
      cases e
      exact .b hb2 i2
  | b _ _ i1 i2 => exact PX.Par.ins i2 i1

/-- Again and again. -/
inductive PX.Pars : PX → PX → Prop where
  | refl (t : PX) : Pars t t
  | tail {t s u : PX} : Pars t s → Par s u → Pars t u
theorem PX.Pars.trans {t s u : PX} (h : Pars t s) (k : Pars s u) : Pars t u := by
  induction k with
  | refl => exact h
  | tail _ h2 ih => exact .tail ih h2
theorem PX.Pars.one {t s : PX} (h : Par t s) : Pars t s := .tail (.refl t) h
theorem PX.strip {t s u : PX} (h : Par t s) (k : Pars t u) : ∃ w, Pars s w ∧ Par u w := by
  induction k with
  | refl => exact ⟨s, .refl s, h⟩
  | tail _ h2 ih =>
    obtain ⟨w, h3, h4⟩ := ih
    exact ⟨_, h3.tail (PX.taka h4), PX.taka h2⟩
/-- CHURCH, ROSSER. -/
theorem PX.meet {t s u : PX} (h : Pars t s) (k : Pars t u) : ∃ w, Pars s w ∧ Pars u w := by
  induction h with
  | refl => exact ⟨u, k, .refl u⟩
  | tail _ h2 ih =>
    obtain ⟨w, h3, h4⟩ := ih
    obtain ⟨x, h5, h6⟩ := PX.strip h2 h3
    exact ⟨x, h5, h4.tail h6⟩

/-- Is there a step? -/
def PX.isl : PX → Bool
  | .l _ => true
  | _ => false
def PX.st : PX → Bool
  | .v _ => false
  | .c _ => false
  | .l b => b.st
  | .a f x => f.isl || f.st || x.st
theorem PX.Par.nf {t s : PX} (h : Par t s) : t.st = false → s = t := by
  induction h with
  | v i => intro _; rfl
  | c k => intro _; rfl
  | l _ ih => intro hn; rw [ih hn]
  | a _ _ h1 h2 => intro hn; simp [PX.st] at hn; rw [h1 hn.1.2, h2 hn.2]
  | b _ _ _ _ => intro hn; simp [PX.st, PX.isl] at hn
theorem PX.Pars.nf {t s : PX} (h : Pars t s) (hn : t.st = false) : s = t := by
  induction h with
  | refl => rfl
  | tail _ h2 ih => subst ih; exact h2.nf hn
/-- One end alone. -/
theorem PX.only {t s u : PX} (h : Pars t s) (k : Pars t u) (hs : s.st = false) (hu : u.st = false) : s = u := by
  obtain ⟨w, h1, h2⟩ := PX.meet h k
  rw [← h1.nf hs, ← h2.nf hu]
end Go.Proofs.YtclobmmdlhianaaGreatDoor
