/- Plain: steps by i, k and s come together again (parallel steps; towards TopBracket). -/
import Derived.Test.YtcdabjekppddjaaGreatDoorZCombMadeOwn
namespace Go.Proofs.YtcdabjekppddjaaGreatDoor
set_option linter.unusedSimpArgs false
set_option linter.unusedVariables false

/-- Terms put together of i, k, s and other leaves. -/
inductive CT where
  | I
  | K
  | S
  | at (s : ByteArray)
  | ap (f x : CT)
/-- Some steps at once, none within another one's outcome. -/
inductive CPar : CT → CT → Prop
  | refl (t : CT) : CPar t t
  | ap {f f' x x' : CT} : CPar f f' → CPar x x' → CPar (.ap f x) (.ap f' x')
  | i {x x' : CT} : CPar x x' → CPar (.ap .I x) x'
  | k {x x' y : CT} : CPar x x' → CPar (.ap (.ap .K x) y) x'
  | s {x x' y y' z z' : CT} : CPar x x' → CPar y y' → CPar z z' → CPar (.ap (.ap (.ap .S x) y) z) (.ap (.ap x' z') (.ap y' z'))
/-- All steps at once. -/
def CT.dev : CT → CT
  | .ap .I x => x.dev
  | .ap (.ap .K x) y => x.dev
  | .ap (.ap (.ap .S x) y) z => .ap (.ap x.dev z.dev) (.ap y.dev z.dev)
  | .ap f x => .ap f.dev x.dev
  | t => t
/-- What a term with a leaf k, or s, ahead may come to. -/
theorem CPar.atom_I {t : CT} (h : CPar .I t) : t = .I := by cases h; rfl
theorem CPar.atom_K {t : CT} (h : CPar .K t) : t = .K := by cases h; rfl
theorem CPar.atom_S {t : CT} (h : CPar .S t) : t = .S := by cases h; rfl
theorem CPar.k1 {x t : CT} (h : CPar (.ap .K x) t) : ∃ x', t = .ap .K x' ∧ CPar x x' := by
  cases h with
  | refl => exact ⟨x, rfl, .refl _⟩
  | ap h1 h2 => rw [h1.atom_K]; exact ⟨_, rfl, h2⟩
theorem CPar.s1 {x t : CT} (h : CPar (.ap .S x) t) : ∃ x', t = .ap .S x' ∧ CPar x x' := by
  cases h with
  | refl => exact ⟨x, rfl, .refl _⟩
  | ap h1 h2 => rw [h1.atom_S]; exact ⟨_, rfl, h2⟩
theorem CPar.s2 {x y t : CT} (h : CPar (.ap (.ap .S x) y) t) : ∃ x' y', t = .ap (.ap .S x') y' ∧ CPar x x' ∧ CPar y y' := by
  cases h with
  | refl => exact ⟨x, y, rfl, .refl _, .refl _⟩
  | ap h1 h2 =>
    obtain ⟨x', rfl, hx⟩ := h1.s1
    exact ⟨x', _, rfl, hx, h2⟩
theorem CPar.dev_one {f x f' x' : CT} (hf : CPar f' f.dev) (hx : CPar x' x.dev) (h0 : CPar f f') : CPar (.ap f' x') (CT.dev (.ap f x)) := by
  match f, hf, h0 with
  | .I, hf, h0 => rw [h0.atom_I, CT.dev]; exact .i hx
  | .K, hf, h0 => rw [h0.atom_K]; exact .ap (.refl _) hx
  | .S, hf, h0 => rw [h0.atom_S]; exact .ap (.refl _) hx
  | .at nm, hf, h0 => cases h0; exact .ap (.refl _) hx
  | .ap .K y, hf, h0 =>
    obtain ⟨y', rfl, _⟩ := h0.k1
    have h1 : CT.dev (.ap .K y) = .ap .K y.dev := by simp [CT.dev]
    rw [h1] at hf
    obtain ⟨z, e, h2⟩ := hf.k1
    cases e
    rw [CT.dev]
    exact .k h2
  | .ap (.ap .S a) b, hf, h0 =>
    obtain ⟨a', b', rfl, _, _⟩ := h0.s2
    have h1 : CT.dev (.ap (.ap .S a) b) = .ap (.ap .S a.dev) b.dev := by simp [CT.dev]
    rw [h1] at hf
    obtain ⟨a2, b2, e, h2, h3⟩ := hf.s2
    cases e
    rw [CT.dev]
    exact .s h2 h3 hx
  | .ap .I b, hf, h0 => exact .ap hf hx
  | .ap .S b, hf, h0 => exact .ap hf hx
  | .ap (.at nm) b, hf, h0 => exact .ap hf hx
  | .ap (.ap .I a) b, hf, h0 => exact .ap hf hx
  | .ap (.ap .K a) b, hf, h0 => exact .ap hf hx
  | .ap (.ap (.at nm) a) b, hf, h0 => exact .ap hf hx
  | .ap (.ap (.ap c a) d) b, hf, h0 => exact .ap hf hx
theorem CPar.dev_refl : ∀ t : CT, CPar t t.dev
  | .I => .refl _
  | .K => .refl _
  | .S => .refl _
  | .at nm => .refl _
  | .ap f x => CPar.dev_one (dev_refl f) (dev_refl x) (.refl _)
/-- Whatever steps are done at once, the others can be done behind them. -/
theorem CPar.dev {a b : CT} (h : CPar a b) : CPar b a.dev := by
  induction h with
  | refl t => exact CPar.dev_refl t
  | ap h1 h2 i1 i2 => exact CPar.dev_one i1 i2 h1
  | i h ih => rw [CT.dev]; exact ih
  | k h ih => rw [CT.dev]; exact ih
  | s h1 h2 h3 i1 i2 i3 => rw [CT.dev]; exact .ap (.ap i1 i3) (.ap i2 i3)
/-- Many steps. -/
inductive CStar : CT → CT → Prop
  | refl (t : CT) : CStar t t
  | step {a b c : CT} : CPar a b → CStar b c → CStar a c
theorem CStar.strip {a b c : CT} (h : CStar a c) (h1 : CPar a b) : ∃ d, CStar b d ∧ CPar c d := by
  induction h generalizing b with
  | refl t => exact ⟨b, .refl _, h1⟩
  | step h2 h3 ih =>
    obtain ⟨d, hd, he⟩ := ih h2.dev
    exact ⟨d, .step h1.dev hd, he⟩
/-- Steps come together again. -/
theorem CStar.meet {a b c : CT} (h : CStar a b) (h1 : CStar a c) : ∃ d, CStar b d ∧ CStar c d := by
  induction h generalizing c with
  | refl t => exact ⟨c, h1, .refl _⟩
  | step h2 h3 ih =>
    obtain ⟨d, hd, he⟩ := h1.strip h2
    obtain ⟨f, hf, hg⟩ := ih hd
    exact ⟨f, hf, .step he hg⟩
/-- No step is left. -/
def CNorm (t : CT) : Prop := ∀ u, CPar t u → u = t
theorem CNorm.star {t u : CT} (h : CNorm t) (hs : CStar t u) : u = t := by
  induction hs with
  | refl t => rfl
  | step h1 h2 ih =>
    have e := h _ h1
    subst e
    exact ih h
/-- Two ends of one term are the same. -/
theorem CStar.ends {a b c : CT} (h1 : CStar a b) (h2 : CStar a c) (hb : CNorm b) (hc : CNorm c) : b = c := by
  obtain ⟨d, h3, h4⟩ := h1.meet h2
  rw [← hb.star h3, hc.star h4]
end Go.Proofs.YtcdabjekppddjaaGreatDoor
