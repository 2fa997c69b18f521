/- Plain: how great lambda terms become, and that they may be. -/
import Derived.Test.YtclobmmdlhianaaGreatDoorCr2
namespace Go.Proofs.YtclobmmdlhianaaGreatDoor
open Go.RowKit
set_option linter.unusedSimpArgs false
set_option linter.unusedVariables false
set_option maxRecDepth 8000

def PX.sz : PX → Nat
  | .v _ => 1
  | .c _ => 1
  | .l b => 1 + b.sz
  | .a f x => 1 + (f.sz + x.sz)
def PX.lv : PX → Nat
  | .v _ => 1
  | .c _ => 1
  | .l b => b.lv
  | .a f x => f.lv + x.lv
theorem PX.lv_sz : ∀ p : PX, 2 * p.lv ≤ p.sz + 1
  | .v _ => by simp [PX.lv, PX.sz]
  | .c _ => by simp [PX.lv, PX.sz]
  | .l b => by have := PX.lv_sz b; simp only [PX.lv, PX.sz]; omega
  | .a f x => by have := PX.lv_sz f; have := PX.lv_sz x; simp only [PX.lv, PX.sz]; omega
theorem PX.ren_sz (p : PX) : ∀ r : Nat → Nat, (p.ren r).sz = p.sz := by
  induction p with
  | v i => intro r; rfl
  | c k => intro r; rfl
  | l b ih => intro r; simp only [PX.ren, PX.sz, ih]
  | a f x hf hx => intro r; simp only [PX.ren, PX.sz, hf, hx]
theorem PX.sub_sz (K : Nat) (hK : 1 ≤ K) (p : PX) : ∀ s : Nat → PX, (∀ i, (s i).sz ≤ K) → (p.sub s).sz ≤ p.sz + p.lv * (K - 1) := by
  induction p with
  | v i => intro s hs; have := hs i; simp only [PX.sub, PX.sz, PX.lv]; omega
  | c k => intro s hs; simp only [PX.sub, PX.sz, PX.lv]; omega
  | l b ih =>
    intro s hs
    have := ih (up s) (fun i => by
      cases i with
      | zero => exact hK
      | succ i => simp only [PX.up]; rw [PX.ren_sz]; exact hs i)
    simp only [PX.sub, PX.sz, PX.lv]; omega
  | a f x hf hx =>
    intro s hs
    have h1 := hf s hs
    have h2 := hx s hs
    simp only [PX.sub, PX.sz, PX.lv]
    rw [Nat.add_mul]
    omega
theorem PX.ins_sz {q : PX} {K : Nat} (hq : q.sz ≤ K) (hK : 1 ≤ K) (p : PX) : (p.sub (ins q)).sz ≤ p.sz + p.lv * (K - 1) :=
  PX.sub_sz K hK p _ fun i => by cases i with | zero => exact hq | succ i => exact hK
theorem PX.one_sz (p : PX) : ∀ s : Nat → PX, (∀ i, ∃ j, s i = .v j) → (p.sub s).sz = p.sz := by
  induction p with
  | v i => intro s hs; obtain ⟨j, hj⟩ := hs i; simp only [PX.sub]; rw [hj]; rfl
  | c k => intro s hs; rfl
  | l b ih =>
    intro s hs
    simp only [PX.sub, PX.sz]
    rw [ih (up s) (fun i => by
      cases i with
      | zero => exact ⟨0, rfl⟩
      | succ i => obtain ⟨j, hj⟩ := hs i; exact ⟨j + 1, by simp only [PX.up]; rw [hj]; rfl⟩)]
  | a f x hf hx => intro s hs; simp only [PX.sub, PX.sz]; rw [hf s hs, hx s hs]
theorem px_sz : ∀ p : PX, sizeM [p.m] = p.sz
  | .v i => by simp [PX.m, sizeM, PX.sz]
  | .c k => by simp [PX.m, sizeM, PX.sz]
  | .l b => by have := px_sz b; simp only [PX.m, PX.sz]; rw [← this]; simp [sizeM]
  | .a f x => by
    have h1 := px_sz f
    have h2 := px_sz x
    simp only [PX.m, PX.sz]
    rw [← h1, ← h2]
    have h3 : sizeM [f.m, x.m] = sizeM [f.m] + sizeM [x.m] := sizeM_append [f.m] [x.m]
    rw [← h3]
    simp [sizeM]
/-- May it be, under so many? -/
def PX.ok : PX → Nat → Prop
  | .v i, u => i < u
  | .c k, _ => 0 ≤ k ∧ k < 40
  | .l b, u => b.ok (u + 1)
  | .a f x, u => f.ok u ∧ x.ok u
theorem px_ok : ∀ (p : PX) (u : Nat), errM (u : Int) 0 [p.m] = 0 ↔ p.ok u
  | .v i, u => by
    simp only [PX.m, PX.ok]
    rw [err_one0, knE_zero]
    simp [subsK, mostK, errM]
  | .c k, u => by
    simp only [PX.m, PX.ok]
    rw [err_one0, knE_zero]
    simp [subsK, mostK, errM]
  | .l b, u => by
    have h := px_ok b (u + 1)
    simp only [PX.m, PX.ok]
    rw [← h, err_one0, knE_zero]
    simp [subsK, mostK, deepK]
  | .a f x, u => by
    have h1 := px_ok f u
    have h2 := px_ok x u
    simp only [PX.m, PX.ok]
    rw [← h1, ← h2, err_one0, knE_zero, err_two0]
    simp [subsK, mostK, deepK]
theorem PX.ren_ok (p : PX) : ∀ (r : Nat → Nat) (u u' : Nat), (∀ i, i < u → r i < u') → p.ok u → (p.ren r).ok u' := by
  induction p with
  | v i => intro r u u' h hp; exact h i hp
  | c k => intro r u u' h hp; exact hp
  | l b ih =>
    intro r u u' h hp
    exact ih _ (u + 1) (u' + 1) (fun i hi => by cases i with | zero => simp [PX.upr] | succ i => have := h i (by omega); simp only [PX.upr]; omega) hp
  | a f x hf hx => intro r u u' h hp; exact ⟨hf r u u' h hp.1, hx r u u' h hp.2⟩
theorem PX.sub_ok (p : PX) : ∀ (s : Nat → PX) (u u' : Nat), (∀ i, i < u → (s i).ok u') → p.ok u → (p.sub s).ok u' := by
  induction p with
  | v i => intro s u u' h hp; exact h i hp
  | c k => intro s u u' h hp; exact hp
  | l b ih =>
    intro s u u' h hp
    refine ih _ (u + 1) (u' + 1) (fun i hi => ?_) hp
    cases i with
    | zero => simp [PX.up, PX.ok]
    | succ i => exact PX.ren_ok (s i) (· + 1) u' (u' + 1) (fun i hi => by omega) (h i (by omega))
  | a f x hf hx => intro s u u' h hp; exact ⟨hf s u u' h hp.1, hx s u u' h hp.2⟩
theorem PX.ins_ok {q : PX} {u : Nat} (hq : q.ok u) {p : PX} (hp : p.ok (u + 1)) : (p.sub (ins q)).ok u :=
  PX.sub_ok p _ (u + 1) u (fun i hi => by cases i with | zero => exact hq | succ i => show i < u; omega) hp

end Go.Proofs.YtclobmmdlhianaaGreatDoor
