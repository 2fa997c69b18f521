/- Plain: the document's steps by i, k and s are steps that come together again; where it finds none, none is left (towards TopBracket). -/
import Derived.Test.YtcdabjekppddjaaGreatDoorZCombMadeOwn
import Derived.Test.YtcdabjekppddjaaGreatDoorBk1
namespace Go.Proofs.YtcdabjekppddjaaGreatDoor
set_option linter.unusedSimpArgs false
set_option linter.unusedVariables false

def leafC (s : ByteArray) : CT := if s = iB then .I else if s = kB then .K else if s = sB then .S else .at s
def toCR : Nat → Tm → CT
  | 0, t => .at t.name
  | n + 1, ⟨s, [f, x]⟩ => .ap (toCR n f) (toCR n x)
  | _ + 1, t => leafC t.name
def toC (t : Tm) : CT := toCR (sizeL [t]) t
theorem toCR_more (n : Nat) : ∀ (t : Tm) (m : Nat), isC t = true → sizeL [t] ≤ n → n ≤ m → toCR m t = toCR n t := by
  induction n with
  | zero => intro t m _ h; have := size_posC t; omega
  | succ n ih =>
    intro t m hc h hm
    obtain ⟨m, rfl⟩ : ∃ k, m = k + 1 := ⟨m - 1, by omega⟩
    rcases isC_cases hc with ⟨s, rfl⟩ | ⟨f, x, rfl, h1, h2⟩
    · rfl
    · have hs := size_ap f x
      have a1 := size_posC f
      have a2 := size_posC x
      simp only [apT, toCR]
      rw [ih f m h1 (by omega) (by omega), ih x m h2 (by omega) (by omega)]
theorem toC_leaf (s : ByteArray) : toC ⟨s, []⟩ = leafC s := by simp [toC, sizeL_one, sizeL, toCR]
theorem toC_ap {f x : Tm} (h1 : isC f = true) (h2 : isC x = true) : toC (apT f x) = .ap (toC f) (toC x) := by
  have h := size_ap f x
  have a1 := size_posC f
  have a2 := size_posC x
  rw [toC, h, show 1 + sizeL [f] + sizeL [x] = (sizeL [f] + sizeL [x]) + 1 by omega]
  simp only [apT, toCR]
  rw [toCR_more (sizeL [f]) f _ h1 (Nat.le_refl _) (by omega), toCR_more (sizeL [x]) x _ h2 (Nat.le_refl _) (by omega)]
  rfl
theorem leafC_i : leafC iB = .I := by simp [leafC]
theorem leafC_k : leafC kB = .K := by unfold leafC; rw [if_neg (by decide), if_pos rfl]
theorem leafC_s : leafC sB = .S := by unfold leafC; rw [if_neg (by decide), if_neg (by decide), if_pos rfl]
end Go.Proofs.YtcdabjekppddjaaGreatDoor
