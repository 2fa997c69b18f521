import Derived.Test.YtbnmlkaejdpigaaGreatDoorOv12
import Derived.Test.YtbnmlkaejdpigaaGreatDoorZBTopLocalOwn
import Derived.Test.YtbnmlkaejdpigaaGreatDoorW114
import Derived.Test.YtbnmlkaejdpigaaGreatDoorW187
namespace Go.Proofs.YtbnmlkaejdpigaaGreatDoor
open Go.RowKit
set_option linter.unusedSimpArgs false
set_option linter.unusedVariables false
set_option maxRecDepth 8000
theorem FR.of_runO : ∀ (n : Nat) (s : List Bd) (l : List Pr) (e : Int) (sf : List Bd), uRun false n s l = some (e, sf) → e ≠ 8 → FR s l e sf
 | 0, _, _, _, _, h, _ => by cases h
 | n + 1, s, [], e, sf, h, _ => by
  rw [uRun] at h
  cases h
  exact FR.done s
 | n + 1, s, p :: l, e, sf, h, h8 => by
  rw [uRun, uNext_cons] at h
  by_cases hz : 2000 < sizeL [onT s p.l] ∨ 2000 < sizeL [onT s p.r]
  ·unfold uPair at h
   rw [if_pos hz] at h
   cases h
   exact absurd rfl h8
  ·rw [uPair_of (by omega) (by omega)] at h
   cases hf : fPair s (onT s p.l) (onT s p.r) with
   | go s' l' =>
    rw [hf] at h
    exact FR.step hf (FR.of_runO n s' (l' ++ l) e sf h h8)
   | stop e' =>
    rw [hf] at h
    cases h
    exact FR.stop hf
theorem ok_runO {n : Nat} {l : List Pr} {R : Int × List Bd} (h : uRun false n [] l = some R) (h0 : R.1 = 0) (he : errL (flatP l) = 0) : OkS R.2 :=
 ((FR.of_runO n [] l R.1 R.2 h (by rw [h0]; decide)).run okS_nil he).1.1
theorem onceO_of {ls : List Bd} (h : ApartB ls) : Once ls := by
 intro k hk
 have key : ∀ (l : List Bd) (n : ByteArray), (∀ d ∈ l, d.nm ≠ n) → forT l n = none := by
  intro l n
  induction l with
  | nil => intro _; rfl
  | cons d r ih =>
   intro h
   rw [forT, if_neg (h d (by simp))]
   exact ih fun e he => h e (by simp [he])
 refine key _ _ fun d hd => ?_
 obtain ⟨i, hi, rfl⟩ := List.getElem_of_mem hd
 rw [List.length_take] at hi
 rw [List.getElem_take]
 exact List.pairwise_iff_getElem.1 h i k (by omega) hk (by omega)
open Classical in
noncomputable def unU (ls : List Pr) : Int × List Bd := if h : ∃ r n, uRun false n [] ls = some r then Classical.choose h else (0, [])
theorem unU_run {ls : List Pr} (h : errL (flatP ls) = 0) : ∃ g, uRun false g [] ls = some (unU ls) := by
 obtain ⟨n, r, hr⟩ := u_ends0 ls h
 have hx : ∃ r n, uRun false n [] ls = some r := ⟨r, n, hr⟩
 unfold unU
 rw [dif_pos hx]
 exact Classical.choose_spec hx
theorem unU_may (ls : List Pr) (h : pairsE ls = 0) : ∃ g, uRun false g [] ls = some (unU ls) := unU_run (pairs_start h).1
theorem unU_ok (ls : List Pr) (h : pairsE ls = 0) (h0 : (unU ls).1 = 0) : OkS (unU ls).2 := by
 obtain ⟨g, hg⟩ := unU_may ls h
 exact ok_runO hg h0 (pairs_start h).1
theorem unU_once (ls : List Pr) (h : pairsE ls = 0) (h0 : (unU ls).1 = 0) : Once (unU ls).2 := onceO_of (unU_ok ls h h0).1
theorem name_nmZ4 : ∀ {k : Nat}, k < 4402 → nameB (nmZ k) = true := by decide +kernel
theorem rkL_err (K : ByteArray → ByteArray) (l : List Tm) : ∀ (ns : List ByteArray), errL l = 0 → ns.length + sizeL l ≤ 4400 → errL (rkL K ns l).1 = 0 := by
 induction l using Tm.indL with
 | h0 => intro ns _ _; rw [rkL]; simp [errL]
 | h s l r ihl ihr =>
  intro ns he hz
  have e : sizeL ((⟨s, l⟩ : Tm) :: r) = 1 + sizeL l + sizeL r := by simp [sizeL]
  rw [e] at hz
  obtain ⟨h1, h2, h3⟩ := errL_partsR he
  have hnm : nameB s = true := errL_name he
  rw [rkL]
  by_cases hv : varB s = true
  ·have hl := h1 hv
   subst hl
   rw [if_pos hv]
   have hix := idxS_le (K s) ns
   have hal := addS_len ns (K s)
   have hzl : sizeL ([] : List Tm) = 0 := by simp [sizeL]
   have g1 := ihr (adZ ns (K s)) h3 (by omega)
   have hn := name_nmZ4 (k := idxS (K s) ns + 1) (by omega)
   simp [errL, hn, g1]
  ·rw [if_neg hv]
   have hn2 := rkL_names K l ns
   have g1 := ihl ns h2 (by omega)
   have g3 := ihr (rkL K ns l).2 h3 (by omega)
   have hv2 : varB s = false := by simpa using hv
   simp [errL, hnm, hv2, g1, g3]
theorem rkT_err {K : ByteArray → ByteArray} {t : Tm} {ns : List ByteArray} (he : errL [t] = 0) (hz : ns.length + sizeL [t] ≤ 4400) : errL [(rkT K ns t).1] = 0 := by
 have h := rkL_err K [t] ns he hz
 rw [rkL_cons, rkL_nil] at h
 exact h
theorem nmP_err {p : Pr} (h1 : errL [p.l] = 0) (h2 : errL [p.r] = 0) (z1 : sizeL [p.l] ≤ 2000) (z2 : sizeL [p.r] ≤ 2000) : errL [(nmP p).l] = 0 ∧ errL [(nmP p).r] = 0 := by
 have h3 := rkT_names id p.l []
 simp only [List.length_nil] at h3
 unfold nmP rnP
 exact ⟨rkT_err h1 (by simp only [List.length_nil]; omega), rkT_err h2 (by omega)⟩
theorem fT_onE {ls : List Bd} (h : VarN ls) {t : Tm} (ht : errL [t] = 0) : fT ls t = onT ls t := by
 have h1 := fL_onR h [t] ht
 rw [onL_cons] at h1
 obtain ⟨s, l⟩ := t
 rw [fL] at h1
 exact (List.cons.inj h1).1
def Ok2 (p : Pr) : Prop := (errL [p.l] = 0 ∧ errL [p.r] = 0) ∧ sizeL [p.l] ≤ 2000 ∧ sizeL [p.r] ≤ 2000
theorem ovQ_ok {o n : Pr} {same : Bool} (ho : mayE o.l = 0 ∧ mayE o.r = 0) (hn : mayE n.l = 0 ∧ mayE n.r = 0) {d : Dn} (hd : d ∈ dnT [] [] (apR o n).1.l) (hs : ovS unU (apR o n) same d = false) (hf : ¬ ovF unU (apR o n) same d) : Ok2 (nmP (ovW unU (apR o n) d)) := by
 obtain ⟨⟨a1, a2⟩, b1, b2⟩ := apR_ok ho hn
 obtain ⟨p, hp, hat⟩ := dnT_at hd
 rw [List.nil_append] at hp
 have hmx := may_at a1 hat
 have hpe := pairs_two hmx b1
 have h8 : eUn (unU [⟨d.2, (apR o n).2.l⟩]) ≠ 8 := fun h => hf ⟨hs, Or.inl h⟩
 have h1 : ¬ 2000 < sizeL [(ovW unU (apR o n) d).l] := fun h => hf ⟨hs, Or.inr (Or.inl h)⟩
 have h2 : ¬ 2000 < sizeL [(ovW unU (apR o n) d).r] := fun h => hf ⟨hs, Or.inr (Or.inr h)⟩
 have h0 : (unU [⟨d.2, (apR o n).2.l⟩]).1 = 0 := by
  unfold ovS at hs
  rw [Bool.or_eq_false_iff, Bool.and_eq_false_iff] at hs
  have hu : eUn (unU [⟨d.2, (apR o n).2.l⟩]) = 0 := by
   rcases hs.2 with h | h
   ·simpa using h
   ·exact absurd (by simpa using h) h8
  unfold eUn at hu h8
  split at hu
  ·cases hu
  ·exact hu
 have ok := unU_ok _ hpe h0
 have hvn : VarN (unU [⟨d.2, (apR o n).2.l⟩]).2 := fun d hd => (ok.2.1 d hd).1
 have e1 : errL [(apR o n).1.r] = 0 := err_mayD a2
 have e2 : errL [putT (apR o n).2.r d.1 (apR o n).1.l] = 0 := by
  rw [hp]
  exact (err_putD (err_mayD b2) p _ _ (err_mayD a1) hat).1
 refine ⟨nmP_err ?_ ?_ (by omega) (by omega), ?_⟩
 ·unfold ovW
  simp only
  rw [fT_onE hvn e1]
  exact errL_onT2 ok e1
 ·unfold ovW
  simp only
  rw [fT_onE hvn e2]
  exact errL_onT2 ok e2
 ·have g1 := rkT_le id (ovW unU (apR o n) d).l []
  have g2 := rkT_le id (ovW unU (apR o n) d).r (rkT id [] (ovW unU (apR o n) d).l).2
  refine ⟨?_, ?_⟩
  ·unfold nmP rnP; simp only; omega
  ·unfold nmP rnP; simp only; omega
theorem crO_ok {q : Rn × Rn} (ho : mayE q.1.1.l = 0 ∧ mayE q.1.1.r = 0) (hn : mayE q.2.1.l = 0 ∧ mayE q.2.1.r = 0) (h : ¬ crB unU q) : ∀ p ∈ crO unU q, Ok2 p := by
 intro p hp
 obtain ⟨d, hd, he⟩ := List.mem_filterMap.1 hp
 unfold ovQ at he
 split at he
 ·cases he
 ·rename_i hs
  have e : nmP (ovW unU (apR q.1.1 q.2.1) d) = p := Option.some.inj he
  subst e
  exact ovQ_ok ho hn hd (by simpa using hs) fun hf => h ⟨d, hd, hf⟩
theorem crT_ok : ∀ (l : List (Rn × Rn)) (out : List Pr), (∀ q ∈ l, (mayE q.1.1.l = 0 ∧ mayE q.1.1.r = 0) ∧ mayE q.2.1.l = 0 ∧ mayE q.2.1.r = 0) → (∀ p ∈ out, Ok2 p) → ∀ p ∈ (crT unU l out).2, Ok2 p
 | [], out, hl, h => by rw [crT]; exact h
 | q :: r, out, hl, h => by
  rw [crT]
  split
  ·simp
  ·rename_i hb
   split
   ·simp
   ·have h2 := hl q (by simp)
    exact crT_ok r _ (fun x hx => hl x (by simp [hx])) (fun p hp => by
     rcases List.mem_append.1 hp with e | e
     ·exact h p e
     ·exact crO_ok h2.1 h2.2 hb p e)
theorem remZ_mem {α : Type} {Z : List α} {i j : Nat} {q : α × α} (h : q ∈ remZ Z i j) : q.1 ∈ Z ∧ q.2 ∈ Z := by
 unfold remZ at h
 rcases List.mem_append.1 h with h | h
 ·split at h
  ·rename_i o ho
   obtain ⟨n, hn, rfl⟩ := List.mem_map.1 h
   exact ⟨List.mem_of_getElem? ho, List.mem_of_mem_drop hn⟩
  ·simp at h
 ·obtain ⟨o, ho, h2⟩ := List.mem_flatMap.1 h
  obtain ⟨n, hn, rfl⟩ := List.mem_map.1 h2
  exact ⟨List.mem_of_mem_drop ho, hn⟩
theorem crR_ok {rs : List Pr} (hr : ∀ p ∈ rs, ruleE p = 0) : ∀ p ∈ (crR unU rs).2, Ok2 p := by
 refine crT_ok _ _ (fun q hq => ?_) (by simp)
 obtain ⟨h1, h2⟩ := remZ_mem hq
 obtain ⟨⟨p1, k1⟩, p2, k2⟩ := q
 have m1 := (List.mem_zipIdx h1)
 have m2 := (List.mem_zipIdx h2)
 obtain ⟨_, g1, e1⟩ := m1
 obtain ⟨_, g2, e2⟩ := m2
 rw [e1, e2]
 exact ⟨rule_may (hr _ (List.getElem_mem _)), rule_may (hr _ (List.getElem_mem _))⟩
theorem endP_err (rs : List Pr) (inner : Bool) : ∀ (m : Nat) (t : Tm), (endP rs inner m t).1 = 0 ∨ (endP rs inner m t).1 = 8 ∨ (endP rs inner m t).1 = 9
 | 0, t => by
  rw [endP]
  split
  ·exact Or.inl rfl
  ·exact Or.inr (Or.inr rfl)
 | m + 1, t => by
  rw [endP]
  split
  ·exact Or.inl rfl
  ·rename_i t' _
   split
   ·exact Or.inr (Or.inl rfl)
   ·have h := endP_err rs inner m t'
    split
    rename_i e x n he
    rw [he] at h
    simp only at h
    split
    ·exact Or.inl rfl
    ·exact h
theorem meetP_err (rs : List Pr) (m : Nat) (a b : Tm) : (meetP rs m a b).2 = 0 ∨ (meetP rs m a b).2 = 8 ∨ (meetP rs m a b).2 = 9 := by
 have h1 := endP_err rs true m a
 have h2 := endP_err rs true m b
 unfold meetP
 split
 ·exact h1
 ·split
  ·exact h2
  ·exact Or.inl rfl
theorem jnL_err (rs : List Pr) (m : Nat) : ∀ l : List Pr, (jnL rs m l).2 = 0 ∨ (jnL rs m l).2 = 8 ∨ (jnL rs m l).2 = 9
 | [] => Or.inl rfl
 | p :: r => by
  rw [jnL]
  split
  ·exact jnL_err rs m r
  ·exact meetP_err rs m p.l p.r
theorem rMeet_ok {rs : List Pr} (hr : rulesE rs = 0) {p : Pr} (hp : Ok2 p) {m : Nat} (hm : m ≤ 400) : rMeet rs p.l p.r m = (false, 3) ∨ rMeet rs p.l p.r m = meetP rs m p.l p.r := by
 unfold rMeet
 by_cases h : workE rs [p.l, p.r] m = 0
 ·rw [if_pos h]
  exact Or.inr (by simp)
 ·rw [if_neg h]
  refine Or.inl ?_
  have h2 : workE rs [p.l, p.r] m = 3 := by
   unfold workE allE at h ⊢
   rw [if_pos hr] at h ⊢
   have key : ∀ t : Tm, errL [t] = 0 → mayE t = 0 ∨ mayE t = 3 := fun t ht => by
    unfold mayE
    split
    ·exact Or.inr rfl
    ·exact Or.inl ht
   have k1 := key _ hp.1.1
   have k2 := key _ hp.1.2
   have k3 : firstE [p.l, p.r] = 0 ∨ firstE [p.l, p.r] = 3 := by
    simp only [firstE]
    rcases k1 with k1 | k1 <;> rcases k2 with k2 | k2 <;> simp [k1, k2]
   rcases k3 with k3 | k3
   ·rw [if_pos k3, if_neg (by omega)] at h
    exact absurd rfl h
   ·rw [if_neg (by rw [k3]; decide)]
    exact k3
  rw [h2]
end Go.Proofs.YtbnmlkaejdpigaaGreatDoor
