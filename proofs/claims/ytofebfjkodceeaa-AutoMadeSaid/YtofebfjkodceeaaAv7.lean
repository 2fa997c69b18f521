import Derived.Test.YtofebfjkodceeaaZHAutoMadeOwn
import Derived.Test.YtofebfjkodceeaaZAutoMadeOwn
import Derived.Test.YtofebfjkodceeaaZBAutoMadeOwn
namespace Go.Proofs.Ytofebfjkodceeaa
open Go.RowKit
set_option linter.unusedSimpArgs false
set_option linter.unusedVariables false
set_option maxRecDepth 8000
def txB (t : Tm) : ByteArray := ⟨(txtL [t]).toArray⟩
def agT (t u : Tm) : Bool := if sizeL [t] = sizeL [u] then ltB (txB t) (txB u) else decide (sizeL [t] < sizeL [u])
abbrev Fs := List (Option Tm)
def atF (st : Fs) (s : Int) : Option Tm := (st[s.toNat]?).join
def argO (st : Fs) : List Int → Option (List Tm)
 | [] => some []
 | s :: r => match atF st s, argO st r with
  | some t, some l => some (t :: l)
  | _, _ => none
def byM (st : Fs) (m : Mv) : Option Tm := match argO st m.frm with
 | none => none
 | some l => if 2000 < 1 + sizeL l then none else some ⟨m.name, l⟩
def newM (st : Fs) (m : Mv) : Option Tm := match byM st m with
 | none => none
 | some t => match atF st m.to with
  | none => some t
  | some u => if agT t u = true then some t else none
def stepF (st : Fs) (m : Mv) : Fs := match newM st m with
 | none => st
 | some t => st.set m.to.toNat (some t)
def passF (st : Fs) (ms : List Mv) : Fs := ms.foldl stepF st
def newsF (st : Fs) : List Mv → Bool
 | [] => false
 | m :: r => (newM st m).isSome || newsF (stepF st m) r
inductive FinF (ms : List Mv) : Fs → Fs → Prop
 | done {st : Fs} : newsF st ms = false → FinF ms st (passF st ms)
 | more {st e : Fs} : newsF st ms = true → FinF ms (passF st ms) e → FinF ms st e
theorem FinF.det {ms : List Mv} {st a b : Fs} (h : FinF ms st a) (k : FinF ms st b) : a = b := by
 induction h with
 | done h0 =>
  cases k with
  | done _ => rfl
  | more h1 _ => rw [h0] at h1; cases h1
 | more h0 _ ih =>
  cases k with
  | done h1 => rw [h0] at h1; cases h1
  | more _ k2 => exact ih k2
theorem stepF_len (st : Fs) (m : Mv) : (stepF st m).length = st.length := by
 unfold stepF; split <;> simp
theorem passF_len : ∀ (ms : List Mv) (st : Fs), (passF st ms).length = st.length
 | [], st => rfl
 | m :: r, st => by
  show (passF (stepF st m) r).length = st.length
  rw [passF_len r, stepF_len]
theorem passF_snoc (st : Fs) (ms : List Mv) (m : Mv) : passF st (ms ++ [m]) = stepF (passF st ms) m := by simp [passF]
theorem newsF_snoc : ∀ (ms : List Mv) (st : Fs) (m : Mv), newsF st (ms ++ [m]) = (newsF st ms || (newM (passF st ms) m).isSome)
 | [], st, m => by simp [newsF, passF]
 | x :: r, st, m => by
  rw [List.cons_append, newsF, newsF, newsF_snoc r (stepF st x) m, Bool.or_assoc]
  rfl
theorem passF_take {st : Fs} {ms : List Mv} {k : Nat} (h : k < ms.length) : passF st (ms.take (k + 1)) = stepF (passF st (ms.take k)) ms[k] := by rw [List.take_succ_eq_append_getElem h, passF_snoc]
theorem newsF_take {st : Fs} {ms : List Mv} {k : Nat} (h : k < ms.length) : newsF st (ms.take (k + 1)) = (newsF st (ms.take k) || (newM (passF st (ms.take k)) ms[k]).isSome) := by rw [List.take_succ_eq_append_getElem h, newsF_snoc]
theorem argO_take {st : Fs} : ∀ {f : List Int} {k : Nat} (h : k < f.length), argO st (f.take (k + 1)) = match argO st (f.take k), atF st f[k] with
  | some l, some t => some (l ++ [t])
  | _, _ => none
 | [], k, h => by simp at h
 | s :: r, 0, h => by
  simp only [List.take_succ_cons, List.take_zero, argO, List.getElem_cons_zero]
  cases atF st s <;> rfl
 | s :: r, k + 1, h => by
  simp only [List.take_succ_cons, argO, List.getElem_cons_succ]
  rw [argO_take (k := k) (by simpa using h)]
  cases atF st s with
  | none => cases argO st (r.take k) <;> cases atF st (r[k]'(by simpa using h)) <;> rfl
  | some t => cases argO st (r.take k) <;> cases atF st (r[k]'(by simpa using h)) <;> rfl
theorem argO_none {st : Fs} : ∀ {f : List Int} {k : Nat} (h : k < f.length), atF st f[k] = none → argO st f = none
 | s :: r, 0, h, e => by simp only [List.getElem_cons_zero] at e; rw [argO, e]
 | s :: r, k + 1, h, e => by
  simp only [List.getElem_cons_succ] at e
  rw [argO, argO_none (k := k) (by simpa using h) e]
  cases atF st s <;> rfl
structure OkT (t : Tm) : Prop where
 err : errL [t] = 0
 sz : sizeL [t] ≤ 2000
 opn : opnB t = false
def OkF (st : Fs) : Prop := ∀ (s : Int) (t : Tm), atF st s = some t → OkT t
theorem argO_ok {st : Fs} (h : OkF st) : ∀ {f : List Int} {l : List Tm}, argO st f = some l → l.length = f.length ∧ errL l = 0 ∧ l.any opnB = false
 | [], l, e => by simp [argO] at e; subst e; simp [errL]
 | s :: r, l, e => by
  rw [argO] at e
  cases h1 : atF st s with
  | none => rw [h1] at e; simp at e
  | some t =>
   cases h2 : argO st r with
   | none => rw [h1, h2] at e; simp at e
   | some q =>
    rw [h1, h2] at e
    simp at e
    subst e
    obtain ⟨a, b, c⟩ := argO_ok h h2
    have ht := h s t h1
    refine ⟨by simp [a], ?_, by rw [List.any_cons, ht.opn, c]; rfl⟩
    rw [errL_cons, if_pos ht.err]; exact b
theorem byM_ok {st : Fs} (h : OkF st) {n : Int} {m : Mv} (hm : OkMv n m) {t : Tm} (e : byM st m = some t) : OkT t := by
 unfold byM at e
 cases h1 : argO st m.frm with
 | none => rw [h1] at e; cases e
 | some l =>
  rw [h1] at e
  simp only at e
  split at e
  ·cases e
  ·simp at e
   subst e
   obtain ⟨a, b, c⟩ := argO_ok h h1
   have hn := hm.nm
   simp only [Bool.and_eq_true, Bool.not_eq_true'] at hn
   refine ⟨by simp [errL, hn.1, hn.2, b], by simp only [sizeL]; omega, ?_⟩
   rw [opnB_eq]
   simp only [hn.2, c, Bool.or_self]
theorem atF_set {st : Fs} {i : Nat} {x : Option Tm} {s : Int} : atF (st.set i x) s = if i = s.toNat ∧ i < st.length then x else atF st s := by
 unfold atF
 rw [List.getElem?_set]
 by_cases h : i = s.toNat
 ·rw [if_pos h]
  by_cases h2 : i < st.length
  ·rw [if_pos h2, if_pos ⟨h, h2⟩]; rfl
  ·rw [if_neg h2, if_neg (fun q => h2 q.2), List.getElem?_eq_none (by omega)]
 ·rw [if_neg h, if_neg (fun q => h q.1)]
theorem newM_by {st : Fs} {m : Mv} {t : Tm} (h : newM st m = some t) : byM st m = some t := by
 unfold newM at h
 cases h1 : byM st m with
 | none => rw [h1] at h; cases h
 | some u =>
  rw [h1] at h
  simp only at h
  split at h
  ·exact h
  ·split at h
   ·exact h
   ·cases h
theorem stepF_ok {st : Fs} (h : OkF st) {n : Int} {m : Mv} (hm : OkMv n m) : OkF (stepF st m) := by
 unfold stepF
 split
 ·exact h
 ·rename_i t e
  intro s u hu
  rw [atF_set] at hu
  split at hu
  ·cases hu; exact byM_ok h hm (newM_by e)
  ·exact h s u hu
theorem passF_ok {n : Int} : ∀ (ms : List Mv) (st : Fs), OkF st → (∀ m ∈ ms, OkMv n m) → OkF (passF st ms)
 | [], st, h, _ => h
 | m :: r, st, h, hm => passF_ok r (stepF st m) (stepF_ok h (hm m (by simp))) (fun x hx => hm x (List.mem_cons_of_mem _ hx))
def numL : Nat → List UInt8 → Nat
 | 0, _ => 0
 | _ + 1, [] => 0
 | L + 1, x :: r => (x.toNat + 1) * 257 ^ L + numL L r
theorem numL_lt : ∀ (L : Nat) (l : List UInt8), numL L l < 257 ^ L
 | 0, _ => by simp [numL]
 | L + 1, [] => by rw [numL]; exact Nat.pow_pos (by decide)
 | L + 1, x :: r => by
  have h1 := numL_lt L r
  have h2 : x.toNat < 256 := x.toNat_lt
  rw [numL, Nat.pow_succ, Nat.mul_comm (257 ^ L) 257]
  have : (x.toNat + 1) * 257 ^ L ≤ 256 * 257 ^ L := Nat.mul_le_mul_right _ (by omega)
  omega
theorem numL_mono : ∀ (L : Nat) (a b : List UInt8), b.length ≤ L → Op.bytesLess a b = true → numL L a < numL L b
 | 0, a, b, hb, h => by
  have : b = [] := List.length_eq_zero_iff.1 (by omega)
  subst this
  cases a <;> simp [Op.bytesLess] at h
 | L + 1, [], [], hb, h => by simp [Op.bytesLess] at h
 | L + 1, [], y :: s, hb, h => by
  rw [numL, numL]
  have : 0 < 257 ^ L := Nat.pow_pos (by decide)
  have : 0 < (y.toNat + 1) * 257 ^ L := Nat.mul_pos (by omega) this
  omega
 | L + 1, x :: r, [], hb, h => by simp [Op.bytesLess] at h
 | L + 1, x :: r, y :: s, hb, h => by
  rw [numL, numL]
  simp only [Op.bytesLess, Bool.or_eq_true, decide_eq_true_eq, Bool.and_eq_true, beq_iff_eq] at h
  rcases h with h | ⟨h1, h2⟩
  ·have h3 : x.toNat < y.toNat := h
   have h4 := numL_lt L r
   have h5 : (x.toNat + 1 + 1) * 257 ^ L ≤ (y.toNat + 1) * 257 ^ L := Nat.mul_le_mul_right _ (by omega)
   rw [Nat.add_mul, Nat.one_mul] at h5
   omega
  ·subst h1
   have := numL_mono L r s (by simpa using hb) h2
   omega
def rkT (L : Nat) (t : Tm) : Nat := sizeL [t] * 257 ^ L + numL L (txtL [t])
theorem rkT_mono {L : Nat} {t u : Tm} (hl : (txtL [u]).length ≤ L) (h : agT t u = true) : rkT L t < rkT L u := by
 unfold agT at h
 unfold rkT
 split at h
 ·rename_i e
  rw [e]
  have h2 : Op.bytesLess (txtL [t]) (txtL [u]) = true := by simpa [ltB, txB] using h
  have := numL_mono L _ _ hl h2
  omega
 ·have h1 : sizeL [t] < sizeL [u] := by simpa using h
  have h2 := numL_lt L (txtL [t])
  have h3 : (sizeL [t] + 1) * 257 ^ L ≤ sizeL [u] * 257 ^ L := Nat.mul_le_mul_right _ (by omega)
  rw [Nat.add_mul, Nat.one_mul] at h3
  omega
def rkO (L : Nat) : Option Tm → Nat
 | none => 2001 * 257 ^ L
 | some t => rkT L t
def rkF (L : Nat) (st : Fs) : Nat := (st.map (rkO L)).sum
theorem sum_set {l : List Nat} : ∀ {i x : Nat} (h : i < l.length), (l.set i x).sum + l[i] = l.sum + x := by
 induction l with
 | nil => intro i x h; simp at h
 | cons a r ih =>
  intro i x h
  cases i with
  | zero => simp; omega
  | succ i =>
   have := ih (i := i) (x := x) (by simpa using h)
   simp only [List.set_cons_succ, List.sum_cons, List.getElem_cons_succ]
   omega
theorem txt_len2 {t : Tm} (h : errL [t] = 0) (hz : sizeL [t] ≤ 2000) : (txtL [t]).length ≤ 100000 := by
 have := txt_len [t] h
 omega
theorem stepF_rank {st : Fs} (hs : OkF st) {n : Nat} (hn : st.length = n) {m : Mv} (hm : OkMv (n : Int) m) (h : (newM st m).isSome = true) : rkF 100000 (stepF st m) < rkF 100000 st := by
 generalize hL : (100000 : Nat) = L
 unfold stepF
 cases e : newM st m with
 | none => rw [e] at h; cases h
 | some t =>
  simp only
  have hby := newM_by e
  have hok := byM_ok hs hm hby
  have hto := hm.to
  have hlt : m.to.toNat < st.length := by omega
  have h1 := sum_set (l := st.map (rkO L)) (i := m.to.toNat) (x := rkO L (some t)) (by simpa using hlt)
  unfold rkF
  rw [List.map_set]
  simp only [List.getElem_map] at h1
  have hat : atF st m.to = st[m.to.toNat] := by unfold atF; rw [List.getElem?_eq_getElem hlt]; rfl
  have h2 : rkO L (some t) < rkO L st[m.to.toNat] := by
   unfold newM at e
   rw [hby] at e
   simp only at e
   rw [hat] at e
   cases h3 : st[m.to.toNat] with
   | none =>
    have h4 := numL_lt L (txtL [t])
    have h5 : (sizeL [t] + 1) * 257 ^ L ≤ 2001 * 257 ^ L := Nat.mul_le_mul_right _ (by have := hok.sz; omega)
    rw [Nat.add_mul, Nat.one_mul] at h5
    show rkT L t < 2001 * 257 ^ L
    unfold rkT
    omega
   | some u =>
    rw [h3] at e
    simp only at e
    split at e
    ·have hu := hs m.to u (by rw [hat, h3])
     exact rkT_mono (by rw [← hL]; exact txt_len2 hu.err hu.sz) (by assumption)
    ·cases e
  omega
theorem passF_rank {n : Nat} : ∀ (ms : List Mv) (st : Fs), OkF st → st.length = n → (∀ m ∈ ms, OkMv (n : Int) m) → rkF 100000 (passF st ms) ≤ rkF 100000 st ∧ (newsF st ms = true → rkF 100000 (passF st ms) < rkF 100000 st)
 | [], st, _, _, _ => ⟨Nat.le_refl _, fun h => by simp [newsF] at h⟩
 | m :: r, st, hs, hl, hm => by
  have hm0 := hm m (by simp)
  obtain ⟨h1, h2⟩ := passF_rank r (stepF st m) (stepF_ok hs hm0) (by rw [stepF_len, hl]) (fun x hx => hm x (List.mem_cons_of_mem _ hx))
  have e : passF st (m :: r) = passF (stepF st m) r := rfl
  rw [e, newsF]
  cases hn : (newM st m).isSome with
  | true =>
   have h3 := stepF_rank hs hl hm0 hn
   exact ⟨by omega, fun _ => by omega⟩
  | false =>
   have e2 : stepF st m = st := by
    unfold stepF
    cases h4 : newM st m with
    | none => rfl
    | some t => rw [h4] at hn; cases hn
   rw [e2] at h1 h2 ⊢
   exact ⟨h1, fun h => h2 (by simpa using h)⟩
end Go.Proofs.Ytofebfjkodceeaa
