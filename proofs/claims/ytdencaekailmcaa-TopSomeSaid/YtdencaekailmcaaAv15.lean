/- Plain: what is told to be accepted is accepted, and no accepted term is smaller; least terms are small. -/
import Derived.Test.YtdencaekailmcaaAv14
namespace Go.Proofs.Ytdencaekailmcaa
open Go.RowKit
set_option linter.unusedSimpArgs false
set_option linter.unusedVariables false
set_option maxRecDepth 8000

/-- A term may end in a state. -/
def EndsAt (ms : List Mv) (n : Nat) (t : Tm) (s : Int) : Prop := bitAt (edgT ms n t.name (endsL ms n t.args)) s = true
theorem endsL_get (ms : List Mv) (n : Nat) (l : List Tm) (i : Nat) (h : i < l.length) (h2 : i < (endsL ms n l).length) : (endsL ms n l)[i] = edgT ms n l[i].name (endsL ms n l[i].args) := by
  have e := endsL_map ms n l
  simp only [e, List.getElem_map]
/-- By which move. -/
theorem ends_move {ms : List Mv} {n : Nat} {t : Tm} {s : Int} (hs : 0 ≤ s ∧ s < (n : Int)) (h : EndsAt ms n t s) : ∃ m ∈ ms, m.name = t.name ∧ m.frm.length = t.args.length ∧ m.to = s ∧ ∀ (i : Nat) (h1 : i < t.args.length) (h2 : i < m.frm.length), EndsAt ms n t.args[i] m.frm[i] := by
  obtain ⟨k, hk⟩ : ∃ k : Nat, s = (k : Int) := ⟨s.toNat, by omega⟩
  subst hk
  unfold EndsAt at h
  rw [bit_edg (by omega), endB_iff] at h
  obtain ⟨m, hm, h1, h2⟩ := h
  unfold mvB at h1
  simp only [Bool.and_eq_true, decide_eq_true_eq] at h1
  obtain ⟨⟨h3, h4⟩, h5⟩ := h1
  rw [endsL_len] at h4
  refine ⟨m, hm, h3, h4, h2, fun i g1 g2 => ?_⟩
  have h6 := goB_all.1 h5 i (by rw [endsL_len]; exact g1) g2
  rw [endsL_get ms n t.args i g1] at h6
  exact h6
theorem ends_by {ms : List Mv} {n : Nat} {m : Mv} (hm : m ∈ ms) (hto : 0 ≤ m.to ∧ m.to < (n : Int)) {l : List Tm} (hl : m.frm.length = l.length) (h : ∀ (i : Nat) (h1 : i < l.length) (h2 : i < m.frm.length), EndsAt ms n l[i] m.frm[i]) : EndsAt ms n ⟨m.name, l⟩ m.to := by
  obtain ⟨k, hk⟩ : ∃ k : Nat, m.to = (k : Int) := ⟨m.to.toNat, by omega⟩
  unfold EndsAt
  rw [hk, bit_edg (by omega), endB_iff]
  refine ⟨m, hm, ?_, hk⟩
  unfold mvB
  simp only [Bool.and_eq_true, decide_eq_true_eq]
  refine ⟨⟨trivial, by rw [endsL_len]; exact hl⟩, goB_all.2 fun i h1 h2 => ?_⟩
  rw [endsL_len] at h1
  rw [endsL_get ms n l i h1]
  exact h i h1 h2
theorem argO_all {st : Fs} : ∀ {f : List Int} {l : List Tm}, argO st f = some l → l.length = f.length ∧ ∀ (i : Nat) (h1 : i < l.length) (h2 : i < f.length), atF st f[i] = some l[i]
  | [], l, e => by simp [argO] at e; subst e; exact ⟨rfl, fun i h => by simp at h⟩
  | s :: r, l, e => by
    rw [argO] at e
    cases h1 : atF st s with
    | none => rw [h1] at e; simp at e
    | some t =>
      cases h2 : argO st r with
      | none => rw [h1, h2] at e; simp at e
      | some q =>
        rw [h1, h2] at e
        simp at e
        subst e
        obtain ⟨a, b⟩ := argO_all h2
        refine ⟨by simp [a], fun i g1 g2 => ?_⟩
        cases i with
        | zero => exact h1
        | succ i => exact b i (by simpa using g1) (by simpa using g2)
theorem argO_of {st : Fs} : ∀ {f : List Int} {l : List Tm}, l.length = f.length → (∀ (i : Nat) (h1 : i < l.length) (h2 : i < f.length), ∃ u, atF st f[i] = some u ∧ sizeL [u] ≤ sizeL [l[i]]) → ∃ us, argO st f = some us ∧ us.length = f.length ∧ sizeL us ≤ sizeL l
  | [], l, e, _ => by
    have : l = [] := List.length_eq_zero_iff.1 e
    subst this
    exact ⟨[], rfl, rfl, Nat.le_refl _⟩
  | s :: r, [], e, _ => by simp at e
  | s :: r, t :: q, e, h => by
    obtain ⟨u, hu, hz⟩ := h 0 (by simp) (by simp)
    obtain ⟨us, h1, h2, h3⟩ := argO_of (f := r) (l := q) (by simpa using e) (fun i g1 g2 => h (i + 1) (by simpa using g1) (by simpa using g2))
    simp only [List.getElem_cons_zero] at hu hz
    refine ⟨u :: us, by rw [argO, hu, h1], by simp [h2], ?_⟩
    have e1 := sizeL_append [u] us
    have e2 := sizeL_append [t] q
    simp only [List.singleton_append] at e1 e2
    omega
/-- All that stand there end there. -/
def SndF (ms : List Mv) (n : Nat) (st : Fs) : Prop := ∀ (s : Int) (t : Tm), atF st s = some t → 0 ≤ s → s < (n : Int) → EndsAt ms n t s
theorem step_snd {ms : List Mv} {n : Nat} {st : Fs} (hl : st.length = n) (h : SndF ms n st) {m : Mv} (hm : m ∈ ms) (ho : OkMv (n : Int) m) : SndF ms n (stepF st m) := by
  unfold stepF
  cases e : newM st m with
  | none => exact h
  | some t =>
    intro s u hu h0 h1
    simp only at hu
    rw [atF_set] at hu
    split at hu
    · rename_i hc
      cases hu
      have hb := newM_by e
      unfold byM at hb
      cases ha : argO st m.frm with
      | none => rw [ha] at hb; cases hb
      | some l =>
        rw [ha] at hb
        simp only at hb
        split at hb
        · cases hb
        · simp at hb
          subst hb
          obtain ⟨a1, a2⟩ := argO_all ha
          have hst : s = m.to := by have := ho.to; have := hc.1; omega
          subst hst
          exact ends_by hm ho.to a1.symm (fun i g1 g2 => h _ _ (a2 i g1 g2) (ho.frm _ (List.getElem_mem g2)).1 (ho.frm _ (List.getElem_mem g2)).2)
    · exact h s u hu h0 h1
theorem pass_snd {ms : List Mv} {n : Nat} : ∀ (r : List Mv) (st : Fs), st.length = n → SndF ms n st → (∀ m ∈ r, m ∈ ms ∧ OkMv (n : Int) m) → SndF ms n (passF st r)
  | [], st, _, h, _ => h
  | m :: r, st, hl, h, hm => pass_snd r (stepF st m) (by rw [stepF_len, hl]) (step_snd hl h (hm m (by simp)).1 (hm m (by simp)).2) (fun x hx => hm x (List.mem_cons_of_mem _ hx))
theorem fin_snd {ms : List Mv} {n : Nat} (hm : ∀ m ∈ ms, OkMv (n : Int) m) {st e : Fs} (hf : FinF ms st e) : st.length = n → SndF ms n st → SndF ms n e ∧ newsF e ms = false := by
  induction hf with
  | done h0 =>
    rename_i st
    intro hl hs
    rw [passF_none ms st h0]
    exact ⟨hs, h0⟩
  | more h0 _ ih =>
    intro hl hs
    exact ih (by rw [passF_len, hl]) (pass_snd ms _ hl hs (fun m h => ⟨h, hm m h⟩))
theorem news_none : ∀ (ms : List Mv) (st : Fs), newsF st ms = false → ∀ m ∈ ms, newM st m = none
  | [], st, _, m, hm => by simp at hm
  | x :: r, st, h, m, hm => by
    rw [newsF, Bool.or_eq_false_iff] at h
    have e : newM st x = none := by
      cases h4 : newM st x with
      | none => rfl
      | some t => rw [h4] at h; cases h.1
    have e2 : stepF st x = st := by unfold stepF; rw [e]
    rcases List.mem_cons.1 hm with rfl | hm
    · exact e
    · rw [e2] at h
      exact news_none r st h.2 m hm
theorem agT_size {t u : Tm} (h : agT t u = false) : sizeL [u] ≤ sizeL [t] := by
  unfold agT at h
  split at h
  · omega
  · have := of_decide_eq_false h; omega
/-- At the end a move tells nothing smaller. -/
theorem end_step {ms : List Mv} {n : Nat} {st : Fs} (hn : newsF st ms = false) {m : Mv} (hm : m ∈ ms) {us : List Tm} (ha : argO st m.frm = some us) (hz : 1 + sizeL us ≤ 2000) : ∃ u, atF st m.to = some u ∧ sizeL [u] ≤ 1 + sizeL us := by
  have e := news_none ms st hn m hm
  rw [newM_eq] at e
  have hb := byM_of ha
  rw [if_neg (by omega)] at hb
  rw [hb] at e
  cases h1 : atF st m.to with
  | none => rw [h1] at e; simp [ahO] at e
  | some u =>
    rw [h1] at e
    have h2 : agT ⟨m.name, us⟩ u = false := by
      cases h3 : agT ⟨m.name, us⟩ u with
      | false => rfl
      | true => simp [ahO, h3] at e
    have h3 := agT_size h2
    refine ⟨u, rfl, ?_⟩
    simp only [sizeL] at h3 ⊢
    omega
/-- Whatever ends there is no smaller than what stands there. -/
theorem end_min {ms : List Mv} {n : Nat} (hmv : ∀ m ∈ ms, OkMv (n : Int) m) {st : Fs} (hn : newsF st ms = false) (t : Tm) : ∀ s : Int, 0 ≤ s ∧ s < (n : Int) → sizeL [t] ≤ 2000 → EndsAt ms n t s → ∃ u, atF st s = some u ∧ sizeL [u] ≤ sizeL [t] := by
  induction t using Tm.ind with
  | h nm l ih =>
    intro s hs hz he
    obtain ⟨m, hm, h1, h2, h3, h4⟩ := ends_move hs he
    have hzl : sizeL [(⟨nm, l⟩ : Tm)] = 1 + sizeL l := by simp [sizeL]
    obtain ⟨us, a1, a2, a3⟩ := argO_of (st := st) (f := m.frm) (l := l) h2.symm (fun i g1 g2 => ih l[i] (List.getElem_mem g1) m.frm[i] ((hmv m hm).frm _ (List.getElem_mem g2)) (by
      have q1 := sizeL_take l i g1
      have q2 := sizeL_take_le l (i + 1)
      omega) (h4 i g1 g2))
    obtain ⟨u, b1, b2⟩ := end_step (n := n) hn hm a1 (by omega)
    rw [h3] at b1
    exact ⟨u, b1, by omega⟩
/-- How many states have a smaller term. -/
def cntF (st : Fs) (n z : Nat) : Nat := ((List.range n).filter fun (s : Nat) => match atF st (s : Int) with | none => false | some u => decide (sizeL [u] < z)).length
theorem filter_lt {l : List Nat} {p q : Nat → Bool} (h : ∀ x ∈ l, p x = true → q x = true) {a : Nat} (ha : a ∈ l) (h1 : p a = false) (h2 : q a = true) : (l.filter p).length < (l.filter q).length := by
  induction l with
  | nil => simp at ha
  | cons x r ih =>
    have hr : (r.filter p).length ≤ (r.filter q).length := by
      have key : ∀ r' : List Nat, (∀ x ∈ r', p x = true → q x = true) → (r'.filter p).length ≤ (r'.filter q).length := by
        intro r'
        induction r' with
        | nil => intro _; simp
        | cons y s ih2 =>
          intro hh
          have i2 := ih2 (fun z hz => hh z (List.mem_cons_of_mem _ hz))
          by_cases hp : p y = true
          · rw [List.filter_cons_of_pos hp, List.filter_cons_of_pos (hh y (by simp) hp)]; simp; exact i2
          · rw [List.filter_cons_of_neg hp]
            by_cases hq : q y = true
            · rw [List.filter_cons_of_pos hq]; simp; omega
            · rw [List.filter_cons_of_neg hq]; exact i2
      exact key r (fun z hz => h z (List.mem_cons_of_mem _ hz))
    by_cases e : a = x
    · subst e
      rw [List.filter_cons_of_neg (by rw [h1]; decide), List.filter_cons_of_pos h2]
      simp; omega
    · have har : a ∈ r := by
        rcases List.mem_cons.1 ha with h3 | h3
        · exact absurd h3 e
        · exact h3
      have i1 := ih (fun z hz => h z (List.mem_cons_of_mem _ hz)) har
      by_cases hp : p x = true
      · rw [List.filter_cons_of_pos hp, List.filter_cons_of_pos (h x (by simp) hp)]; simp; exact i1
      · rw [List.filter_cons_of_neg hp]
        by_cases hq : q x = true
        · rw [List.filter_cons_of_pos hq]; simp; omega
        · rw [List.filter_cons_of_neg hq]; exact i1
theorem cnt_lt {st : Fs} {n y z : Nat} (hyz : y ≤ z) {s : Int} (hs : 0 ≤ s ∧ s < (n : Int)) {u : Tm} (hu : atF st s = some u) (h1 : sizeL [u] = y) (h2 : y < z) : cntF st n y < cntF st n z := by
  unfold cntF
  refine filter_lt (fun x _ hp => ?_) (a := s.toNat) (List.mem_range.2 (by omega)) ?_ ?_
  · split at hp
    · cases hp
    · have := of_decide_eq_true hp
      rename_i v hv
      exact decide_eq_true (by omega)
  · have e : ((s.toNat : Nat) : Int) = s := by omega
    rw [e, hu]
    exact decide_eq_false (by omega)
  · have e : ((s.toNat : Nat) : Int) = s := by omega
    rw [e, hu]
    exact decide_eq_true (by omega)
theorem cnt_le (st : Fs) (n z : Nat) {s : Int} (hs : 0 ≤ s ∧ s < (n : Int)) {u : Tm} (hu : atF st s = some u) (h1 : sizeL [u] = z) : cntF st n z < n := by
  have h : cntF st n z < cntF st n (z + 1) := cnt_lt (Nat.le_succ _) hs hu h1 (Nat.lt_succ_self _)
  have h2 : cntF st n (z + 1) ≤ n := by
    unfold cntF
    have := List.length_filter_le (fun s : Nat => match atF st (s : Int) with | none => false | some u => decide (sizeL [u] < z + 1)) (List.range n)
    simpa using this
  omega
def bnd4 : Nat → Nat
  | 0 => 1
  | r + 1 => 1 + 4 * bnd4 r
theorem sum_bnd {b : Nat} : ∀ {l : List Tm}, (∀ x ∈ l, sizeL [x] ≤ b) → sizeL l ≤ l.length * b
  | [], _ => by simp [sizeL]
  | t :: r, h => by
    have e := sizeL_append [t] r
    simp only [List.singleton_append] at e
    have h1 := h t (by simp)
    have h2 := sum_bnd (l := r) (fun x hx => h x (List.mem_cons_of_mem _ hx))
    rw [e, List.length_cons, Nat.add_mul, Nat.one_mul]
    omega
/-- Least terms are small. -/
theorem least_small {ms : List Mv} {n : Nat} (hmv : ∀ m ∈ ms, OkMv (n : Int) m) {st : Fs} (hok : OkF st) (hn : newsF st ms = false) (hsn : SndF ms n st) : ∀ (r : Nat) (s : Int) (t : Tm), 0 ≤ s ∧ s < (n : Int) → atF st s = some t → cntF st n (sizeL [t]) ≤ r → sizeL [t] ≤ bnd4 r := by
  intro r
  induction r with
  | zero =>
    intro s t hs ht hc
    obtain ⟨m, hm, h1, h2, h3, h4⟩ := ends_move hs (hsn s t ht hs.1 hs.2)
    have hz : sizeL [t] = 1 + sizeL t.args := by obtain ⟨_, _⟩ := t; simp [sizeL]
    by_cases h0 : 0 < t.args.length
    · exfalso
      have hq : sizeL [t.args[0]] ≤ sizeL t.args := by
        have q1 := sizeL_take t.args 0 h0
        have q2 := sizeL_take_le t.args (0 + 1)
        omega
      have hs0 := (hmv m hm).frm m.frm[0] (List.getElem_mem (by omega))
      obtain ⟨u, b1, b2⟩ := end_min hmv hn t.args[0] m.frm[0] hs0 (by have := (hok s t ht).sz; omega) (h4 0 h0 (by omega))
      have := cnt_lt (st := st) (n := n) (y := sizeL [u]) (z := sizeL [t]) (by omega) hs0 b1 rfl (by omega)
      omega
    · have e : t.args = [] := List.length_eq_zero_iff.1 (by omega)
      rw [hz, e]; simp [sizeL, bnd4]
  | succ r ih =>
    intro s t hs ht hc
    obtain ⟨m, hm, h1, h2, h3, h4⟩ := ends_move hs (hsn s t ht hs.1 hs.2)
    have hz : sizeL [t] = 1 + sizeL t.args := by obtain ⟨_, _⟩ := t; simp [sizeL]
    have hz2 := (hok s t ht).sz
    have kid : ∀ (i : Nat) (g1 : i < t.args.length) (g2 : i < m.frm.length), ∃ u, atF st m.frm[i] = some u ∧ sizeL [u] ≤ sizeL [t.args[i]] := fun i g1 g2 => by
      have q1 := sizeL_take t.args i g1
      have q2 := sizeL_take_le t.args (i + 1)
      exact end_min hmv hn _ _ ((hmv m hm).frm _ (List.getElem_mem g2)) (by omega) (h4 i g1 g2)
    obtain ⟨us, a1, a2, a3⟩ := argO_of (st := st) (f := m.frm) (l := t.args) h2.symm kid
    obtain ⟨u, b1, b2⟩ := end_step (n := n) hn hm a1 (by omega)
    rw [h3, ht] at b1
    cases b1
    obtain ⟨c1, c2⟩ := argO_all a1
    have hu : ∀ x ∈ us, sizeL [x] ≤ bnd4 r := fun x hx => by
      obtain ⟨i, hi, rfl⟩ := List.getElem_of_mem hx
      have g2 : i < m.frm.length := by omega
      have g1 : i < t.args.length := by omega
      have hs0 := (hmv m hm).frm m.frm[i] (List.getElem_mem g2)
      obtain ⟨v, d1, d2⟩ := kid i g1 g2
      rw [c2 i hi g2] at d1
      cases d1
      have q1 := sizeL_take t.args i g1
      have q2 := sizeL_take_le t.args (i + 1)
      have hlt := cnt_lt (st := st) (n := n) (y := sizeL [us[i]]) (z := sizeL [t]) (by omega) hs0 (c2 i hi g2) rfl (by omega)
      exact ih m.frm[i] us[i] hs0 (c2 i hi g2) (by omega)
    have h5 := sum_bnd hu
    have h6 := (hmv m hm).len
    have h7 : us.length * bnd4 r ≤ 4 * bnd4 r := Nat.mul_le_mul_right _ (by omega)
    rw [bnd4]
    omega
theorem acc_iff {A : Au} {n : Nat} (hn : A.st = (n : Int)) {t : Tm} : accB A t = true ↔ ∃ s ∈ A.la, EndsAt A.mv n t s := by
  unfold accB lasB endT EndsAt
  rw [hn, Int.toNat_natCast, List.any_eq_true]
/-- All that TopSome asks. -/
theorem some_top {A : Au} (hA : OkAu 8 40 A) {n : Nat} (hn : A.st = (n : Int)) (h4 : n ≤ 4) {st : Fs} (hf : FinF A.mv (List.replicate n none) st) (hok : OkF st) :
    (bstF st (lastO A) = none → ∀ t, sizeL [t] ≤ 2000 → accB A t = false) ∧ ∀ x, bstF st (lastO A) = some x → (accE A x = 0 ∧ accB A x = true) ∧ ∀ t, sizeL [t] ≤ 2000 → accB A t = true → sizeL [x] ≤ sizeL [t] := by
  have hmv : ∀ m ∈ A.mv, OkMv (n : Int) m := fun m hm => by rw [← hn]; exact hA.mv m hm
  have hla : ∀ s ∈ A.la, 0 ≤ s ∧ s < (n : Int) := fun s hs => by rw [← hn]; exact hA.la s hs
  obtain ⟨hsn, hnw⟩ := fin_snd hmv hf (by simp) (fun s t h => by
    unfold atF at h
    rw [List.getElem?_replicate] at h
    split at h <;> simp at h)
  rw [bst_same hok (fun s => lastO_mem hA.la s)]
  constructor
  · intro hb t hz
    have h1 := ((bst_min (st := st) A.la none).1 hb).2
    cases ha : accB A t with
    | false => rfl
    | true =>
      obtain ⟨s, hs, he⟩ := (acc_iff hn).1 ha
      obtain ⟨u, hu, _⟩ := end_min hmv hnw t s (hla s hs) hz he
      rw [h1 s hs] at hu; cases hu
  · intro x hb
    have h1 := ((bst_min (st := st) A.la none).2 x hb).2
    rcases bst_in A.la none hb with h2 | ⟨s, hs, h2⟩
    · cases h2
    · have hsz : sizeL [x] ≤ 85 := by
        have h3 := cnt_le st n (sizeL [x]) (hla s hs) h2 rfl
        have h5 := least_small hmv hok hnw hsn 3 s x (hla s hs) h2 (by omega)
        have e : bnd4 3 = 85 := by decide
        omega
      have ho := hok s x h2
      refine ⟨⟨?_, (acc_iff hn).2 ⟨s, hs, hsn s x h2 (hla s hs).1 (hla s hs).2⟩⟩, fun t hz ha => ?_⟩
      · have hm0 : mayE x = 0 := by
          unfold mayE
          rw [if_neg (by omega)]
          exact ho.err
        unfold accE
        rw [if_pos (auE_zero.2 hA), if_pos hm0, if_neg (by rw [ho.opn]; decide)]
      · obtain ⟨s', hs', he⟩ := (acc_iff hn).1 ha
        obtain ⟨u, hu, hzu⟩ := end_min hmv hnw t s' (hla s' hs') hz he
        have := agT_size (h1 s' hs' u hu)
        omega
end Go.Proofs.Ytdencaekailmcaa
