import Derived.Test.YtdebiiodhkcnkaaGreatNn2
namespace Go.Proofs.YtdebiiodhkcnkaaGreat
open Go.RowKit
set_option linter.unusedSimpArgs false
set_option linter.unusedVariables false
def NI (P : List Tm) (s : List Bd) (l : List Pr) : Prop := (∀ e ∈ l, (∃ v ∈ P, onT s e.l = onT s v) ∧ ∃ v ∈ P, onT s e.r = onT s v) ∧ NClo P s
def NP (P : List Tm) : Prop := ∀ v ∈ P, errL [v] = 0 ∧ ∀ k ∈ v.args, k ∈ P
theorem np_pre {l : List Tm} (he : errL l = 0) : NP (preL l) := fun v hv => ⟨pre_err _ _ he hv, fun k hk => pre_pre l v k hv (by
 obtain ⟨n, a⟩ := v
 rw [preL_node]
 have : ∀ (a : List Tm), k ∈ a → k ∈ preL a := by
  intro a hk
  induction a with
  | nil => cases hk
  | cons x a ih =>
   obtain ⟨m, b⟩ := x
   rw [preL_node]
   rcases List.mem_cons.1 hk with rfl | hk
   ·simp
   ·simp [ih hk]
 simp [this a hk])⟩
theorem onT_idem {s : List Bd} (ok : OkS s) {k : Tm} (he : errL [k] = 0) : onT s (onT s k) = onT s k := onT_id (ok.goneT he)
theorem onL_mem {s : List Bd} {k : Tm} : ∀ {l : List Tm}, k ∈ onL s l → ∃ k' ∈ l, k = onT s k'
 | [], h => by simp [onL] at h
 | x :: l, h => by
  rw [onL_cons] at h
  rcases List.mem_cons.1 h with rfl | h
  ·exact ⟨x, by simp, rfl⟩
  ·obtain ⟨k', h1, h2⟩ := onL_mem h
   exact ⟨k', by simp [h1], h2⟩
theorem nflat_err : ∀ {l : List Pr}, errL (flatP l) = 0 → ∀ e ∈ l, errL [e.l] = 0 ∧ errL [e.r] = 0
 | [], _, e, h => by cases h
 | p :: l, he, e, h => by
  rw [flatP] at he
  have h1 := err_two.1 he
  have h2 := err_two.1 h1.2
  rcases List.mem_cons.1 h with rfl | h
  ·exact ⟨h1.1, h2.1⟩
  ·exact nflat_err h2.2 e h
theorem ni_settle {P : List Tm} {s : List Bd} (hP : NP P) (ok : OkS s) (hc : NClo P s) {v : Tm} (hv : v ∈ P) : ∃ u ∈ P, onT s u = onT s v ∧ ∀ e ∈ s, e.nm ≠ u.name := by
 by_cases h : ∃ e ∈ s, e.nm = v.name
 ·obtain ⟨e, he, hn⟩ := h
  obtain ⟨u, hu, h1, h2⟩ := hc e he
  refine ⟨u, hu, ?_, h2⟩
  rw [← h1, var_leaf (hP v hv).1 (by rw [← hn]; exact ok.vars e he), ← hn, onT_some (forT_of ok.1 he)]
 ·exact ⟨v, hv, rfl, fun e he hn => h ⟨e, he, hn⟩⟩
theorem unbound_on {s : List Bd} {u : Tm} (he : errL [u] = 0) (hv : varB u.name = true) (h : ∀ e ∈ s, e.nm ≠ u.name) : onT s u = u := by
 rw [var_leaf he hv]
 rw [var_leaf he hv] at h
 refine onT_id fun e he2 ho => ?_
 rcases occL_node.1 ho with h1 | h1 | h1
 ·exact h e he2 h1.symm
 ·obtain ⟨k, hk, _⟩ := h1; simp [preL] at hk
 ·obtain ⟨k, hk, _⟩ := h1; simp [preL] at hk
theorem ni_bind {P : List Tm} {s : List Bd} {l : List Pr} (hP : NP P) (ok : OkS s) (hl : ∀ e ∈ l, errL [e.l] = 0 ∧ errL [e.r] = 0) (n : NI P s l) {x : ByteArray} {t : Tm} (m : MayAdd s x t) {v : Tm} (hv : v ∈ P) (ht : t = onT s v) : NI P (addS s x t) l := by
 obtain ⟨m1, m2, m3, m4, m5⟩ := m
 have ok' := ok.add m1 m2 m3 m4 m5
 have step : ∀ {k : Tm}, errL [k] = 0 → onT (addS s x t) k = onT [⟨x, t⟩] (onT s k) := fun {k} he => by
  have h := add_on ok m1 m2 ok' [k] he
  rw [onL_cons, onL_cons, onL_cons] at h
  simpa [onL] using h
 have carry : ∀ {a b : Tm}, errL [a] = 0 → errL [b] = 0 → onT s a = onT s b → onT (addS s x t) a = onT (addS s x t) b := fun ha hb h => by rw [step ha, step hb, h]
 have hm : ∀ d, d ∈ addS s x t ↔ d ∈ s.map (putB x t) ++ [⟨x, t⟩] := fun d => (srtB_perm _).mem_iff
 have hnm : ∀ {y : ByteArray}, (∀ e ∈ s, e.nm ≠ y) → x ≠ y → ∀ e ∈ addS s x t, e.nm ≠ y := fun h1 h2 e he => by
  rcases List.mem_append.1 ((hm e).1 he) with he | he
  ·obtain ⟨d, hd, rfl⟩ := List.mem_map.1 he
   exact h1 d hd
  ·have e2 : e = ⟨x, t⟩ := by simpa using he
   subst e2
   exact h2
 obtain ⟨n1, n2⟩ := n
 obtain ⟨u, hu, e1, e2⟩ := ni_settle hP ok n2 hv
 have eu := (hP u hu).1
 have hxu : x ≠ u.name := fun h => by
  have h3 := unbound_on eu (by rw [← h]; exact m1) e2
  rw [e1, ← ht] at h3
  refine m5 ?_
  rw [h3, h]
  exact occ_self u
 have ht' : t = onT (addS s x t) u := by
  rw [step eu, e1, ← ht]
  refine (onT_id fun e he ho => m5 ?_).symm
  have e3 : e = ⟨x, t⟩ := by simpa using he
  subst e3
  exact ho
 refine ⟨fun e he => ?_, fun d hd => ?_⟩
 ·obtain ⟨⟨a, ha, h1⟩, b, hb, h2⟩ := n1 e he
  exact ⟨⟨a, ha, carry (hl e he).1 (hP a ha).1 h1⟩, b, hb, carry (hl e he).2 (hP b hb).1 h2⟩
 ·rcases List.mem_append.1 ((hm d).1 hd) with hd1 | hd1
  ·obtain ⟨d0, h0, rfl⟩ := List.mem_map.1 hd1
   obtain ⟨w, hw, f1, f2⟩ := n2 d0 h0
   by_cases hxw : x = w.name
   ·refine ⟨u, hu, ?_, hnm e2 hxu⟩
    have ew := (hP w hw).1
    have h3 := unbound_on ew (by rw [← hxw]; exact m1) f2
    rw [← ht']
    simp only [putB]
    rw [f1, h3, var_leaf ew (by rw [← hxw]; exact m1), ← hxw]
    exact onT_some (by simp [forT])
   ·refine ⟨w, hw, ?_, hnm f2 hxw⟩
    rw [step (hP w hw).1, ← f1]
    rfl
  ·have e3 : d = ⟨x, t⟩ := by simpa using hd1
   subst e3
   exact ⟨u, hu, ht', hnm e2 hxu⟩
theorem ni_below {P : List Tm} {s : List Bd} (hP : NP P) (ok : OkS s) (hc : NClo P s) {a v : Tm} (hv : v ∈ P) (ha : a = onT s v) (hs : varB a.name = false) : ∀ k ∈ a.args, ∃ w ∈ P, onT s k = onT s w := by
 intro k hk
 obtain ⟨u, hu, e1, e2⟩ := ni_settle hP ok hc hv
 obtain ⟨eu, bu⟩ := hP u hu
 have hsu : varB u.name = false := by
  cases h : varB u.name with
  | false => rfl
  | true =>
   have h3 := unbound_on eu h e2
   rw [ha, ← e1, h3, h] at hs
   cases hs
 have hau : a.args = onL s u.args := by
  rw [ha, ← e1]
  obtain ⟨n, b⟩ := u
  rw [onT_sym2 ok.vars hsu]
 rw [hau] at hk
 obtain ⟨w, hw, rfl⟩ := onL_mem hk
 exact ⟨w, bu w hw, onT_idem ok (hP w (bu w hw)).1⟩
theorem ni_step {P : List Tm} (hP : NP P) {V : List ByteArray} {h : List (ByteArray × Tm)} {p : Pr} {l : List Pr} (u : UI V h (p :: l)) (n : NI P (sAt h) (p :: l)) (hs : ∀ v ∈ P, sizeL [onT (sAt h) v] ≤ 2000) :
  (∀ e s', uPair false (sAt h) l (onT (sAt h) p.l) (onT (sAt h) p.r) = .stop e s' → e ≠ 8) ∧ ∀ s' l', uPair false (sAt h) l (onT (sAt h) p.l) (onT (sAt h) p.r) = .go s' l' → NI P s' l' := by
 have ok := u.good.all
 have hl := nflat_err u.drop.err
 obtain ⟨n1, n2⟩ := n
 have nl : NI P (sAt h) l := ⟨fun e he => n1 e (by simp [he]), n2⟩
 obtain ⟨⟨a, ha, ea⟩, b, hb, eb⟩ := n1 p (by simp)
 have sa := hs a ha
 have sb := hs b hb
 rw [← ea] at sa
 rw [← eb] at sb
 have hbv := fun x y => u.bindV (x := x) (t := y)
 generalize onT (sAt h) p.l = A at *
 generalize onT (sAt h) p.r = B at *
 have hbind : ∀ (x : ByteArray) (y w : Tm), varB x = true → ((x = A.name ∧ y = B) ∨ (x = B.name ∧ y = A)) → w ∈ P → y = onT (sAt h) w → (∀ e s', uBind false (sAt h) l x y = .stop e s' → e ≠ 8) ∧ ∀ s' l', uBind false (sAt h) l x y = .go s' l' → NI P s' l' := fun x y w hx hor hw hy => by
  unfold uBind
  by_cases ho : inB x (varsP [] (preL [y])) = true
  ·rw [if_pos ho]
   exact ⟨fun e s' hh => (by cases hh; decide), fun s' l' hh => (by cases hh)⟩
  ·rw [if_neg ho, if_neg (by simp)]
   refine ⟨fun e s' hh => (by cases hh), fun s' l' hh => ?_⟩
   cases hh
   exact ni_bind hP ok hl nl (hbv x y hx hor ho).1 hw hy
 unfold uPair
 rw [if_neg (by omega)]
 by_cases hva : varB A.name = true
 ·rw [if_pos hva]
  by_cases hn : A.name = B.name
  ·rw [if_pos hn]
   exact ⟨fun e s' hh => (by cases hh), fun s' l' hh => (by cases hh; exact nl)⟩
  ·rw [if_neg hn]
   exact hbind _ _ b hva (Or.inl ⟨rfl, rfl⟩) hb eb
 rw [if_neg hva]
 by_cases hvb : varB B.name = true
 ·rw [if_pos hvb]
  exact hbind _ _ a hvb (Or.inr ⟨rfl, rfl⟩) ha ea
 rw [if_neg hvb]
 by_cases hnl : A.name = B.name ∧ A.args.length = B.args.length
 ·rw [if_pos hnl]
  refine ⟨fun e s' hh => (by cases hh), fun s' l' hh => ?_⟩
  cases hh
  refine ⟨fun e he => ?_, n2⟩
  rcases List.mem_append.1 he with he | he
  ·obtain ⟨z1, z2⟩ := zip_mem he
   exact ⟨ni_below hP ok n2 ha ea (by simpa using hva) _ z1, ni_below hP ok n2 hb eb (by simpa using hvb) _ z2⟩
  ·exact nl.1 e he
 ·rw [if_neg hnl]
  exact ⟨fun e s' hh => (by cases hh; decide), fun s' l' hh => (by cases hh)⟩
theorem sAt_length (h : List (ByteArray × Tm)) : (sAt h).length = h.length := by
 have : ∀ (h : List (ByteArray × Tm)) (s : List Bd), (h.foldl (fun s p => addS s p.1 p.2) s).length = s.length + h.length := by
  intro h
  induction h with
  | nil => intro s; simp
  | cons p h ih =>
   intro s
   rw [List.foldl_cons, ih]
   have : (addS s p.1 p.2).length = s.length + 1 := by
    unfold addS
    rw [(srtB_perm _).length_eq]
    simp
   rw [this]
   simp only [List.length_cons]
   omega
 have h1 := this h []
 simpa [sAt] using h1
theorem run_small {p q : Tm} (h2 : Ar2 [p, q]) (he : errL [p, q] = 0) (hp : sizeL [p] ≤ 17) (hq : sizeL [q] ≤ 17) {V : List ByteArray} (hV : V.length ≤ 3) : ∀ (n : Nat) (h : List (ByteArray × Tm)) (l : List Pr) (R : Int × List Bd), UI V h l → NI (preL [p, q]) (sAt h) l → uRun false n (sAt h) l = some R → R.1 ≠ 8 ∧ grtB R.2 = false
 | 0, h, l, R, u, ni, hr => by cases hr
 | n + 1, h, l, R, u, ni, hr => by
  have ok := u.good.all
  have hlen : (sAt h).length ≤ 3 := by rw [sAt_length]; have := u.hlen; omega
  have sm := clo_small h2 he hp hq ok hlen ni.2
  have hg : grtB (sAt h) = false := by
   unfold grtB
   rw [List.any_eq_false]
   intro d hd hc
   have hc : 2000 < sizeL [d.t] := of_decide_eq_true hc
   obtain ⟨w, hw, e1, _⟩ := ni.2 d hd
   have := sm w hw
   rw [← e1] at this
   omega
  cases l with
  | nil =>
   simp [uRun, uNext] at hr
   subst hr
   exact ⟨(by decide : (0 : Int) ≠ 8), hg⟩
  | cons e l =>
   rw [uRun, uNext_cons] at hr
   have st := ni_step (np_pre he) u ni sm
   cases hx : uPair false (sAt h) l (onT (sAt h) e.l) (onT (sAt h) e.r) with
   | stop c s' =>
    rw [hx] at hr
    have e2 : s' = sAt h := uNext_stop (lim := false) (l := e :: l) (e := c) (by rw [uNext_cons]; exact hx)
    simp at hr
    subst hr
    exact ⟨st.1 c s' hx, by rw [e2]; exact hg⟩
   | go s' l' =>
    rw [hx] at hr
    obtain ⟨h', rfl, u', _⟩ := (step_agr (t := []) (by simp) u).2 s' l' hx
    exact run_small h2 he hp hq hV n h' l' R u' (st.2 _ _ hx) hr
end Go.Proofs.YtdebiiodhkcnkaaGreat
