import Derived.Test.YtbnmlkaejdpigaaGreatDoorK1
namespace Go.Proofs.YtbnmlkaejdpigaaGreatDoor
open Go.RowKit
set_option linter.unusedSimpArgs false
set_option linter.unusedVariables false
def EqP (s : List Bd) (l k : List Pr) : Prop := l.map (fun p => (onT s p.l, onT s p.r)) = k.map (fun p => (onT s p.l, onT s p.r))
theorem EqP.later {s s' : List Bd} (ha : Abs s s') : ∀ {l k : List Pr}, errL (flatP l) = 0 → errL (flatP k) = 0 → EqP s l k → EqP s' l k
 | [], [], _, _, _ => rfl
 | [], _ :: _, _, _, h => by simp [EqP] at h
 | _ :: _, [], _, _, h => by simp [EqP] at h
 | p :: l, q :: k, hl, hk, h => by
  unfold EqP at h
  rw [List.map_cons, List.map_cons] at h
  injection h with h1 h2
  injection h1 with h3 h4
  obtain ⟨e1, e2⟩ := err_two.1 hl
  obtain ⟨e2, e3⟩ := err_two.1 e2
  obtain ⟨f1, f2⟩ := err_two.1 hk
  obtain ⟨f2, f3⟩ := err_two.1 f2
  have h5 : EqP s' l k := EqP.later ha e3 f3 h2
  unfold EqP
  rw [List.map_cons, List.map_cons, h5, ← ha.T e1, ← ha.T e2, ← ha.T f1, ← ha.T f2, h3, h4]
theorem FR.congr {s sf : List Bd} {l : List Pr} {e : Int} (h : FR s l e sf) : ∀ {k : List Pr}, OkS s → errL (flatP l) = 0 → errL (flatP k) = 0 → EqP s l k → FR s k e sf := by
 induction h with
 | done s =>
  intro k _ _ _ hk
  cases k with
  | nil => exact FR.done s
  | cons q k => simp [EqP] at hk
 | @step s s' sf p l' rest e h1 h2 ih =>
  intro k hs he hk h
  cases k with
  | nil => simp [EqP] at h
  | cons q k =>
   unfold EqP at h
   rw [List.map_cons, List.map_cons] at h
   injection h with h3 h4
   injection h3 with h5 h6
   obtain ⟨e1, e2⟩ := err_two.1 he
   obtain ⟨e2, e3⟩ := err_two.1 e2
   obtain ⟨f1, f2⟩ := err_two.1 hk
   obtain ⟨f2, f3⟩ := err_two.1 f2
   obtain ⟨g1, g2, g3, _⟩ := fPair_go hs (errL_onT2 hs e1) (errL_onT2 hs e2) (hs.goneT e1) (hs.goneT e2) h1
   refine FR.step (by rw [← h5, ← h6]; exact h1) (ih g1 (by rw [flatP_append]; exact err_append.2 ⟨g3, e3⟩) (by rw [flatP_append]; exact err_append.2 ⟨g3, f3⟩) ?_)
   have h7 : EqP s' rest k := EqP.later g2 e3 f3 h4
   unfold EqP at h7 ⊢
   rw [List.map_append, List.map_append, h7]
 | @stop s p rest e h1 =>
  intro k hs he hk h
  cases k with
  | nil => simp [EqP] at h
  | cons q k =>
   unfold EqP at h
   rw [List.map_cons, List.map_cons] at h
   injection h with h3 h4
   injection h3 with h5 h6
   exact FR.stop (by rw [← h5, ← h6]; exact h1)
structure Zp where
 nm : ByteArray
 t : Tm
 b : Nat
 o : Nat
def Clo (Z : List Zp) (s : List Bd) : Prop := OkS s ∧ (∀ z ∈ Z, varB z.nm = true ∧ errL [z.t] = 0 ∧ onT s ⟨z.nm, []⟩ = onT s z.t) ∧ (∀ d ∈ s, ∃ z ∈ Z, z.nm = d.nm) ∧ ∀ z ∈ Z, ∃ d ∈ s, d.nm = z.nm
theorem clo_nil : Clo [] [] := ⟨okS_nil, by simp, by simp, by simp⟩
theorem Clo.unbound {Z : List Zp} {s : List Bd} (h : Clo Z s) {n : ByteArray} (hn : ∀ z ∈ Z, z.nm ≠ n) : ∀ d ∈ s, d.nm ≠ n := fun d hd e => by
 obtain ⟨z, hz, e2⟩ := h.2.2.1 d hd
 exact hn z hz (e2.trans e)
theorem Clo.fresh {Z : List Zp} {s : List Bd} (h : Clo Z s) {n : ByteArray} (hn : ∀ d ∈ s, d.nm ≠ n) : ∀ z ∈ Z, z.nm ≠ n := fun z hz e => by
 obtain ⟨d, hd, e2⟩ := h.2.2.2 z hz
 exact hn d hd (e2.trans e)
theorem Clo.errs {Z : List Zp} {s : List Bd} (h : Clo Z s) : ∀ z ∈ Z, errL [z.t] = 0 := fun z hz => (h.2.1 z hz).2.1
theorem Clo.stands {Z : List Zp} {s : List Bd} (h : Clo Z s) {t : Tm} (he : errL [t] = 0) (hv : varB t.name = true) {z : Zp} (hz : z ∈ Z) (hn : z.nm = t.name) : onT s z.t = onT s t := by
 rw [var_leaf he hv, ← hn]
 exact (h.2.1 z hz).2.2.symm
def Free (s : List Bd) (t : Tm) : Prop := errL [t] = 0 ∧ (varB t.name = true → ∀ d ∈ s, d.nm ≠ t.name)
theorem forT_no {s : List Bd} {n : ByteArray} (h : ∀ d ∈ s, d.nm ≠ n) : forT s n = none := by
 induction s with
 | nil => rfl
 | cons d r ih => rw [forT, if_neg (h d (by simp))]; exact ih fun e he => h e (by simp [he])
theorem Free.var {s : List Bd} {t : Tm} (h : Free s t) (hv : varB t.name = true) : onT s t = ⟨t.name, []⟩ := by
 rw [var_leaf h.1 hv, onT_leaf, forT_no (h.2 hv)]
 rfl
theorem onT_knot {s : List Bd} (hs : OkS s) {t : Tm} (hv : varB t.name = false) : onT s t = ⟨t.name, onL s t.args⟩ := by
 obtain ⟨n, l⟩ := t
 exact onT_sym2 hs.vars hv l
theorem Free.name {s : List Bd} (hs : OkS s) {t : Tm} (h : Free s t) : (onT s t).name = t.name := by
 cases hv : varB t.name with
 | true => rw [h.var hv]
 | false => rw [onT_knot hs hv]
theorem onL_len (s : List Bd) : ∀ l : List Tm, (onL s l).length = l.length
 | [] => by simp [onL]
 | t :: r => by rw [onL_cons, List.length_cons, onL_len s r, List.length_cons]
theorem Clo.add {Z : List Zp} {s : List Bd} (h : Clo Z s) {x : ByteArray} {t : Tm} (hx : varB x = true) (hn : ∀ d ∈ s, d.nm ≠ x) (he : errL [t] = 0) (ho : ¬ occL x [onT s t]) (b o : Nat) : Clo (Z ++ [⟨x, t, b, o⟩]) (addS s x (onT s t)) := by
 have hs := h.1
 have eu := errL_onT2 hs he
 have h1 := hs.add hx hn eu (hs.goneT he) ho
 have hon : ∀ y, errL [y] = 0 → onT (addS s x (onT s t)) y = onT [⟨x, onT s t⟩] (onT s y) := fun y hy => by
  have h2 := add_on hs hx hn h1 [y] hy
  rw [onL_cons, onL_cons, onL_cons] at h2
  injection h2
 refine ⟨h1, fun z hz => ?_, fun d hd => ?_, fun z hz => ?_⟩
 ·rcases List.mem_append.1 hz with hz | hz
  ·obtain ⟨g1, g2, g3⟩ := h.2.1 z hz
   exact ⟨g1, g2, by rw [add_val hs.1 hn, g3, hon _ g2]⟩
  ·have e : z = ⟨x, t, b, o⟩ := by simpa using hz
   subst e
   refine ⟨hx, he, ?_⟩
   show onT (addS s x (onT s t)) ⟨x, []⟩ = onT (addS s x (onT s t)) t
   rw [add_val hs.1 hn, hon t he, onT_leaf s x, forT_no hn, onT_id (s := [⟨x, onT s t⟩]) (t := onT s t) (fun d hd => by
    have e : d = ⟨x, onT s t⟩ := by simpa using hd
    rw [e]; exact ho)]
   simp [onT_leaf, forT]
 ·have h8 := (srtB_perm (s.map (putB x (onT s t)) ++ [⟨x, onT s t⟩])).subset hd
  rcases List.mem_append.1 h8 with h8 | h8
  ·obtain ⟨d', hd', rfl⟩ := List.mem_map.1 h8
   obtain ⟨z, hz, e⟩ := h.2.2.1 d' hd'
   exact ⟨z, by simp [hz], e⟩
  ·have e : d = ⟨x, onT s t⟩ := by simpa using h8
   exact ⟨⟨x, t, b, o⟩, by simp, by rw [e]⟩
 ·have hin : ∀ d, d ∈ s.map (putB x (onT s t)) ++ [⟨x, onT s t⟩] → d ∈ addS s x (onT s t) := fun d hd => (srtB_perm _).symm.subset hd
  rcases List.mem_append.1 hz with hz | hz
  ·obtain ⟨d, hd, e⟩ := h.2.2.2 z hz
   exact ⟨putB x (onT s t) d, hin _ (List.mem_append_left _ (List.mem_map.2 ⟨d, hd, rfl⟩)), e⟩
  ·have e : z = ⟨x, t, b, o⟩ := by simpa using hz
   exact ⟨⟨x, onT s t⟩, hin _ (by simp), by rw [e]⟩
theorem inB_of {x : ByteArray} {t : Tm} (hx : varB x = true) (h : occL x [t]) : inB x (varsP [] (preL [t])) = true := by
 by_cases hi : inB x (varsP [] (preL [t])) = true
 ·exact hi
 ·exact absurd h (not_inB hx hi)
theorem inB_not {x : ByteArray} {t : Tm} (h : ¬ occL x [t]) : ¬ inB x (varsP [] (preL [t])) = true := fun hi => by
 unfold inB at hi
 rw [List.any_eq_true] at hi
 obtain ⟨n, hn, e⟩ := hi
 rcases varsP_sub _ _ _ hn with hn | ⟨k, hk, e2, _⟩
 ·cases hn
 ·exact h ⟨k, hk, by rw [e2]; first | exact (bytes_inj (by simpa using e)).symm | exact bytes_inj (by simpa using e)⟩
theorem fr_same {s : List Bd} {a b a' b' : Tm} (hs : OkS s) (ha : onT s a' = onT s a) (hb : onT s b' = onT s b) (fa : Free s a') (fb : Free s b') (hv : varB a'.name = true) (hn : b'.name = a'.name) : FR s [⟨a, b⟩] 0 s := by
 refine FR.step (s' := s) (l' := []) ?_ (FR.done s)
 show fPair s (onT s a) (onT s b) = _
 rw [← ha, ← hb]
 unfold fPair
 rw [fa.name hs, fb.name hs, if_pos hv, if_pos hn.symm]
theorem fr_occurs {s : List Bd} {a b a' b' : Tm} (hs : OkS s) (ha : onT s a' = onT s a) (hb : onT s b' = onT s b) (fa : Free s a') (fb : Free s b') (h : (varB a'.name = true ∧ b'.name ≠ a'.name ∧ occL a'.name [onT s b']) ∨ (varB a'.name = false ∧ varB b'.name = true ∧ occL b'.name [onT s a'])) : FR s [⟨a, b⟩] 6 s := by
 refine FR.stop ?_
 show fPair s (onT s a) (onT s b) = _
 rw [← ha, ← hb]
 unfold fPair
 rw [fa.name hs, fb.name hs]
 rcases h with ⟨h1, h2, h3⟩ | ⟨h1, h2, h3⟩
 ·rw [if_pos h1, if_neg (Ne.symm h2)]
  unfold fBind
  rw [if_pos (inB_of h1 h3)]
 ·rw [if_neg (by rw [h1]; simp), if_pos h2]
  unfold fBind
  rw [if_pos (inB_of h2 h3)]
theorem fr_bind {s : List Bd} {a b a' b' : Tm} (hs : OkS s) (ha : onT s a' = onT s a) (hb : onT s b' = onT s b) (fa : Free s a') (fb : Free s b') {x : ByteArray} {u : Tm} (h : (varB a'.name = true ∧ b'.name ≠ a'.name ∧ x = a'.name ∧ u = b') ∨ (varB a'.name = false ∧ varB b'.name = true ∧ x = b'.name ∧ u = a')) (ho : ¬ occL x [onT s u]) : FR s [⟨a, b⟩] 0 (addS s x (onT s u)) := by
 refine FR.step (s' := addS s x (onT s u)) (l' := []) ?_ (FR.done _)
 show fPair s (onT s a) (onT s b) = _
 rw [← ha, ← hb]
 unfold fPair
 rw [fa.name hs, fb.name hs]
 rcases h with ⟨h1, h2, rfl, rfl⟩ | ⟨h1, h2, rfl, rfl⟩
 ·rw [if_pos h1, if_neg (Ne.symm h2)]
  unfold fBind
  rw [if_neg (inB_not ho)]
 ·rw [if_neg (by rw [h1]; simp), if_pos h2]
  unfold fBind
  rw [if_neg (inB_not ho)]
theorem fr_clash {s : List Bd} {a b a' b' : Tm} (hs : OkS s) (ha : onT s a' = onT s a) (hb : onT s b' = onT s b) (va : varB a'.name = false) (vb : varB b'.name = false) (h : ¬ (a'.name = b'.name ∧ a'.args.length = b'.args.length)) : FR s [⟨a, b⟩] 5 s := by
 refine FR.stop ?_
 show fPair s (onT s a) (onT s b) = _
 rw [← ha, ← hb, onT_knot hs va, onT_knot hs vb]
 unfold fPair
 rw [if_neg (by rw [va]; simp), if_neg (by rw [vb]; simp), if_neg (by simpa [onL_len] using h)]
theorem zip_on (s : List Bd) : ∀ (a b : List Tm), (zipP (onL s a) (onL s b)) = (zipP a b).map fun p => ⟨onT s p.l, onT s p.r⟩
 | [], _ => by simp [onL, zipP]
 | _ :: _, [] => by simp [onL, onL_cons, zipP]
 | x :: a, y :: b => by rw [onL_cons, onL_cons, zipP, zipP, zip_on s a b]; rfl
theorem fr_deep {s sf : List Bd} {a b a' b' : Tm} {e : Int} (hs : OkS s) (ha : onT s a' = onT s a) (hb : onT s b' = onT s b) (ea : errL [a'] = 0) (eb : errL [b'] = 0) (va : varB a'.name = false) (vb : varB b'.name = false) (hn : a'.name = b'.name) (hl : a'.args.length = b'.args.length) (h : FR s (zipP a'.args b'.args) e sf) : FR s [⟨a, b⟩] e sf := by
 refine FR.step (s' := s) (l' := zipP (onL s a'.args) (onL s b'.args)) ?_ ?_
 ·show fPair s (onT s a) (onT s b) = _
  rw [← ha, ← hb, onT_knot hs va, onT_knot hs vb]
  unfold fPair
  rw [if_neg (by rw [va]; simp), if_neg (by rw [vb]; simp), if_pos (by simpa [onL_len] using ⟨hn, hl⟩)]
 ·rw [List.append_nil]
  have e1 := zip_err (err_sub ea) (err_sub eb)
  have e2 : errL (flatP (zipP (onL s a'.args) (onL s b'.args))) = 0 := zip_err (errL_on2 hs _ (err_sub ea)) (errL_on2 hs _ (err_sub eb))
  refine h.congr hs e1 e2 ?_
  unfold EqP
  rw [zip_on, List.map_map]
  refine List.map_congr_left fun p hp => ?_
  obtain ⟨f1, f2⟩ := err_flat e1 p hp
  show (onT s p.l, onT s p.r) = (onT s (onT s p.l), onT s (onT s p.r))
  rw [(abs_refl hs).T f1, (abs_refl hs).T f2]
theorem zip_take : ∀ {a b : List Tm} {k : Nat} (h : k < a.length) (h2 : k < b.length), zipP (a.take (k + 1)) (b.take (k + 1)) = zipP (a.take k) (b.take k) ++ [⟨a[k], b[k]⟩]
 | x :: a, y :: b, 0, _, _ => by simp [zipP]
 | x :: a, y :: b, k + 1, h, h2 => by
  rw [List.take_succ_cons, List.take_succ_cons, zipP, zip_take (k := k) (by simpa using h) (by simpa using h2)]
  rfl
theorem zip_parts : ∀ (a b : List Tm) (k : Nat), zipP a b = zipP (a.take k) (b.take k) ++ zipP (a.drop k) (b.drop k)
 | a, b, 0 => by simp [zipP]
 | [], b, k + 1 => by simp [zipP]
 | x :: a, [], k + 1 => by simp [zipP]
 | x :: a, y :: b, k + 1 => by
  rw [List.take_succ_cons, List.take_succ_cons, List.drop_succ_cons, List.drop_succ_cons, zipP, zipP, zip_parts a b k]
  rfl
theorem fr_next {s s' sf : List Bd} {a b : List Tm} {k : Nat} {e : Int} (h : k < a.length) (h2 : k < b.length) (h0 : FR s (zipP (a.take k) (b.take k)) 0 s') (h1 : FR s' [⟨a[k], b[k]⟩] e sf) : FR s (zipP (a.take (k + 1)) (b.take (k + 1))) e sf := by
 rw [zip_take h h2]
 exact h0.append_ok rfl h1
theorem fr_fail {s sf : List Bd} {a b : List Tm} (k : Nat) {e : Int} (he : e ≠ 0) (h : FR s (zipP (a.take k) (b.take k)) e sf) : FR s (zipP a b) e sf := by
 rw [zip_parts a b k]
 exact h.append_err he _
theorem pr_next {s s' sf : List Bd} {l : List Pr} {k : Nat} {e : Int} (h : k < l.length) (h0 : FR s (l.take k) 0 s') (h1 : FR s' [⟨l[k].l, l[k].r⟩] e sf) : FR s (l.take (k + 1)) e sf := by
 rw [List.take_succ_eq_append_getElem h]
 exact h0.append_ok rfl h1
theorem pr_fail {s sf : List Bd} {l : List Pr} (k : Nat) {e : Int} (he : e ≠ 0) (h : FR s (l.take k) e sf) : FR s l e sf := by
 have h1 := h.append_err he (l.drop k)
 rwa [List.take_append_drop] at h1
end Go.Proofs.YtbnmlkaejdpigaaGreatDoor
