/- Several texts in one. -/
import Derived.Test.YtpjdkdebjkpmmabZUnifyMadeOwn
import Derived.Test.YtpjdkdebjkpmmabW8
import Derived.Deep.RegionHeld3
import Derived.Test.YtpjdkdebjkpmmabBnd
import Derived.Test.YtpjdkdebjkpmmabSrt
import Derived.Test.YtpjdkdebjkpmmabW6
import Derived.Test.YtpjdkdebjkpmmabExQ
import Derived.Test.YtpjdkdebjkpmmabMapS
import Derived.Deep.LoopGhost
import Derived.Test.YtpjdkdebjkpmmabPrr
import Derived.Test.YtpjdkdebjkpmmabW9
import Derived.Test.YtpjdkdebjkpmmabMapT
import Derived.Test.YtpjdkdebjkpmmabW1
import Derived.Sort.KeysCollected
import Derived.Sort.Walk0
import Derived.Maps.Range
import Derived.Maps.Own
import Derived.StringKeys
import Derived.Shelf.SlIter.Nil
import Derived.Shelf.SortM.Plain
import Derived.Shelf.SortM.SortNone
import Derived.Shelf.SlGeneric
import Derived.Ground.GgzProg
import Derived.Ground.SlgmProg
import Derived.Test.YtpjdkdebjkpmmabProg
import Derived.Test.YtpjdkdebjkpmmabRows
import Derived.Test.YtpjdkdebjkpmmabOnM
import Derived.Test.YtpjdkdebjkpmmabBmE
import Derived.Test.YtpjdkdebjkpmmabW82
/- Equations worked off by what stands for variables, with nothing put in: plain. -/
namespace Go.Proofs.Ytpjdkdebjkpmmab
open Go.RowKit
set_option linter.unusedSimpArgs false
set_option linter.unusedVariables false

def EqP (s : List Bd) (l k : List Pr) : Prop := l.map (fun p => (onT s p.l, onT s p.r)) = k.map (fun p => (onT s p.l, onT s p.r))
theorem EqP.later {s s' : List Bd} (ha : Abs s s') : ∀ {l k : List Pr}, errL (flatP l) = 0 → errL (flatP k) = 0 → EqP s l k → EqP s' l k
  | [], [], _, _, _ => rfl
  | [], _ :: _, _, _, h => by simp [EqP] at h
  | _ :: _, [], _, _, h => by simp [EqP] at h
  | p :: l, q :: k, hl, hk, h => by
    unfold EqP at h
    rw [List.map_cons, List.map_cons] at h
    injection h with h1 h2
    injection h1 with h3 h4
    obtain ⟨e1, e2⟩ := err_two.1 hl
    obtain ⟨e2, e3⟩ := err_two.1 e2
    obtain ⟨f1, f2⟩ := err_two.1 hk
    obtain ⟨f2, f3⟩ := err_two.1 f2
    have h5 : EqP s' l k := EqP.later ha e3 f3 h2
    unfold EqP
    rw [List.map_cons, List.map_cons, h5, ← ha.T e1, ← ha.T e2, ← ha.T f1, ← ha.T f2, h3, h4]
/-- What is the same when all is put in is worked off likewise. -/
theorem FR.congr {s sf : List Bd} {l : List Pr} {e : Int} (h : FR s l e sf) : ∀ {k : List Pr}, OkS s → errL (flatP l) = 0 → errL (flatP k) = 0 → EqP s l k → FR s k e sf := by
  induction h with
  | done s =>
    intro k _ _ _ hk
    cases k with
    | nil => exact FR.done s
    | cons q k => simp [EqP] at hk
  | @step s s' sf p l' rest e h1 h2 ih =>
    intro k hs he hk h
    cases k with
    | nil => simp [EqP] at h
    | cons q k =>
      unfold EqP at h
      rw [List.map_cons, List.map_cons] at h
      injection h with h3 h4
      injection h3 with h5 h6
      obtain ⟨e1, e2⟩ := err_two.1 he
      obtain ⟨e2, e3⟩ := err_two.1 e2
      obtain ⟨f1, f2⟩ := err_two.1 hk
      obtain ⟨f2, f3⟩ := err_two.1 f2
      obtain ⟨g1, g2, g3, _⟩ := fPair_go hs (errL_onT2 hs e1) (errL_onT2 hs e2) (hs.goneT e1) (hs.goneT e2) h1
      refine FR.step (by rw [← h5, ← h6]; exact h1) (ih g1 (by rw [flatP_append]; exact err_append.2 ⟨g3, e3⟩) (by rw [flatP_append]; exact err_append.2 ⟨g3, f3⟩) ?_)
      have h7 : EqP s' rest k := EqP.later g2 e3 f3 h4
      unfold EqP at h7 ⊢
      rw [List.map_append, List.map_append, h7]
  | @stop s p rest e h1 =>
    intro k hs he hk h
    cases k with
    | nil => simp [EqP] at h
    | cons q k =>
      unfold EqP at h
      rw [List.map_cons, List.map_cons] at h
      injection h with h3 h4
      injection h3 with h5 h6
      exact FR.stop (by rw [← h5, ← h6]; exact h1)

/-- A variable, the term that stands for it, and where that lies. -/
structure Zp where
  nm : ByteArray
  t : Tm
  b : Nat
  o : Nat
/-- What stands for variables, one behind the other, comes to these bindings. -/
def Clo (Z : List Zp) (s : List Bd) : Prop := OkS s ∧ (∀ z ∈ Z, varB z.nm = true ∧ errL [z.t] = 0 ∧ onT s ⟨z.nm, []⟩ = onT s z.t) ∧ (∀ d ∈ s, ∃ z ∈ Z, z.nm = d.nm) ∧ ∀ z ∈ Z, ∃ d ∈ s, d.nm = z.nm
theorem clo_nil : Clo [] [] := ⟨okS_nil, by simp, by simp, by simp⟩
theorem Clo.unbound {Z : List Zp} {s : List Bd} (h : Clo Z s) {n : ByteArray} (hn : ∀ z ∈ Z, z.nm ≠ n) : ∀ d ∈ s, d.nm ≠ n := fun d hd e => by
  obtain ⟨z, hz, e2⟩ := h.2.2.1 d hd
  exact hn z hz (e2.trans e)
theorem Clo.fresh {Z : List Zp} {s : List Bd} (h : Clo Z s) {n : ByteArray} (hn : ∀ d ∈ s, d.nm ≠ n) : ∀ z ∈ Z, z.nm ≠ n := fun z hz e => by
  obtain ⟨d, hd, e2⟩ := h.2.2.2 z hz
  exact hn d hd (e2.trans e)
theorem Clo.errs {Z : List Zp} {s : List Bd} (h : Clo Z s) : ∀ z ∈ Z, errL [z.t] = 0 := fun z hz => (h.2.1 z hz).2.1
theorem Clo.stands {Z : List Zp} {s : List Bd} (h : Clo Z s) {t : Tm} (he : errL [t] = 0) (hv : varB t.name = true) {z : Zp} (hz : z ∈ Z) (hn : z.nm = t.name) : onT s z.t = onT s t := by
  rw [var_leaf he hv, ← hn]
  exact (h.2.1 z hz).2.2.symm
/-- A variable for which nothing stands, or none at all. -/
def Free (s : List Bd) (t : Tm) : Prop := errL [t] = 0 ∧ (varB t.name = true → ∀ d ∈ s, d.nm ≠ t.name)
theorem forT_no {s : List Bd} {n : ByteArray} (h : ∀ d ∈ s, d.nm ≠ n) : forT s n = none := by
  induction s with
  | nil => rfl
  | cons d r ih => rw [forT, if_neg (h d (by simp))]; exact ih fun e he => h e (by simp [he])
theorem Free.var {s : List Bd} {t : Tm} (h : Free s t) (hv : varB t.name = true) : onT s t = ⟨t.name, []⟩ := by
  rw [var_leaf h.1 hv, onT_leaf, forT_no (h.2 hv)]
  rfl
theorem onT_knot {s : List Bd} (hs : OkS s) {t : Tm} (hv : varB t.name = false) : onT s t = ⟨t.name, onL s t.args⟩ := by
  obtain ⟨n, l⟩ := t
  exact onT_sym2 hs.vars hv l
theorem Free.name {s : List Bd} (hs : OkS s) {t : Tm} (h : Free s t) : (onT s t).name = t.name := by
  cases hv : varB t.name with
  | true => rw [h.var hv]
  | false => rw [onT_knot hs hv]
theorem onL_len (s : List Bd) : ∀ l : List Tm, (onL s l).length = l.length
  | [] => by simp [onL]
  | t :: r => by rw [onL_cons, List.length_cons, onL_len s r, List.length_cons]
theorem Clo.add {Z : List Zp} {s : List Bd} (h : Clo Z s) {x : ByteArray} {t : Tm} (hx : varB x = true) (hn : ∀ d ∈ s, d.nm ≠ x) (he : errL [t] = 0) (ho : ¬ occL x [onT s t]) (b o : Nat) : Clo (Z ++ [⟨x, t, b, o⟩]) (addS s x (onT s t)) := by
  have hs := h.1
  have eu := errL_onT2 hs he
  have h1 := hs.add hx hn eu (hs.goneT he) ho
  have hon : ∀ y, errL [y] = 0 → onT (addS s x (onT s t)) y = onT [⟨x, onT s t⟩] (onT s y) := fun y hy => by
    have h2 := add_on hs hx hn h1 [y] hy
    rw [onL_cons, onL_cons, onL_cons] at h2
    injection h2
  refine ⟨h1, fun z hz => ?_, fun d hd => ?_, fun z hz => ?_⟩
  · rcases List.mem_append.1 hz with hz | hz
    · obtain ⟨g1, g2, g3⟩ := h.2.1 z hz
      exact ⟨g1, g2, by rw [add_val hs.1 hn, g3, hon _ g2]⟩
    · have e : z = ⟨x, t, b, o⟩ := by simpa using hz
      subst e
      refine ⟨hx, he, ?_⟩
      show onT (addS s x (onT s t)) ⟨x, []⟩ = onT (addS s x (onT s t)) t
      rw [add_val hs.1 hn, hon t he, onT_leaf s x, forT_no hn, onT_id (s := [⟨x, onT s t⟩]) (t := onT s t) (fun d hd => by
        have e : d = ⟨x, onT s t⟩ := by simpa using hd
        rw [e]; exact ho)]
      simp [onT_leaf, forT]
  · have h8 := (srtB_perm (s.map (putB x (onT s t)) ++ [⟨x, onT s t⟩])).subset hd
    rcases List.mem_append.1 h8 with h8 | h8
    · obtain ⟨d', hd', rfl⟩ := List.mem_map.1 h8
      obtain ⟨z, hz, e⟩ := h.2.2.1 d' hd'
      exact ⟨z, by simp [hz], e⟩
    · have e : d = ⟨x, onT s t⟩ := by simpa using h8
      exact ⟨⟨x, t, b, o⟩, by simp, by rw [e]⟩
  · have hin : ∀ d, d ∈ s.map (putB x (onT s t)) ++ [⟨x, onT s t⟩] → d ∈ addS s x (onT s t) := fun d hd => (srtB_perm _).symm.subset hd
    rcases List.mem_append.1 hz with hz | hz
    · obtain ⟨d, hd, e⟩ := h.2.2.2 z hz
      exact ⟨putB x (onT s t) d, hin _ (List.mem_append_left _ (List.mem_map.2 ⟨d, hd, rfl⟩)), e⟩
    · have e : z = ⟨x, t, b, o⟩ := by simpa using hz
      exact ⟨⟨x, onT s t⟩, hin _ (by simp), by rw [e]⟩

theorem inB_of {x : ByteArray} {t : Tm} (hx : varB x = true) (h : occL x [t]) : inB x (varsP [] (preL [t])) = true := by
  by_cases hi : inB x (varsP [] (preL [t])) = true
  · exact hi
  · exact absurd h (not_inB hx hi)
theorem inB_not {x : ByteArray} {t : Tm} (h : ¬ occL x [t]) : ¬ inB x (varsP [] (preL [t])) = true := fun hi => by
  unfold inB at hi
  rw [List.any_eq_true] at hi
  obtain ⟨n, hn, e⟩ := hi
  rcases varsP_sub _ _ _ hn with hn | ⟨k, hk, e2, _⟩
  · cases hn
  · exact h ⟨k, hk, by rw [e2]; first | exact (bytes_inj (by simpa using e)).symm | exact bytes_inj (by simpa using e)⟩
/-- One equation, its sides looked up: both the same variable. -/
theorem fr_same {s : List Bd} {a b a' b' : Tm} (hs : OkS s) (ha : onT s a' = onT s a) (hb : onT s b' = onT s b) (fa : Free s a') (fb : Free s b') (hv : varB a'.name = true) (hn : b'.name = a'.name) : FR s [⟨a, b⟩] 0 s := by
  refine FR.step (s' := s) (l' := []) ?_ (FR.done s)
  show fPair s (onT s a) (onT s b) = _
  rw [← ha, ← hb]
  unfold fPair
  rw [fa.name hs, fb.name hs, if_pos hv, if_pos hn.symm]
/-- A variable that is to stand for a term in which it stands. -/
theorem fr_occurs {s : List Bd} {a b a' b' : Tm} (hs : OkS s) (ha : onT s a' = onT s a) (hb : onT s b' = onT s b) (fa : Free s a') (fb : Free s b') (h : (varB a'.name = true ∧ b'.name ≠ a'.name ∧ occL a'.name [onT s b']) ∨ (varB a'.name = false ∧ varB b'.name = true ∧ occL b'.name [onT s a'])) : FR s [⟨a, b⟩] 6 s := by
  refine FR.stop ?_
  show fPair s (onT s a) (onT s b) = _
  rw [← ha, ← hb]
  unfold fPair
  rw [fa.name hs, fb.name hs]
  rcases h with ⟨h1, h2, h3⟩ | ⟨h1, h2, h3⟩
  · rw [if_pos h1, if_neg (Ne.symm h2)]
    unfold fBind
    rw [if_pos (inB_of h1 h3)]
  · rw [if_neg (by rw [h1]; simp), if_pos h2]
    unfold fBind
    rw [if_pos (inB_of h2 h3)]
/-- A variable that comes to stand for a term. -/
theorem fr_bind {s : List Bd} {a b a' b' : Tm} (hs : OkS s) (ha : onT s a' = onT s a) (hb : onT s b' = onT s b) (fa : Free s a') (fb : Free s b') {x : ByteArray} {u : Tm} (h : (varB a'.name = true ∧ b'.name ≠ a'.name ∧ x = a'.name ∧ u = b') ∨ (varB a'.name = false ∧ varB b'.name = true ∧ x = b'.name ∧ u = a')) (ho : ¬ occL x [onT s u]) : FR s [⟨a, b⟩] 0 (addS s x (onT s u)) := by
  refine FR.step (s' := addS s x (onT s u)) (l' := []) ?_ (FR.done _)
  show fPair s (onT s a) (onT s b) = _
  rw [← ha, ← hb]
  unfold fPair
  rw [fa.name hs, fb.name hs]
  rcases h with ⟨h1, h2, rfl, rfl⟩ | ⟨h1, h2, rfl, rfl⟩
  · rw [if_pos h1, if_neg (Ne.symm h2)]
    unfold fBind
    rw [if_neg (inB_not ho)]
  · rw [if_neg (by rw [h1]; simp), if_pos h2]
    unfold fBind
    rw [if_neg (inB_not ho)]
/-- Two symbols that clash. -/
theorem fr_clash {s : List Bd} {a b a' b' : Tm} (hs : OkS s) (ha : onT s a' = onT s a) (hb : onT s b' = onT s b) (va : varB a'.name = false) (vb : varB b'.name = false) (h : ¬ (a'.name = b'.name ∧ a'.args.length = b'.args.length)) : FR s [⟨a, b⟩] 5 s := by
  refine FR.stop ?_
  show fPair s (onT s a) (onT s b) = _
  rw [← ha, ← hb, onT_knot hs va, onT_knot hs vb]
  unfold fPair
  rw [if_neg (by rw [va]; simp), if_neg (by rw [vb]; simp), if_neg (by simpa [onL_len] using h)]
theorem zip_on (s : List Bd) : ∀ (a b : List Tm), (zipP (onL s a) (onL s b)) = (zipP a b).map fun p => ⟨onT s p.l, onT s p.r⟩
  | [], _ => by simp [onL, zipP]
  | _ :: _, [] => by simp [onL, onL_cons, zipP]
  | x :: a, y :: b => by rw [onL_cons, onL_cons, zipP, zipP, zip_on s a b]; rfl
/-- Two symbols that are the same: what lies below. -/
theorem fr_deep {s sf : List Bd} {a b a' b' : Tm} {e : Int} (hs : OkS s) (ha : onT s a' = onT s a) (hb : onT s b' = onT s b) (ea : errL [a'] = 0) (eb : errL [b'] = 0) (va : varB a'.name = false) (vb : varB b'.name = false) (hn : a'.name = b'.name) (hl : a'.args.length = b'.args.length) (h : FR s (zipP a'.args b'.args) e sf) : FR s [⟨a, b⟩] e sf := by
  refine FR.step (s' := s) (l' := zipP (onL s a'.args) (onL s b'.args)) ?_ ?_
  · show fPair s (onT s a) (onT s b) = _
    rw [← ha, ← hb, onT_knot hs va, onT_knot hs vb]
    unfold fPair
    rw [if_neg (by rw [va]; simp), if_neg (by rw [vb]; simp), if_pos (by simpa [onL_len] using ⟨hn, hl⟩)]
  · rw [List.append_nil]
    have e1 := zip_err (err_sub ea) (err_sub eb)
    have e2 : errL (flatP (zipP (onL s a'.args) (onL s b'.args))) = 0 := zip_err (errL_on2 hs _ (err_sub ea)) (errL_on2 hs _ (err_sub eb))
    refine h.congr hs e1 e2 ?_
    unfold EqP
    rw [zip_on, List.map_map]
    refine List.map_congr_left fun p hp => ?_
    obtain ⟨f1, f2⟩ := err_flat e1 p hp
    show (onT s p.l, onT s p.r) = (onT s (onT s p.l), onT s (onT s p.r))
    rw [(abs_refl hs).T f1, (abs_refl hs).T f2]
theorem zip_take : ∀ {a b : List Tm} {k : Nat} (h : k < a.length) (h2 : k < b.length), zipP (a.take (k + 1)) (b.take (k + 1)) = zipP (a.take k) (b.take k) ++ [⟨a[k], b[k]⟩]
  | x :: a, y :: b, 0, _, _ => by simp [zipP]
  | x :: a, y :: b, k + 1, h, h2 => by
    rw [List.take_succ_cons, List.take_succ_cons, zipP, zip_take (k := k) (by simpa using h) (by simpa using h2)]
    rfl
theorem zip_parts : ∀ (a b : List Tm) (k : Nat), zipP a b = zipP (a.take k) (b.take k) ++ zipP (a.drop k) (b.drop k)
  | a, b, 0 => by simp [zipP]
  | [], b, k + 1 => by simp [zipP]
  | x :: a, [], k + 1 => by simp [zipP]
  | x :: a, y :: b, k + 1 => by
    rw [List.take_succ_cons, List.take_succ_cons, List.drop_succ_cons, List.drop_succ_cons, zipP, zipP, zip_parts a b k]
    rfl
/-- The next one below. -/
theorem fr_next {s s' sf : List Bd} {a b : List Tm} {k : Nat} {e : Int} (h : k < a.length) (h2 : k < b.length) (h0 : FR s (zipP (a.take k) (b.take k)) 0 s') (h1 : FR s' [⟨a[k], b[k]⟩] e sf) : FR s (zipP (a.take (k + 1)) (b.take (k + 1))) e sf := by
  rw [zip_take h h2]
  exact h0.append_ok rfl h1
theorem fr_fail {s sf : List Bd} {a b : List Tm} (k : Nat) {e : Int} (he : e ≠ 0) (h : FR s (zipP (a.take k) (b.take k)) e sf) : FR s (zipP a b) e sf := by
  rw [zip_parts a b k]
  exact h.append_err he _
theorem pr_next {s s' sf : List Bd} {l : List Pr} {k : Nat} {e : Int} (h : k < l.length) (h0 : FR s (l.take k) 0 s') (h1 : FR s' [⟨l[k].l, l[k].r⟩] e sf) : FR s (l.take (k + 1)) e sf := by
  rw [List.take_succ_eq_append_getElem h]
  exact h0.append_ok rfl h1
theorem pr_fail {s sf : List Bd} {l : List Pr} (k : Nat) {e : Int} (he : e ≠ 0) (h : FR s (l.take k) e sf) : FR s l e sf := by
  have h1 := h.append_err he (l.drop k)
  rwa [List.take_append_drop] at h1
#print axioms fr_deep
#print axioms Clo.add
end Go.Proofs.Ytpjdkdebjkpmmab

/- Walks: two terms that are the same. -/
namespace Go.Proofs.Ytpjdkdebjkpmmab
open Go.RowKit
set_option linter.unusedSimpArgs false
set_option linter.unusedVariables false

theorem same_cells {w w1 : World} {n : Nat} {p1 p2 p3 p4 p5 p6 : Addr} {v1 v2 v3 v4 v5 v6 : Value} (hb : Below (w.drewN n).heap.size (w.drewN n) w1)
    (h : w.cell? p1 = some v1 ∧ w.cell? p2 = some v2 ∧ w.cell? p3 = some v3 ∧ w.cell? p4 = some v4 ∧ w.cell? p5 = some v5 ∧ w.cell? p6 = some v6) :
    w1.cell? p1 = some v1 ∧ w1.cell? p2 = some v2 ∧ w1.cell? p3 = some v3 ∧ w1.cell? p4 = some v4 ∧ w1.cell? p5 = some v5 ∧ w1.cell? p6 = some v6 := by
  have hb' : Below w.heap.size w w1 := (below_drewN (Below.refl _ _) n).trans (hb.mono (by simp))
  exact ⟨cell_later hb' h.1, cell_later hb' h.2.1, cell_later hb' h.2.2.1, cell_later hb' h.2.2.2.1, cell_later hb' h.2.2.2.2.1, cell_later hb' h.2.2.2.2.2⟩

set_option maxHeartbeats 1000000 in
theorem same_any (t : Tm) : ∀ (v u : Value) (w : World) (X Y : Nat → Prop), TV w X v t → TV w Y u t →
    Calls Try.prog 51 #[v, u] w fun e w' => e = .returned (.bool true) ∧ Below w.heap.size w w' := by
  induction t using Tm.ind with
  | h s l ih =>
    intro v u w X Y hv hu
    have IH := hide ih
    clear ih
    obtain ⟨a, c, rfl, hs⟩ := hv
    obtain ⟨a2, c2, rfl, hs2⟩ := hu
    have hl := hs.1
    go_enter Try.func51, Try.ntmps51
    go_wp2_with fail
    go_loopw [5] (fun i wr => ∃ (k : Nat), k ≤ l.length ∧ i = .int .i64 k ∧ Below w.heap.size w wr ∧ wr.cell? ⟨w.heap.size, 1, none⟩ = some (.slice a l.length c) ∧ wr.cell? ⟨w.heap.size + 1, 1, none⟩ = some (.slice a2 l.length c2) ∧ w.heap.size + 2 ≤ wr.heap.size) (fun i wr => l.length - (intOf i).toNat)
    case atStart => exact ⟨0, Nat.zero_le _, rfl, below2 _ _, by simp, by simp, by simp⟩
    case round =>
      obtain ⟨k, hk, rfl, hb, hc1, hc2, hsz⟩ := hrel
      by_cases hlt : k < l.length
      · obtain ⟨b, o, a', c', rfl, d0, d1, hx⟩ := hs.get hb (fun _ _ h => h) k hlt
        obtain ⟨b2, o2, a2', c2', rfl, e0, e1, hx2⟩ := hs2.get hb (fun _ _ h => h) k hlt
        have HX := hide hx
        have HX2 := hide hx2
        have HB := hide hb
        have HS0 := hide (And.intro hc1 (And.intro hc2 (And.intro d0 (And.intro d1 (And.intro e0 e1)))))
        clear hx hx2 hb
        go_wp2_with fail
        go_region_held3 (fun w' => w'.cell? ⟨w.heap.size, 1, none⟩ = some (.slice (some ⟨b, o, none⟩) l.length c) ∧ w'.cell? ⟨w.heap.size + 1, 1, none⟩ = some (.slice (some ⟨b2, o2, none⟩) l.length c2) ∧ w'.cell? ⟨b, o + k * 2, none⟩ = some (.string l[k].name) ∧ w'.cell? ⟨b, o + k * 2 + 1, none⟩ = some (.slice a' l[k].args.length c') ∧ w'.cell? ⟨b2, o2 + k * 2, none⟩ = some (.string l[k].name) ∧ w'.cell? ⟨b2, o2 + k * 2 + 1, none⟩ = some (.slice a2' l[k].args.length c2')) (first | exact HS0.out | exact hS1)
          ((go_at_call 51; refine (IH.out _ (List.getElem_mem hlt) _ _ _ X Y (by exact HX.out.later (below_drewN (Below.refl _ _) 1)) (by exact HX2.out.later (below_drewN (Below.refl _ _) 1))).mono ?_; rintro e w1 ⟨rfl, hb1⟩; have hS1 := same_cells (n := 1) hb1 HS0.out))
        go_wp2_with fail
        go_roundw
        case rel => exact ⟨k + 1, by omega, by go_num, (HB.out.trans (below_drewN (Below.refl _ _) 1)).trans (hb1.mono (by simp; omega)), hS1.1, hS1.2.1, by have := hb1.size; simp at this; omega⟩
        case measure => simp [intOf]; omega
      · go_wp2_with fail
        go_ret
        exact ⟨rfl, hb⟩
#print axioms same_any
end Go.Proofs.Ytpjdkdebjkpmmab

/- Walks: whether two terms are the same. -/
namespace Go.Proofs.Ytpjdkdebjkpmmab
open Go.RowKit
set_option linter.unusedSimpArgs false
set_option linter.unusedVariables false
set_option maxRecDepth 8000

def eqL : List Tm → List Tm → Bool
  | [], [] => true
  | ⟨s, a⟩ :: r, t :: ts => ((s.toList == t.name.toList) && ((a.length == t.args.length) && eqL a t.args)) && eqL r ts
  | _, _ => false
/-- Two terms are the same. -/
def sameB (a b : Tm) : Bool := (a.name.toList == b.name.toList) && ((a.args.length == b.args.length) && eqL a.args b.args)
theorem eqL_cons (x t : Tm) (r ts : List Tm) : eqL (x :: r) (t :: ts) = (sameB x t && eqL r ts) := by obtain ⟨s, a⟩ := x; simp only [eqL, sameB]
theorem eqL_append : ∀ (a b c d : List Tm), a.length = b.length → eqL (a ++ c) (b ++ d) = (eqL a b && eqL c d)
  | [], [], c, d, _ => by simp [eqL]
  | [], _ :: _, _, _, h => by simp at h
  | _ :: _, [], _, _, h => by simp at h
  | x :: r, t :: ts, c, d, h => by rw [List.cons_append, List.cons_append, eqL_cons, eqL_cons, eqL_append r ts c d (by simpa using h), Bool.and_assoc]
theorem eqL_take {l m : List Tm} {k : Nat} (h : k < l.length) (h2 : k < m.length) : eqL (l.take (k + 1)) (m.take (k + 1)) = (eqL (l.take k) (m.take k) && sameB l[k] m[k]) := by
  rw [List.take_succ_eq_append_getElem h, List.take_succ_eq_append_getElem h2, eqL_append _ _ _ _ (by simp; omega), eqL_cons]
  simp [eqL]
theorem eqL_no {l m : List Tm} {k : Nat} (h : k < l.length) (hlm : l.length = m.length) (h0 : sameB l[k] (m[k]'(by omega)) = false) : eqL l m = false := by
  have e1 : l = l.take (k + 1) ++ l.drop (k + 1) := (List.take_append_drop _ _).symm
  have e2 : m = m.take (k + 1) ++ m.drop (k + 1) := (List.take_append_drop _ _).symm
  rw [e1, e2, eqL_append _ _ _ _ (by simp; omega), eqL_take h (by omega), h0]
  simp

def SaInv (w : World) (l m : List Tm) (a a2 : Option Addr) (c c2 : Nat) (i : Value) (wr : World) : Prop :=
  ∃ (k : Nat), k ≤ l.length ∧ i = .int .i64 k ∧ eqL (l.take k) (m.take k) = true ∧ Below w.heap.size w wr ∧ wr.cell? ⟨w.heap.size, 1, none⟩ = some (.slice a l.length c) ∧ wr.cell? ⟨w.heap.size + 1, 1, none⟩ = some (.slice a2 l.length c2) ∧ w.heap.size + 2 ≤ wr.heap.size

set_option maxHeartbeats 2000000 in
theorem sameR_all (t : Tm) : ∀ (x : Tm) (v u : Value) (w : World) (X Y : Nat → Prop), TV w X v t → TV w Y u x →
    Calls Try.prog 51 #[v, u] w fun e w' => e = .returned (.bool (sameB t x)) ∧ Below w.heap.size w w' := by
  induction t using Tm.ind with
  | h s l ih =>
    intro x v u w X Y hv hu
    obtain ⟨s2, m⟩ := x
    have IH := hide ih
    clear ih
    obtain ⟨a, c, rfl, hs⟩ := hv
    obtain ⟨a2, c2, rfl, hs2⟩ := hu
    have hl := hs.1
    have hl2 := hs2.1
    dsimp only
    cases hn : (s.toList == s2.toList) with
    | false =>
      have HR : Hid (false = sameB ⟨s, l⟩ ⟨s2, m⟩) := by unfold Hid sameB; rw [hn]; rfl
      go_enter Try.func51, Try.ntmps51
      go_wp2_with fail
      go_ret
      exact ⟨ret_bool HR.out, below2 _ _⟩
    | true =>
      by_cases hm : l.length = m.length
      · have HR : Hid (eqL l m = sameB ⟨s, l⟩ ⟨s2, m⟩) := by unfold Hid sameB; simp [hn, hm]
        have HM := hide hm
        rw [← hm]
        clear hm
        go_enter Try.func51, Try.ntmps51
        go_wp2_with fail
        go_loopw [5] (fun i wr => SaInv w l m a a2 c c2 i wr) (fun i wr => l.length - (intOf i).toNat)
        case atStart => exact ⟨0, Nat.zero_le _, rfl, by simp [eqL], below2 _ _, by simp, by simp, by simp⟩
        case round =>
          obtain ⟨k, hk, rfl, hq, hb, hc1, hc2, hsz⟩ := hrel
          have HQ := hide hq
          clear hq
          by_cases hlt : k < l.length
          · obtain ⟨b, o, a', c', rfl, d0, d1, hx⟩ := hs.get hb (fun _ _ h => h) k hlt
            obtain ⟨b2, o2, a2', c2', rfl, e0, e1, hx2⟩ := hs2.get hb (fun _ _ h => h) k (by have := HM.out; omega)
            have hltm : k < m.length := by have := HM.out; omega
            have HX := hide hx
            have HX2 := hide hx2
            have HB := hide hb
            have HS0 := hide (And.intro hc1 (And.intro hc2 (And.intro d0 (And.intro d1 (And.intro e0 e1)))))
            have IHK := hide (fun (w' : World) => IH.out l[k] (List.getElem_mem hlt) m[k] (.agg #[.string l[k].name, .slice a' l[k].args.length c']) (.agg #[.string m[k].name, .slice a2' m[k].args.length c2']) w' X Y)
            have HT := hide (eqL_take hlt hltm)
            have HNO := hide (eqL_no hlt HM.out)
            clear hx hx2 hb
            generalize l[k] = y at *
            generalize m[k] = z at *
            go_wp2_with fail
            cases hsm : sameB y z with
            | true =>
              rw [hsm] at IHK HT
              go_region_held3 (fun w' => w'.cell? ⟨w.heap.size, 1, none⟩ = some (.slice (some ⟨b, o, none⟩) l.length c) ∧ w'.cell? ⟨w.heap.size + 1, 1, none⟩ = some (.slice (some ⟨b2, o2, none⟩) l.length c2) ∧ w'.cell? ⟨b, o + k * 2, none⟩ = some (.string y.name) ∧ w'.cell? ⟨b, o + k * 2 + 1, none⟩ = some (.slice a' y.args.length c') ∧ w'.cell? ⟨b2, o2 + k * 2, none⟩ = some (.string z.name) ∧ w'.cell? ⟨b2, o2 + k * 2 + 1, none⟩ = some (.slice a2' z.args.length c2')) (first | exact HS0.out | exact hS1 | go_keep)
                ((go_at_call 51; refine (IHK.out _ (by exact HX.out.later (below_drewN (Below.refl _ _) 1)) (by exact HX2.out.later (below_drewN (Below.refl _ _) 1))).mono ?_; rintro e w1 ⟨rfl, hb1⟩; have hS1 := same_cells (n := 1) hb1 HS0.out))
              go_wp2_with fail
              go_roundw
              case rel => exact ⟨k + 1, by omega, by go_num, by rw [HT.out, HQ.out]; rfl, (HB.out.trans (below_drewN (Below.refl _ _) 1)).trans (hb1.mono (by simp; omega)), hS1.1, hS1.2.1, by have := hb1.size; simp at this; omega⟩
              case measure => simp [intOf]; omega
            | false =>
              have HF : Hid (false = sameB ⟨s, l⟩ ⟨s2, m⟩) := by unfold Hid; rw [← HR.out, HNO.out hsm]
              rw [hsm] at IHK
              go_region_held3 (fun w' => w'.cell? ⟨w.heap.size, 1, none⟩ = some (.slice (some ⟨b, o, none⟩) l.length c) ∧ w'.cell? ⟨w.heap.size + 1, 1, none⟩ = some (.slice (some ⟨b2, o2, none⟩) l.length c2) ∧ w'.cell? ⟨b, o + k * 2, none⟩ = some (.string y.name) ∧ w'.cell? ⟨b, o + k * 2 + 1, none⟩ = some (.slice a' y.args.length c') ∧ w'.cell? ⟨b2, o2 + k * 2, none⟩ = some (.string z.name) ∧ w'.cell? ⟨b2, o2 + k * 2 + 1, none⟩ = some (.slice a2' z.args.length c2')) (first | exact HS0.out | exact hS1 | go_keep)
                ((go_at_call 51; refine (IHK.out _ (by exact HX.out.later (below_drewN (Below.refl _ _) 1)) (by exact HX2.out.later (below_drewN (Below.refl _ _) 1))).mono ?_; rintro e w1 ⟨rfl, hb1⟩; have hS1 := same_cells (n := 1) hb1 HS0.out))
              go_wp2_with fail
              go_ret
              exact ⟨ret_bool HF.out, (HB.out.trans (below_drewN (Below.refl _ _) 1)).trans (hb1.mono (by simp; omega))⟩
          · have HF : Hid (true = sameB ⟨s, l⟩ ⟨s2, m⟩) := by
              unfold Hid
              rw [← HR.out, ← HQ.out, List.take_of_length_le (by omega), List.take_of_length_le (by have := HM.out; omega)]
            go_wp2_with fail
            go_ret
            exact ⟨ret_bool HF.out, hb⟩
      · have HR : Hid (false = sameB ⟨s, l⟩ ⟨s2, m⟩) := by unfold Hid sameB; simp [hn, hm]
        have hm2 : ((l.length : Int) == (m.length : Int)) = false := beq_eq_false_iff_ne.2 (by omega)
        clear hm
        go_enter Try.func51, Try.ntmps51
        go_wp2_with fail
        go_ret
        exact ⟨ret_bool HR.out, below2 _ _⟩
#print axioms sameR_all
end Go.Proofs.Ytpjdkdebjkpmmab

/- One term as a case of another one: plain. -/
namespace Go.Proofs.Ytpjdkdebjkpmmab
open Go.RowKit
set_option linter.unusedSimpArgs false
set_option linter.unusedVariables false

/-- What stands for a pattern's variables, found knot by knot. -/
def mtL : List Tm → List Tm → List Bd → Option (List Bd)
  | [], _, h => some h
  | ⟨s, a⟩ :: r, ts, h => match ts with
    | [] => none
    | t :: ts' =>
      match (if varB s = true then (match forT h s with
          | some x => if sameB x t = true then some h else none
          | none => some (h ++ [⟨s, t⟩]))
        else if ((s.toList == t.name.toList) && (a.length == t.args.length)) = true then mtL a t.args h else none) with
      | some h' => mtL r ts' h'
      | none => none
def mtT (p t : Tm) (h : List Bd) : Option (List Bd) :=
  if varB p.name = true then (match forT h p.name with
      | some x => if sameB x t = true then some h else none
      | none => some (h ++ [⟨p.name, t⟩]))
    else if ((p.name.toList == t.name.toList) && (p.args.length == t.args.length)) = true then mtL p.args t.args h else none
theorem mtL_cons (p t : Tm) (r ts : List Tm) (h : List Bd) : mtL (p :: r) (t :: ts) h = (match mtT p t h with
      | some h' => mtL r ts h'
      | none => none) := by obtain ⟨s, a⟩ := p; simp only [mtL, mtT]
theorem mtL_append : ∀ (a b c d : List Tm) (h : List Bd), a.length = b.length → mtL (a ++ c) (b ++ d) h = (match mtL a b h with
      | some h' => mtL c d h'
      | none => none)
  | [], [], c, d, h, _ => by simp [mtL]
  | [], _ :: _, _, _, _, e => by simp at e
  | _ :: _, [], _, _, _, e => by simp at e
  | x :: r, t :: ts, c, d, h, e => by
    rw [List.cons_append, List.cons_append, mtL_cons, mtL_cons]
    cases mtT x t h with
    | none => rfl
    | some h' => exact mtL_append r ts c d h' (by simpa using e)
theorem mtL_take {l m : List Tm} {k : Nat} (h : k < l.length) (h2 : k < m.length) (hv : List Bd) : mtL (l.take (k + 1)) (m.take (k + 1)) hv = (match mtL (l.take k) (m.take k) hv with
      | some h' => mtT l[k] m[k] h'
      | none => none) := by
  rw [List.take_succ_eq_append_getElem h, List.take_succ_eq_append_getElem h2, mtL_append _ _ _ _ _ (by simp; omega)]
  cases mtL (l.take k) (m.take k) hv with
  | none => rfl
  | some h' =>
    show mtL [l[k]] [m[k]] h' = mtT l[k] m[k] h'
    rw [mtL_cons]
    cases mtT l[k] m[k] h' with
    | none => rfl
    | some h'' => simp [mtL]
theorem mtL_no {l m : List Tm} {k : Nat} {hv h' : List Bd} (h : k < l.length) (hlm : l.length = m.length) (h1 : mtL (l.take k) (m.take k) hv = some h') (h0 : mtT l[k] (m[k]'(by omega)) h' = none) : mtL l m hv = none := by
  have e1 : l = l.take (k + 1) ++ l.drop (k + 1) := (List.take_append_drop _ _).symm
  have e2 : m = m.take (k + 1) ++ m.drop (k + 1) := (List.take_append_drop _ _).symm
  rw [e1, e2, mtL_append _ _ _ _ _ (by simp; omega), mtL_take h (by omega), h1]
  simp only [h0]
theorem mtL_next {l m : List Tm} {k : Nat} {hv h' h'' : List Bd} (h : k < l.length) (h2 : k < m.length) (h1 : mtL (l.take k) (m.take k) hv = some h') (h0 : mtT l[k] m[k] h' = some h'') : mtL (l.take (k + 1)) (m.take (k + 1)) hv = some h'' := by
  rw [mtL_take h h2, h1]
  exact h0
theorem mtT_deep {s s2 : ByteArray} {l m : List Tm} {h : List Bd} (hv : varB s = false) (hn : (s.toList == s2.toList) = true) (hl : l.length = m.length) : mtT ⟨s, l⟩ ⟨s2, m⟩ h = mtL l m h := by
  simp [mtT, hv, hn, hl]
theorem mtT_off {s s2 : ByteArray} {l m : List Tm} {h : List Bd} (hv : varB s = false) (hn : ((s.toList == s2.toList) && (l.length == m.length)) = false) : mtT ⟨s, l⟩ ⟨s2, m⟩ h = none := by
  unfold mtT
  rw [if_neg (by rw [hv]; simp), if_neg (by simp only [hn]; simp)]
theorem mtT_new {s : ByteArray} {l : List Tm} {t : Tm} {h : List Bd} (hv : varB s = true) (hf : forT h s = none) : mtT ⟨s, l⟩ t h = some (h ++ [⟨s, t⟩]) := by simp [mtT, hv, hf]
theorem mtT_old {s : ByteArray} {l : List Tm} {t x : Tm} {h : List Bd} (hv : varB s = true) (hf : forT h s = some x) : mtT ⟨s, l⟩ t h = if sameB x t = true then some h else none := by simp [mtT, hv, hf]

/-- No name twice, and not more than there are knots; the terms are knots of the other one. -/
theorem forT_none {h : List Bd} {s : ByteArray} (hf : forT h s = none) : ∀ d ∈ h, d.nm ≠ s := by
  induction h with
  | nil => intro d hd; cases hd
  | cons a r ih =>
    intro d hd
    rw [forT] at hf
    split at hf
    · cases hf
    · rename_i hne
      rcases List.mem_cons.1 hd with rfl | hd
      · exact hne
      · exact ih hf d hd
theorem mtT_apart_one {p t : Tm} {h h' : List Bd} (ih : ∀ ts g g', mtL p.args ts g = some g' → ApartB g → ApartB g' ∧ g'.length ≤ g.length + sizeL p.args) (he : mtT p t h = some h') (ha : ApartB h) : ApartB h' ∧ h'.length ≤ h.length + (1 + sizeL p.args) := by
  unfold mtT at he
  split at he
  · split at he
    · split at he
      · cases he; exact ⟨ha, by omega⟩
      · cases he
    · rename_i hf
      cases he
      refine ⟨List.pairwise_append.2 ⟨ha, by simp, fun a h1 b h2 => ?_⟩, by simp⟩
      have e : b = ⟨p.name, t⟩ := by simpa using h2
      rw [e]
      exact forT_none hf a h1
  · split at he
    · obtain ⟨h1, h2⟩ := ih _ _ _ he ha
      exact ⟨h1, by omega⟩
    · cases he
theorem mtL_apart : ∀ (l ts : List Tm) (h h' : List Bd), mtL l ts h = some h' → ApartB h → ApartB h' ∧ h'.length ≤ h.length + sizeL l := by
  intro l
  induction l using Tm.indL with
  | h0 => intro ts h h' he ha; simp [mtL] at he; subst he; exact ⟨ha, by simp⟩
  | h s l r ihl ihr =>
    intro ts h h' he ha
    cases ts with
    | nil => simp [mtL] at he
    | cons t ts =>
      rw [mtL_cons] at he
      cases hm : mtT ⟨s, l⟩ t h with
      | none => rw [hm] at he; cases he
      | some g =>
        rw [hm] at he
        obtain ⟨h1, h2⟩ := mtT_apart_one (p := ⟨s, l⟩) (fun ts g g' h3 h4 => ihl ts g g' h3 h4) hm ha
        obtain ⟨h3, h4⟩ := ihr ts g h' he h1
        refine ⟨h3, ?_⟩
        simp only [sizeL]
        simp only at h2
        omega
theorem mtT_apart {p t : Tm} {h h' : List Bd} (he : mtT p t h = some h') (ha : ApartB h) : ApartB h' ∧ h'.length ≤ h.length + sizeL [p] := by
  obtain ⟨h1, h2⟩ := mtT_apart_one (fun ts g g' h3 h4 => mtL_apart p.args ts g g' h3 h4) he ha
  refine ⟨h1, ?_⟩
  obtain ⟨s, a⟩ := p
  simp [sizeL] at h2 ⊢
  omega
#print axioms mtT_apart
end Go.Proofs.Ytpjdkdebjkpmmab

/- One term has another one's symbols wherever that has some: plain. -/
namespace Go.Proofs.Ytpjdkdebjkpmmab
open Go.RowKit
set_option linter.unusedSimpArgs false
set_option linter.unusedVariables false

/-- Symbols, and how many there are below, are the pattern's, wherever the pattern has one. -/
def shL : List Tm → List Tm → Bool
  | [], _ => true
  | ⟨s, a⟩ :: r, ts => match ts with
    | [] => false
    | t :: ts' => (varB s || ((s.toList == t.name.toList) && (a.length == t.args.length) && shL a t.args)) && shL r ts'
def shT (p t : Tm) : Bool := varB p.name || ((p.name.toList == t.name.toList) && (p.args.length == t.args.length) && shL p.args t.args)
theorem shL_cons (p t : Tm) (r ts : List Tm) : shL (p :: r) (t :: ts) = (shT p t && shL r ts) := by obtain ⟨s, a⟩ := p; simp only [shL, shT]
theorem shT_deep {s s2 : ByteArray} {l m : List Tm} (hv : varB s = false) : shT ⟨s, l⟩ ⟨s2, m⟩ = ((s.toList == s2.toList) && (l.length == m.length) && shL l m) := by simp [shT, hv]
theorem shT_var {s : ByteArray} {l : List Tm} {t : Tm} (hv : varB s = true) : shT ⟨s, l⟩ t = true := by simp [shT, hv]
theorem shL_iff : ∀ (l m : List Tm), l.length = m.length → (shL l m = true ↔ ∀ k (h : k < l.length) (h2 : k < m.length), shT l[k] m[k] = true)
  | [], m, _ => by simp [shL]
  | _ :: _, [], e => by simp at e
  | p :: r, t :: ts, e => by
    have ih := shL_iff r ts (by simpa using e)
    rw [shL_cons, Bool.and_eq_true, ih]
    refine ⟨fun h k h1 h2 => ?_, fun h => ⟨h 0 (by simp) (by simp), fun k h1 h2 => h (k + 1) (by simpa using h1) (by simpa using h2)⟩⟩
    cases k with
    | zero => exact h.1
    | succ k => exact h.2 k (by simpa using h1) (by simpa using h2)
theorem shL_no {l m : List Tm} {k : Nat} (hlm : l.length = m.length) (h : k < l.length) (h2 : k < m.length) (h0 : shT l[k] m[k] = false) : shL l m = false := by
  cases hs : shL l m with
  | false => rfl
  | true => rw [(shL_iff l m hlm).1 hs k h h2] at h0; cases h0
/-- Where they aren't, nothing makes one the other. -/
theorem mtL_unshaped : ∀ (l m : List Tm) (h : List Bd), l.length = m.length → shL l m = false → mtL l m h = none := by
  intro l
  induction l using Tm.indL with
  | h0 => intro m h _ hs; simp [shL] at hs
  | h s a r iha ihr =>
    intro m h hlm hs
    cases m with
    | nil => simp at hlm
    | cons t ts =>
      rw [shL_cons] at hs
      rw [mtL_cons]
      cases h1 : shT ⟨s, a⟩ t with
      | true =>
        rw [h1, Bool.true_and] at hs
        cases mtT ⟨s, a⟩ t h with
        | none => rfl
        | some h' => exact ihr ts h' (by simpa using hlm) hs
      | false =>
        obtain ⟨s2, m2⟩ := t
        have hv : varB s = false := by
          cases hv : varB s with
          | false => rfl
          | true => rw [shT_var hv] at h1; cases h1
        rw [shT_deep hv] at h1
        have e : mtT ⟨s, a⟩ ⟨s2, m2⟩ h = none := by
          cases hn : ((s.toList == s2.toList) && (a.length == m2.length)) with
          | false => exact mtT_off hv hn
          | true =>
            rw [hn, Bool.true_and] at h1
            rw [Bool.and_eq_true] at hn
            have hl : a.length = m2.length := by simpa using hn.2
            rw [mtT_deep hv hn.1 hl]
            exact iha m2 h hl h1
        rw [e]
theorem mtT_unshaped {p t : Tm} (h : List Bd) (hs : shT p t = false) : mtT p t h = none := by
  have := mtL_unshaped [p] [t] h rfl (by rw [shL_cons, hs]; rfl)
  rw [mtL_cons] at this
  cases hm : mtT p t h with
  | none => rfl
  | some h' => rw [hm] at this; simp [mtL] at this
#print axioms mtT_unshaped
end Go.Proofs.Ytpjdkdebjkpmmab

/- Walks: whether two terms are the same, as the program asks. -/
namespace Go.Proofs.Ytpjdkdebjkpmmab
open Go.RowKit
set_option linter.unusedSimpArgs false
set_option linter.unusedVariables false
set_option maxRecDepth 8000

set_option maxHeartbeats 2000000 in
theorem sameK_all (t : Tm) : ∀ (x : Tm) (v u : Value) (w : World) (X Y : Nat → Prop), TV w X v t → TV w Y u x →
    Calls Try.prog 74 #[v, u] w fun e w' => e = .returned (.bool (sameB t x)) ∧ Below w.heap.size w w' := by
  induction t using Tm.ind with
  | h s l ih =>
    intro x v u w X Y hv hu
    obtain ⟨s2, m⟩ := x
    have IH := hide ih
    clear ih
    obtain ⟨a, c, rfl, hs⟩ := hv
    obtain ⟨a2, c2, rfl, hs2⟩ := hu
    have hl := hs.1
    have hl2 := hs2.1
    dsimp only
    cases hn : (s.toList == s2.toList) with
    | false =>
      have HR : Hid (false = sameB ⟨s, l⟩ ⟨s2, m⟩) := by unfold Hid sameB; rw [hn]; rfl
      go_enter Try.func74, Try.ntmps74
      go_wp2_with fail
      go_ret
      exact ⟨ret_bool HR.out, below2 _ _⟩
    | true =>
      by_cases hm : l.length = m.length
      · have HR : Hid (eqL l m = sameB ⟨s, l⟩ ⟨s2, m⟩) := by unfold Hid sameB; simp [hn, hm]
        have HM := hide hm
        rw [← hm]
        clear hm
        go_enter Try.func74, Try.ntmps74
        go_wp2_with fail
        go_loopw [23] (fun i wr => SaInv w l m a a2 c c2 i wr) (fun i wr => l.length - (intOf i).toNat)
        case atStart => exact ⟨0, Nat.zero_le _, rfl, by simp [eqL], below2 _ _, by simp, by simp, by simp⟩
        case round =>
          obtain ⟨k, hk, rfl, hq, hb, hc1, hc2, hsz⟩ := hrel
          have HQ := hide hq
          clear hq
          by_cases hlt : k < l.length
          · obtain ⟨b, o, a', c', rfl, d0, d1, hx⟩ := hs.get hb (fun _ _ h => h) k hlt
            obtain ⟨b2, o2, a2', c2', rfl, e0, e1, hx2⟩ := hs2.get hb (fun _ _ h => h) k (by have := HM.out; omega)
            have hltm : k < m.length := by have := HM.out; omega
            have HX := hide hx
            have HX2 := hide hx2
            have HB := hide hb
            have HS0 := hide (And.intro hc1 (And.intro hc2 (And.intro d0 (And.intro d1 (And.intro e0 e1)))))
            have IHK := hide (fun (w' : World) => IH.out l[k] (List.getElem_mem hlt) m[k] (.agg #[.string l[k].name, .slice a' l[k].args.length c']) (.agg #[.string m[k].name, .slice a2' m[k].args.length c2']) w' X Y)
            have HT := hide (eqL_take hlt hltm)
            have HNO := hide (eqL_no hlt HM.out)
            clear hx hx2 hb
            generalize l[k] = y at *
            generalize m[k] = z at *
            go_wp2_with fail
            cases hsm : sameB y z with
            | true =>
              rw [hsm] at IHK HT
              go_region_held3 (fun w' => w'.cell? ⟨w.heap.size, 1, none⟩ = some (.slice (some ⟨b, o, none⟩) l.length c) ∧ w'.cell? ⟨w.heap.size + 1, 1, none⟩ = some (.slice (some ⟨b2, o2, none⟩) l.length c2) ∧ w'.cell? ⟨b, o + k * 2, none⟩ = some (.string y.name) ∧ w'.cell? ⟨b, o + k * 2 + 1, none⟩ = some (.slice a' y.args.length c') ∧ w'.cell? ⟨b2, o2 + k * 2, none⟩ = some (.string z.name) ∧ w'.cell? ⟨b2, o2 + k * 2 + 1, none⟩ = some (.slice a2' z.args.length c2')) (first | exact HS0.out | exact hS1 | go_keep)
                ((go_at_call 74; refine (IHK.out _ (by exact HX.out.later (below_drewN (Below.refl _ _) 1)) (by exact HX2.out.later (below_drewN (Below.refl _ _) 1))).mono ?_; rintro e w1 ⟨rfl, hb1⟩; have hS1 := same_cells (n := 1) hb1 HS0.out))
              go_wp2_with fail
              go_roundw
              case rel => exact ⟨k + 1, by omega, by go_num, by rw [HT.out, HQ.out]; rfl, (HB.out.trans (below_drewN (Below.refl _ _) 1)).trans (hb1.mono (by simp; omega)), hS1.1, hS1.2.1, by have := hb1.size; simp at this; omega⟩
              case measure => simp [intOf]; omega
            | false =>
              have HF : Hid (false = sameB ⟨s, l⟩ ⟨s2, m⟩) := by unfold Hid; rw [← HR.out, HNO.out hsm]
              rw [hsm] at IHK
              go_region_held3 (fun w' => w'.cell? ⟨w.heap.size, 1, none⟩ = some (.slice (some ⟨b, o, none⟩) l.length c) ∧ w'.cell? ⟨w.heap.size + 1, 1, none⟩ = some (.slice (some ⟨b2, o2, none⟩) l.length c2) ∧ w'.cell? ⟨b, o + k * 2, none⟩ = some (.string y.name) ∧ w'.cell? ⟨b, o + k * 2 + 1, none⟩ = some (.slice a' y.args.length c') ∧ w'.cell? ⟨b2, o2 + k * 2, none⟩ = some (.string z.name) ∧ w'.cell? ⟨b2, o2 + k * 2 + 1, none⟩ = some (.slice a2' z.args.length c2')) (first | exact HS0.out | exact hS1 | go_keep)
                ((go_at_call 74; refine (IHK.out _ (by exact HX.out.later (below_drewN (Below.refl _ _) 1)) (by exact HX2.out.later (below_drewN (Below.refl _ _) 1))).mono ?_; rintro e w1 ⟨rfl, hb1⟩; have hS1 := same_cells (n := 1) hb1 HS0.out))
              go_wp2_with fail
              go_ret
              exact ⟨ret_bool HF.out, (HB.out.trans (below_drewN (Below.refl _ _) 1)).trans (hb1.mono (by simp; omega))⟩
          · have HF : Hid (true = sameB ⟨s, l⟩ ⟨s2, m⟩) := by
              unfold Hid
              rw [← HR.out, ← HQ.out, List.take_of_length_le (by omega), List.take_of_length_le (by have := HM.out; omega)]
            go_wp2_with fail
            go_ret
            exact ⟨ret_bool HF.out, hb⟩
      · have HR : Hid (false = sameB ⟨s, l⟩ ⟨s2, m⟩) := by unfold Hid sameB; simp [hn, hm]
        have hm2 : ((l.length : Int) == (m.length : Int)) = false := beq_eq_false_iff_ne.2 (by omega)
        clear hm
        go_enter Try.func74, Try.ntmps74
        go_wp2_with fail
        go_ret
        exact ⟨ret_bool HR.out, below2 _ _⟩
#print axioms sameK_all
end Go.Proofs.Ytpjdkdebjkpmmab

/- Walks: has a term another one's symbols, wherever that has some? -/
namespace Go.Proofs.Ytpjdkdebjkpmmab
open Go.RowKit
set_option linter.unusedSimpArgs false
set_option linter.unusedVariables false
set_option maxRecDepth 8000

/-- A term lies where a pointer points. -/
def PtT (w : World) (X : Nat → Prop) (b o : Nat) (t : Tm) : Prop := ∃ a c, w.cell? ⟨b, o, none⟩ = some (.string t.name) ∧ w.cell? ⟨b, o + 1, none⟩ = some (.slice a t.args.length c) ∧ Sl w X a t.args ∧ b < w.heap.size
theorem PtT.later {w w' : World} {X : Nat → Prop} {b o : Nat} {t : Tm} (h : PtT w X b o t) (hb : Below w.heap.size w w') : PtT w' X b o t := by
  obtain ⟨a, c, h1, h2, h3, h4⟩ := h
  exact ⟨a, c, (hb.cell (p := ⟨b, o, none⟩) h4).trans h1, (hb.cell (p := ⟨b, o + 1, none⟩) h4).trans h2, h3.later hb, Nat.lt_of_lt_of_le h4 hb.size⟩
theorem PtT.lt {w : World} {X : Nat → Prop} {b o : Nat} {t : Tm} (h : PtT w X b o t) : b < w.heap.size := by
  obtain ⟨a, c, h1, h2, h3, h4⟩ := h
  exact h4
theorem PtT.sub {w : World} {X : Nat → Prop} {b o : Nat} {t : Tm} (h : PtT w X b o t) : ∃ a c, w.cell? ⟨b, o + 1, none⟩ = some (.slice a t.args.length c) ∧ ∀ k (hk : k < t.args.length), ∃ b' o', a = some ⟨b', o', none⟩ ∧ PtT w X b' (o' + k * 2) t.args[k] := by
  obtain ⟨a, c, h1, h2, h3, h4⟩ := h
  refine ⟨a, c, h2, fun k hk => ?_⟩
  obtain ⟨b', o', a', c', rfl, d0, d1, hx⟩ := h3.get (Below.refl _ _) (fun _ _ h => h) k hk
  obtain ⟨a2, c2, e2, hx⟩ := hx
  cases e2
  exact ⟨b', o', rfl, a', c', d0, d1, hx, cell_lt d0⟩

def ShInv (w : World) (l m : List Tm) (i : Value) (wr : World) : Prop :=
  ∃ k : Nat, k ≤ l.length ∧ i = .int .i64 (k : Int) ∧ (∀ j (h : j < l.length) (h2 : j < m.length), j < k → shT l[j] m[j] = true) ∧ Below w.heap.size w wr

set_option maxHeartbeats 1000000 in
theorem isShaped_any (X : Nat → Prop) (p : Tm) : ∀ (t : Tm) (b o b2 o2 : Nat) (w : World), PtT w X b o p → PtT w X b2 o2 t →
    Calls Try.prog 72 #[.pointer (some ⟨b, o, none⟩), .pointer (some ⟨b2, o2, none⟩)] w fun e w' => e = .returned (.bool (shT p t)) ∧ Below w.heap.size w w' := by
  induction p using Tm.ind with
  | h s l ih =>
    intro t b o b2 o2 w hp ht
    obtain ⟨s2, m⟩ := t
    have IH := hide ih
    have HP := hide hp
    have HT := hide ht
    obtain ⟨a, c, p0, p1, hs, hbl⟩ := hp
    obtain ⟨a2, c2, t0, t1, hs2, hbl2⟩ := ht
    dsimp only at p0 p1 hs t0 t1 hs2 ⊢
    have hl := hs.1
    have hl2 := hs2.1
    clear ih hs hs2
    cases hvb : varB s with
    | true =>
      have HR := hide (shT_var (l := l) (t := ⟨s2, m⟩) hvb)
      go_enter Try.func72, Try.ntmps72
      go_wp2_with (go_at_call 68; refine (isVariable_all _ _).mono ?_; rintro e w ⟨rfl, rfl⟩; rw [hvb])
      refine bodyPost_ret (v := .bool true) (by simp [results, Try.results72, go_sem]) rfl ?_
      exact ⟨by rw [HR.out], Below.refl _ _⟩
    | false =>
      have HVB := hide hvb
      cases hn : (s.toList == s2.toList) with
      | false =>
        have HR : Hid (shT ⟨s, l⟩ ⟨s2, m⟩ = false) := by unfold Hid; rw [shT_deep hvb, hn]; rfl
        go_enter Try.func72, Try.ntmps72
        have HS0 := hide (And.intro p0 (And.intro p1 (And.intro t0 t1)))
        go_wp2_with (go_at_call 68; refine (isVariable_all _ _).mono ?_; rintro e w ⟨rfl, rfl⟩; rw [hvb])
        refine wp_region_held_drew (S := fun w' => w'.cell? ⟨b, o, none⟩ = some (.string s) ∧ w'.cell? ⟨b, o + 1, none⟩ = some (.slice a l.length c) ∧ w'.cell? ⟨b2, o2, none⟩ = some (.string s2) ∧ w'.cell? ⟨b2, o2 + 1, none⟩ = some (.slice a2 m.length c2)) (by kernel_rfl) HS0.out (fun hHeld => ?_)
        refine wpAnyH_take (i := 0) (v := ?_) rfl (by kernel_rfl) (by kernel_rfl) (by kernel_rfl) (fun _ _ _ h => h) (Or.inl ⟨by rfl, ?_⟩) (by assumption) ?_
        rotate_left
        · intro w' hSw
          obtain ⟨k1, k2, k3, k4⟩ := hSw
          go_simp <;> with_reducible rfl
        try simp only [Act.put, List.setIfInBounds_toArray, List.set_cons_zero, List.set_cons_succ, List.getElem_toArray, List.getElem_cons_succ, List.getElem_cons_zero]
        refine wpAnyH_take (i := 1) (v := ?_) rfl (by kernel_rfl) (by kernel_rfl) (by kernel_rfl) (fun _ _ _ h => h) (Or.inl ⟨by rfl, ?_⟩) (by assumption) ?_
        rotate_left
        · intro w' hSw
          obtain ⟨k1, k2, k3, k4⟩ := hSw
          go_simp <;> with_reducible rfl
        try simp only [Act.put, List.setIfInBounds_toArray, List.set_cons_zero, List.set_cons_succ, List.getElem_toArray, List.getElem_cons_succ, List.getElem_cons_zero]
        refine wpAnyH_take (i := 2) (v := ?_) rfl (by kernel_rfl) (by kernel_rfl) (by kernel_rfl) (fun _ _ _ h => h) (Or.inl ⟨by rfl, ?_⟩) (by assumption) ?_
        rotate_left
        · intro w' hSw
          obtain ⟨k1, k2, k3, k4⟩ := hSw
          go_simp <;> with_reducible rfl
        try simp only [Act.put, List.setIfInBounds_toArray, List.set_cons_zero, List.set_cons_succ, List.getElem_toArray, List.getElem_cons_succ, List.getElem_cons_zero]
        refine wpAnyH_take (i := 3) (v := ?_) rfl (by kernel_rfl) (by kernel_rfl) (by kernel_rfl) (fun _ _ _ h => h) (Or.inl ⟨by rfl, ?_⟩) (by assumption) ?_
        rotate_left
        · intro w' hSw
          obtain ⟨k1, k2, k3, k4⟩ := hSw
          go_simp <;> with_reducible rfl
        try simp only [Act.put, List.setIfInBounds_toArray, List.set_cons_zero, List.set_cons_succ, List.getElem_toArray, List.getElem_cons_succ, List.getElem_cons_zero]
        refine wpAnyH_take (i := 4) (v := ?_) rfl (by kernel_rfl) (by kernel_rfl) (by kernel_rfl) (fun _ _ _ h => h) (Or.inl ⟨by rfl, ?_⟩) (by assumption) ?_
        rotate_left
        · intro w' hSw
          obtain ⟨k1, k2, k3, k4⟩ := hSw
          go_simp <;> with_reducible rfl
        try simp only [Act.put, List.setIfInBounds_toArray, List.set_cons_zero, List.set_cons_succ, List.getElem_toArray, List.getElem_cons_succ, List.getElem_cons_zero]
        refine wpAnyH_take (i := 5) (v := ?_) rfl (by kernel_rfl) (by kernel_rfl) (by kernel_rfl) (fun _ _ _ h => h) (Or.inl ⟨by rfl, ?_⟩) (by assumption) ?_
        rotate_left
        · intro w' hSw
          obtain ⟨k1, k2, k3, k4⟩ := hSw
          go_simp <;> with_reducible rfl
        try simp only [Act.put, List.setIfInBounds_toArray, List.set_cons_zero, List.set_cons_succ, List.getElem_toArray, List.getElem_cons_succ, List.getElem_cons_zero]
        refine wpAnyH_take (i := 6) (v := ?_) rfl (by kernel_rfl) (by kernel_rfl) (by kernel_rfl) (fun _ _ _ h => h) (Or.inl ⟨by rfl, ?_⟩) (by assumption) ?_
        rotate_left
        · intro w' hSw
          obtain ⟨k1, k2, k3, k4⟩ := hSw
          go_simp <;> with_reducible rfl
        try simp only [Act.put, List.setIfInBounds_toArray, List.set_cons_zero, List.set_cons_succ, List.getElem_toArray, List.getElem_cons_succ, List.getElem_cons_zero]
        refine wpAnyH_take (i := 7) (v := ?_) rfl (by kernel_rfl) (by kernel_rfl) (by kernel_rfl) (fun _ _ _ h => h) (Or.inl ⟨by rfl, ?_⟩) (by assumption) ?_
        rotate_left
        · intro w' hSw
          obtain ⟨k1, k2, k3, k4⟩ := hSw
          go_simp <;> with_reducible rfl
        try simp only [Act.put, List.setIfInBounds_toArray, List.set_cons_zero, List.set_cons_succ, List.getElem_toArray, List.getElem_cons_succ, List.getElem_cons_zero]
        refine wpAnyH_take (i := 8) (v := ?_) rfl (by kernel_rfl) (by kernel_rfl) (by kernel_rfl) (fun _ _ _ h => h) (Or.inl ⟨by rfl, ?_⟩) (by assumption) ?_
        rotate_left
        · intro w' hSw
          obtain ⟨k1, k2, k3, k4⟩ := hSw
          go_simp <;> with_reducible rfl
        try simp only [Act.put, List.setIfInBounds_toArray, List.set_cons_zero, List.set_cons_succ, List.getElem_toArray, List.getElem_cons_succ, List.getElem_cons_zero]
        refine wpAnyH_take (i := 9) (v := ?_) rfl (by kernel_rfl) (by kernel_rfl) (by kernel_rfl) (fun _ _ _ h => h) (Or.inl ⟨by rfl, ?_⟩) (by assumption) ?_
        rotate_left
        · intro w' hSw
          obtain ⟨k1, k2, k3, k4⟩ := hSw
          go_simp <;> with_reducible rfl
        try simp only [Act.put, List.setIfInBounds_toArray, List.set_cons_zero, List.set_cons_succ, List.getElem_toArray, List.getElem_cons_succ, List.getElem_cons_zero]
        refine wpAnyH_take (i := 10) (v := undef) rfl (by kernel_rfl) (by kernel_rfl) (by kernel_rfl) (fun _ _ _ h => h) (Or.inr ⟨by rfl, rfl⟩) (by assumption) ?_
        try simp only [Act.put, List.setIfInBounds_toArray, List.set_cons_zero, List.set_cons_succ, List.getElem_toArray, List.getElem_cons_succ, List.getElem_cons_zero]
        refine wpAnyH_take (i := 11) (v := undef) rfl (by kernel_rfl) (by kernel_rfl) (by kernel_rfl) (fun _ _ _ h => h) (Or.inr ⟨by rfl, rfl⟩) (by assumption) ?_
        try simp only [Act.put, List.setIfInBounds_toArray, List.set_cons_zero, List.set_cons_succ, List.getElem_toArray, List.getElem_cons_succ, List.getElem_cons_zero]
        refine wpAnyH_take (i := 12) (v := undef) rfl (by kernel_rfl) (by kernel_rfl) (by kernel_rfl) (fun _ _ _ h => h) (Or.inr ⟨by rfl, rfl⟩) (by assumption) ?_
        try simp only [Act.put, List.setIfInBounds_toArray, List.set_cons_zero, List.set_cons_succ, List.getElem_toArray, List.getElem_cons_succ, List.getElem_cons_zero]
        refine wpAnyH_take (i := 13) (v := undef) rfl (by kernel_rfl) (by kernel_rfl) (by kernel_rfl) (fun _ _ _ h => h) (Or.inr ⟨by rfl, rfl⟩) (by assumption) ?_
        try simp only [Act.put, List.setIfInBounds_toArray, List.set_cons_zero, List.set_cons_succ, List.getElem_toArray, List.getElem_cons_succ, List.getElem_cons_zero]
        refine wpAnyH_take (i := 14) (v := undef) rfl (by kernel_rfl) (by kernel_rfl) (by kernel_rfl) (fun _ _ _ h => h) (Or.inr ⟨by rfl, rfl⟩) (by assumption) ?_
        try simp only [Act.put, List.setIfInBounds_toArray, List.set_cons_zero, List.set_cons_succ, List.getElem_toArray, List.getElem_cons_succ, List.getElem_cons_zero]
        refine wpAnyH_take (i := 15) (v := undef) rfl (by kernel_rfl) (by kernel_rfl) (by kernel_rfl) (fun _ _ _ h => h) (Or.inr ⟨by rfl, rfl⟩) (by assumption) ?_
        try simp only [Act.put, List.setIfInBounds_toArray, List.set_cons_zero, List.set_cons_succ, List.getElem_toArray, List.getElem_cons_succ, List.getElem_cons_zero]
        refine wpAnyH_take (i := 16) (v := undef) rfl (by kernel_rfl) (by kernel_rfl) (by kernel_rfl) (fun _ _ _ h => h) (Or.inr ⟨by rfl, rfl⟩) (by assumption) ?_
        try simp only [Act.put, List.setIfInBounds_toArray, List.set_cons_zero, List.set_cons_succ, List.getElem_toArray, List.getElem_cons_succ, List.getElem_cons_zero]
        refine wpAnyH_take (i := 17) (v := undef) rfl (by kernel_rfl) (by kernel_rfl) (by kernel_rfl) (fun _ _ _ h => h) (Or.inr ⟨by rfl, rfl⟩) (by assumption) ?_
        try simp only [Act.put, List.setIfInBounds_toArray, List.set_cons_zero, List.set_cons_succ, List.getElem_toArray, List.getElem_cons_succ, List.getElem_cons_zero]
        refine wpAnyH_take (i := 18) (v := undef) rfl (by kernel_rfl) (by kernel_rfl) (by kernel_rfl) (fun _ _ _ h => h) (Or.inr ⟨by rfl, rfl⟩) (by assumption) ?_
        try simp only [Act.put, List.setIfInBounds_toArray, List.set_cons_zero, List.set_cons_succ, List.getElem_toArray, List.getElem_cons_succ, List.getElem_cons_zero]
        refine wpAnyH_take (i := 19) (v := undef) rfl (by kernel_rfl) (by kernel_rfl) (by kernel_rfl) (fun _ _ _ h => h) (Or.inr ⟨by rfl, rfl⟩) (by assumption) ?_
        try simp only [Act.put, List.setIfInBounds_toArray, List.set_cons_zero, List.set_cons_succ, List.getElem_toArray, List.getElem_cons_succ, List.getElem_cons_zero]
        refine wpAnyH_take (i := 20) (v := undef) rfl (by kernel_rfl) (by kernel_rfl) (by kernel_rfl) (fun _ _ _ h => h) (Or.inr ⟨by rfl, rfl⟩) (by assumption) ?_
        try simp only [Act.put, List.setIfInBounds_toArray, List.set_cons_zero, List.set_cons_succ, List.getElem_toArray, List.getElem_cons_succ, List.getElem_cons_zero]
        refine wpAnyH_take (i := 21) (v := ?_) rfl (by kernel_rfl) (by kernel_rfl) (by kernel_rfl) (fun _ _ _ h => h) (Or.inl ⟨by rfl, ?_⟩) (by assumption) ?_
        rotate_left
        · intro w' hSw
          obtain ⟨k1, k2, k3, k4⟩ := hSw
          go_simp <;> with_reducible rfl
        try simp only [Act.put, List.setIfInBounds_toArray, List.set_cons_zero, List.set_cons_succ, List.getElem_toArray, List.getElem_cons_succ, List.getElem_cons_zero]
        refine wpAnyH_done (by kernel_rfl) ?_ _
        go_wp2_with fail
        refine bodyPost_ret (v := .bool false) (by simp [results, Try.results72, go_sem]) rfl ?_
        exact ⟨by rw [HR.out], (Below.refl _ _).drew⟩
      | true =>
        by_cases hm : l.length = m.length
        case neg =>
          have HR : Hid (shT ⟨s, l⟩ ⟨s2, m⟩ = false) := by unfold Hid; rw [shT_deep hvb, hn]; simp [hm]
          have hm2 : ((l.length : Int) == (m.length : Int)) = false := beq_eq_false_iff_ne.2 (by omega)
          have hm3 : ((l.length : Int) != (m.length : Int)) = true := by simp [bne, hm2]
          clear hm
          go_enter Try.func72, Try.ntmps72
          have HS0 := hide (And.intro p0 (And.intro p1 (And.intro t0 t1)))
          go_wp2_with (go_at_call 68; refine (isVariable_all _ _).mono ?_; rintro e w ⟨rfl, rfl⟩; rw [hvb])
          go_region_held3 (fun w' => w'.cell? ⟨b, o, none⟩ = some (.string s) ∧ w'.cell? ⟨b, o + 1, none⟩ = some (.slice a l.length c) ∧ w'.cell? ⟨b2, o2, none⟩ = some (.string s2) ∧ w'.cell? ⟨b2, o2 + 1, none⟩ = some (.slice a2 m.length c2)) (first | exact HS0.out | go_keep) (fail)
          go_wp2_with fail
          refine bodyPost_ret (v := .bool false) (by simp [results, Try.results72, go_sem]) rfl ?_
          exact ⟨by rw [HR.out], (Below.refl _ _).drew⟩
        case pos =>
          have HR : Hid (shT ⟨s, l⟩ ⟨s2, m⟩ = shL l m) := by unfold Hid; rw [shT_deep hvb, hn]; simp [hm]
          have HLM := hide hm
          rw [← hm] at t1 hl2
          clear hm
          go_enter Try.func72, Try.ntmps72
          have HS0 := hide (And.intro p0 (And.intro p1 (And.intro t0 t1)))
          go_wp2_with (go_at_call 68; refine (isVariable_all _ _).mono ?_; rintro e w ⟨rfl, rfl⟩; rw [hvb])
          go_region_held3 (fun w' => w'.cell? ⟨b, o, none⟩ = some (.string s) ∧ w'.cell? ⟨b, o + 1, none⟩ = some (.slice a l.length c) ∧ w'.cell? ⟨b2, o2, none⟩ = some (.string s2) ∧ w'.cell? ⟨b2, o2 + 1, none⟩ = some (.slice a2 l.length c2)) (first | exact HS0.out | go_keep) (fail)
          go_wp2_with fail
          go_loopw [38] (fun i wr => ShInv w l m i wr) (fun i wr => l.length - (intOf i).toNat)
          case atStart => exact ⟨0, Nat.zero_le _, rfl, fun j _ _ h => absurd h (by omega), (Below.refl _ _).drew⟩
          case round =>
            obtain ⟨k, hk, rfl, hT, hB⟩ := hrel
            have HTK := hide hT
            have HB := hide hB
            have HPK := hide (HP.out.later hB)
            have HTT := hide (HT.out.later hB)
            clear hT hB
            by_cases hlt : k < l.length
            · have hltm : k < m.length := by have := HLM.out; omega
              obtain ⟨a', c', q1, hsub⟩ := HPK.out.sub
              obtain ⟨b', o', rfl, hx⟩ := hsub k hlt
              obtain ⟨a2', c2', r1, hsub2⟩ := HTT.out.sub
              obtain ⟨b2', o2', rfl, hx2⟩ := hsub2 k hltm
              dsimp only at q1 r1 hx hx2
              rw [← HLM.out] at r1
              have hk2 : (k : Int) < (l.length : Int) := by omega
              have HS1 := hide (And.intro q1 r1)
              have HI : Hid (Calls Try.prog 72 #[.pointer (some ⟨b', o' + k * 2, none⟩), .pointer (some ⟨b2', o2' + k * 2, none⟩)] wr.drew fun e w' => e = .returned (.bool (shT l[k] m[k])) ∧ Below wr.drew.heap.size wr.drew w') := IH.out l[k] (List.getElem_mem hlt) m[k] b' (o' + k * 2) b2' (o2' + k * 2) wr.drew (hx.later ((Below.refl _ _).drew)) (hx2.later ((Below.refl _ _).drew))
              have HNO := hide (fun h0 => shL_no HLM.out hlt hltm h0)
              have HNX : Hid (shT l[k] m[k] = true → ∀ j (h : j < l.length) (h2 : j < m.length), j < k + 1 → shT l[j] m[j] = true) := fun h0 j h h2 hj => by
                by_cases e : j = k
                · subst e; exact h0
                · exact HTK.out j h h2 (by omega)
              have hkp : ∀ w5, Below wr.drew.heap.size wr.drew w5 → w5.cell? ⟨b, o + 1, none⟩ = some (.slice (some ⟨b', o', none⟩) l.length c') ∧ w5.cell? ⟨b2, o2 + 1, none⟩ = some (.slice (some ⟨b2', o2', none⟩) l.length c2') := fun w5 h5 => ⟨(h5.cell (p := ⟨b, o + 1, none⟩) (HPK.out.lt)).trans HS1.out.1, (h5.cell (p := ⟨b2, o2 + 1, none⟩) (HTT.out.lt)).trans HS1.out.2⟩
              have HKP := hide hkp
              clear hsub hsub2 hx hx2 hkp
              generalize shT l[k] m[k] = y at *
              go_wp2_with fail
              go_region_held3 (fun w' => w'.cell? ⟨b, o + 1, none⟩ = some (.slice (some ⟨b', o', none⟩) l.length c') ∧ w'.cell? ⟨b2, o2 + 1, none⟩ = some (.slice (some ⟨b2', o2', none⟩) l.length c2')) (first | exact HS1.out | exact hS5 | go_keep)
                ((go_at_call 72; refine HI.out.mono ?_; rintro e w5 ⟨rfl, hb5⟩; have hS5 := HKP.out w5 hb5))
              have HB5 := hide (HB.out.trans (((Below.refl _ _).drew.trans hb5).mono HB.out.size))
              clear hb5 hS5
              cases y with
              | false =>
                have HF := hide (HR.out.trans (HNO.out rfl))
                go_wp2_with fail
                refine bodyPost_ret (v := .bool false) (by simp [results, Try.results72, go_sem]) rfl ?_
                exact ⟨by rw [HF.out], HB5.out⟩
              | true =>
                go_wp2_with fail
                go_roundw
                case rel => exact ⟨k + 1, by omega, by go_num, HNX.out rfl, HB5.out⟩
                case measure => simp [intOf]; omega
            · have HF : Hid (shT ⟨s, l⟩ ⟨s2, m⟩ = true) := by
                unfold Hid
                rw [HR.out, shL_iff l m HLM.out]
                exact fun j h h2 => HTK.out j h h2 (by omega)
              go_wp2_with fail
              refine bodyPost_ret (v := .bool true) (by simp [results, Try.results72, go_sem]) rfl ?_
              exact ⟨by rw [HF.out], HB.out⟩
#print axioms isShaped_any
end Go.Proofs.Ytpjdkdebjkpmmab

/- Walks: what stands for a variable at last. -/
namespace Go.Proofs.Ytpjdkdebjkpmmab
open Go.RowKit
set_option linter.unusedSimpArgs false
set_option linter.unusedVariables false
set_option maxRecDepth 8000

/-- A term lies where a pointer points, and that is memory that X lets. -/
def PX (w : World) (X : Nat → Prop) (b o : Nat) (t : Tm) : Prop := PtT w X b o t ∧ X b
theorem PX.exq {w w' : World} {X Q : Nat → Prop} {b o : Nat} {t : Tm} (h : PX w X b o t) (he : ExQ Q w w') (hX : ∀ b, X b → ¬ Q b) : PX w' X b o t := by
  obtain ⟨⟨a, c, h1, h2, h3, h4⟩, h5⟩ := h
  have e := he.block b h4 (hX b h5)
  exact ⟨⟨a, c, (World.cell?_of_block e).trans h1, (World.cell?_of_block e).trans h2, h3.exq he hX, Nat.lt_of_lt_of_le h4 he.size⟩, h5⟩
theorem PX.sub {w : World} {X : Nat → Prop} {b o : Nat} {t : Tm} (h : PX w X b o t) : ∃ a c, w.cell? ⟨b, o + 1, none⟩ = some (.slice a t.args.length c) ∧ t.args.length ≤ 9223372036854775807 ∧ ∀ k (hk : k < t.args.length), ∃ b' o', a = some ⟨b', o', none⟩ ∧ PX w X b' (o' + k * 2) t.args[k] := by
  obtain ⟨⟨a, c, h1, h2, h3, h4⟩, _⟩ := h
  refine ⟨a, c, h2, h3.1, fun k hk => ?_⟩
  obtain ⟨b', o', a', c', rfl, d0, d1, hx⟩ := h3.get (Below.refl _ _) (fun _ _ h => h) k hk
  obtain ⟨a2, c2, e2, hx⟩ := hx
  cases e2
  have hX : X b' := by
    obtain ⟨_, h1⟩ := h3
    rcases h1 with h1 | ⟨b2, o2, e', h1⟩
    · rw [h1] at hk; simp at hk
    · cases e'; exact (lies_get _ _ _ h1 k hk).1
  exact ⟨b', o', rfl, ⟨a', c', d0, d1, hx, cell_lt d0⟩, hX⟩
def ptZ (z : Zp) : ByteArray × Value := (z.nm, .pointer (some ⟨z.b, z.o, none⟩))
/-- A sketch: what stands for variables, and how much may be looked at. -/
def SkS (w : World) (S q : Nat) (X : Nat → Prop) (Z : List Zp) (left : Int) : Prop :=
  Blk w S #[.map (some q), .int .i64 left] 101 ∧ MapAt w q (Z.map ptZ) ∧ (∀ z ∈ Z, PX w X z.b z.o z.t) ∧ ∀ b, X b → b ≠ S ∧ b ≠ q
def SkQ (S q : Nat) : Nat → Prop := fun b => b = S ∨ b = q
theorem SkS.ne {w : World} {S q : Nat} {X : Nat → Prop} {Z : List Zp} {left : Int} (h : SkS w S q X Z left) : S ≠ q := fun e => by
  obtain ⟨es, clk, h1, _⟩ := h.2.1
  have h2 := h.1
  unfold Blk at h2
  rw [e, h1] at h2; cases h2
theorem SkS.X {w : World} {S q : Nat} {X : Nat → Prop} {Z : List Zp} {left : Int} (h : SkS w S q X Z left) : ∀ b, X b → ¬ SkQ S q b := fun b hb hq => by
  rcases hq with e | e
  · exact (h.2.2.2 b hb).1 e
  · exact (h.2.2.2 b hb).2 e
theorem SkS.later {w w' : World} {S q : Nat} {X : Nat → Prop} {Z : List Zp} {left : Int} (h : SkS w S q X Z left) (hb : Below w.heap.size w w') : SkS w' S q X Z left :=
  ⟨h.1.below hb h.1.lt, h.2.1.below hb h.2.1.lt, fun z hz => (h.2.2.1 z hz).exq (ExQ.ofBelow (Q := SkQ S q) hb) h.X, h.2.2.2⟩
theorem SkS.spend {w : World} {S q : Nat} {X : Nat → Prop} {Z : List Zp} {left : Int} (h : SkS w S q X Z left) (n : Int) : SkS (w.setCell ⟨S, 1, none⟩ (.int .i64 n)) S q X Z n :=
  ⟨by have := h.1.set 1 (.int .i64 n); simpa using this, h.2.1.kept (Below.heap_setCell _ _ _ _ (by simpa using h.ne.symm)), fun z hz => (h.2.2.1 z hz).exq ((ExQ.refl (SkQ S q) w).set (Or.inl rfl) 1 _) h.X, h.2.2.2⟩
theorem mapGet_ptZ {Z : List Zp} {n : ByteArray} : (mapGet (Z.map ptZ) n = none ∧ ∀ z ∈ Z, z.nm ≠ n) ∨ ∃ z ∈ Z, z.nm = n ∧ mapGet (Z.map ptZ) n = some (.pointer (some ⟨z.b, z.o, none⟩)) := by
  induction Z with
  | nil => exact Or.inl ⟨rfl, by simp⟩
  | cons y r ih =>
    by_cases hn : y.nm = n
    · exact Or.inr ⟨y, by simp, hn, by simp [mapGet, ptZ, hn]⟩
    · rcases ih with ⟨h1, h2⟩ | ⟨z, hz, h1, h2⟩
      · refine Or.inl ⟨by rw [List.map_cons, mapGet, if_neg (by simpa [ptZ] using hn)]; exact h1, fun z hz => ?_⟩
        rcases List.mem_cons.1 hz with rfl | hz
        · exact hn
        · exact h2 z hz
      · exact Or.inr ⟨z, by simp [hz], h1, by rw [List.map_cons, mapGet, if_neg (by simpa [ptZ] using hn)]; exact h2⟩

/-- Where a look ends. -/
def LkP (w : World) (S q : Nat) (X : Nat → Prop) (Z : List Zp) (left : Int) (t : Tm) (e : Ending) (w' : World) : Prop :=
  ∃ (b o : Nat) (t' : Tm) (n : Int), e = .returned (.pointer (some ⟨b, o, none⟩)) ∧ SkS w' S q X Z n ∧ PX w' X b o t' ∧ ExQ (SkQ S q) w w' ∧ n ≤ left ∧ (-1 ≤ n ∨ n = left) ∧ errL [t'] = 0 ∧ ∀ s, Clo Z s → onT s t' = onT s t ∧ (0 ≤ n → Free s t')
def LkI (w : World) (S q : Nat) (X : Nat → Prop) (Z : List Zp) (left : Int) (t : Tm) (g : Nat) (tv : Value) (wr : World) : Prop :=
  ∃ (b o : Nat) (t' : Tm) (n : Int), g = (n + 1).toNat ∧ tv = .pointer (some ⟨b, o, none⟩) ∧ SkS wr S q X Z n ∧ PX wr X b o t' ∧ ExQ (SkQ S q) w wr ∧ n ≤ left ∧ (-1 ≤ n ∨ n = left) ∧ errL [t'] = 0 ∧ ∀ s, Clo Z s → onT s t' = onT s t

set_option maxHeartbeats 1000000 in
theorem skLook_any (S q : Nat) (X : Nat → Prop) (Z : List Zp) (hZ : ∀ z ∈ Z, errL [z.t] = 0) (left : Int) (t : Tm) (b o : Nat) (w : World) (hS : SkS w S q X Z left) (hl : -100 ≤ left) (hl2 : left ≤ 100000) (ht : PX w X b o t) (he : errL [t] = 0) :
    Calls Try.prog 99 #[.pointer (some ⟨S, 0, none⟩), .pointer (some ⟨b, o, none⟩)] w fun e w' => LkP w S q X Z left t e w' := by
  have HS := hide hS
  have HT := hide ht
  have HE := hide he
  clear hS ht
  go_enter Try.func99, Try.ntmps99
  go_wp2_with fail
  go_loopg [1] (left + 1).toNat (fun g tv wr => LkI w S q X Z left t g tv wr)
  case atStart => exact ⟨b, o, t, left, rfl, rfl, HS.out, HT.out, ExQ.refl _ _, Int.le_refl _, Or.inr rfl, HE.out, fun _ _ => rfl⟩
  case round =>
    obtain ⟨b1, o1, t1, n, rfl, rfl, hS1, hP1, hE1, hn1, hn2, he1, hc1⟩ := hrel
    have HS1 := hide hS1
    have HP1 := hide hP1
    have HE1 := hide hE1
    have HC1 := hide hc1
    have s1 : wr.cell? ⟨S, 1, none⟩ = some (.int .i64 n) := hS1.1.cell 1
    have s0 : wr.cell? ⟨S, 0, none⟩ = some (.map (some q)) := hS1.1.cell 0
    obtain ⟨⟨a1, c1, p0, p1, hsl, hbl⟩, hXb⟩ := hP1
    clear hS1 hE1 hc1
    by_cases hn0 : 0 ≤ n
    · cases hvb : varB t1.name with
      | false =>
        have HF : Hid (∀ s, Clo Z s → onT s t1 = onT s t ∧ (0 ≤ n → Free s t1)) := fun s hs => ⟨HC1.out s hs, fun _ => ⟨he1, fun h => by rw [hvb] at h; cases h⟩⟩
        go_wp2_with (go_at_call 68; refine (isVariable_all _ _).mono ?_; rintro e wr ⟨rfl, rfl⟩; rw [hvb])
        refine bodyPost_ret (v := .pointer (some ⟨b1, o1, none⟩)) (by simp [results, Try.results99, go_sem]) rfl ?_
        exact ⟨b1, o1, t1, n, rfl, HS1.out, HP1.out, HE1.out, hn1, hn2, he1, HF.out⟩
      | true =>
        have hz : ∀ w', (zeroValue 93).run Try.prog w' = .ok (.pointer none) w' := fun w' => Try.zeroValue93 w'
        have HS0 := hide (And.intro s0 p0)
        rcases mapGet_ptZ (Z := Z) (n := t1.name) with ⟨hg, hno⟩ | ⟨z, hz1, hzn, hg⟩
        · have HF : Hid (∀ s, Clo Z s → onT s t1 = onT s t ∧ (0 ≤ n → Free s t1)) := fun s hs => ⟨HC1.out s hs, fun _ => ⟨he1, fun _ => hs.unbound hno⟩⟩
          have hlk : (Instr.lookup 99 (.map (some q)) (.string t1.name) true).run Try.prog wr.drew = .ok (.tuple #[.pointer none, .bool false]) wr.drew := by
            rw [run_look (P := Try.prog) Try.underlying99 Try.underlying9 (hz _) (show MapAt wr.drew q (Z.map ptZ) from HS1.out.2.1) t1.name, hg]; rfl
          clear hg hno
          go_wp2_with (go_at_call 68; refine (isVariable_all _ _).mono ?_; rintro e wr ⟨rfl, rfl⟩; rw [hvb])
          go_region_held3 (fun w' => w'.cell? ⟨S, 0, none⟩ = some (.map (some q)) ∧ w'.cell? ⟨b1, o1, none⟩ = some (.string t1.name)) (first | exact HS0.out | go_keep) (fail)
          go_wp2_with fail
          refine bodyPost_ret (v := .pointer (some ⟨b1, o1, none⟩)) (by simp [results, Try.results99, go_sem]) rfl ?_
          have hD : Below wr.heap.size wr wr.drew := (Below.refl _ _).drew
          exact ⟨b1, o1, t1, n, rfl, HS1.out.later hD, HP1.out.exq (ExQ.ofBelow (Q := SkQ S q) hD) HS1.out.X, HE1.out.drew, hn1, hn2, he1, HF.out⟩
        · have HF : Hid (∀ s, Clo Z s → onT s z.t = onT s t) := fun s hs => (hs.stands he1 hvb hz1 hzn).trans (HC1.out s hs)
          have HZ1 := hide hz1
          have hlk : (Instr.lookup 99 (.map (some q)) (.string t1.name) true).run Try.prog wr.drew = .ok (.tuple #[.pointer (some ⟨z.b, z.o, none⟩), .bool true]) wr.drew := by
            rw [run_look (P := Try.prog) Try.underlying99 Try.underlying9 (hz _) (show MapAt wr.drew q (Z.map ptZ) from HS1.out.2.1) t1.name, hg]; rfl
          have s1' : wr.drew.cell? ⟨S, 1, none⟩ = some (.int .i64 n) := s1
          have f1' : wr.drew.frozen? ⟨S, 1, none⟩ = false := HS1.out.1.frozen 1
          clear hg hz1 hzn
          go_wp2_with (go_at_call 68; refine (isVariable_all _ _).mono ?_; rintro e wr ⟨rfl, rfl⟩; rw [hvb])
          go_region_held3 (fun w' => w'.cell? ⟨S, 0, none⟩ = some (.map (some q)) ∧ w'.cell? ⟨b1, o1, none⟩ = some (.string t1.name)) (first | exact HS0.out | go_keep) (fail)
          have hwrap : IntKind.i64.wrap (n - 1) = n - 1 := by rw [IntKind.wrap_i64]; omega
          go_wp2_with fail
          have hD : Below wr.heap.size wr wr.drew := (Below.refl _ _).drew
          have hE2 : ExQ (SkQ S q) wr (wr.setCell ⟨S, 1, none⟩ (.int .i64 (n - 1))).drew := ((ExQ.refl (SkQ S q) wr).set (Or.inl rfl) 1 _).drew
          go_roundg ((n - 1) + 1).toNat
          case rel => exact ⟨z.b, z.o, z.t, n - 1, rfl, rfl, (HS1.out.spend (n - 1)).later ((Below.refl _ _).drew), (HS1.out.2.2.1 z HZ1.out).exq hE2 HS1.out.X, HE1.out.trans hE2, by omega, by omega, hZ z HZ1.out, HF.out⟩
          case measure => omega
    · go_wp2_with fail
      refine bodyPost_ret (v := .pointer (some ⟨b1, o1, none⟩)) (by simp [results, Try.results99, go_sem]) rfl ?_
      exact ⟨b1, o1, t1, n, rfl, HS1.out, HP1.out, HE1.out, hn1, hn2, he1, fun s hs => ⟨HC1.out s hs, fun h => absurd h (by omega)⟩⟩
#print axioms skLook_any
end Go.Proofs.Ytpjdkdebjkpmmab

/- Walks: does a variable stand in a term, with what stands for others? -/
namespace Go.Proofs.Ytpjdkdebjkpmmab
open Go.RowKit
set_option linter.unusedSimpArgs false
set_option linter.unusedVariables false
set_option maxRecDepth 8000

theorem Free.knot {s : List Bd} (hs : OkS s) {t : Tm} (h : Free s t) : onT s t = ⟨t.name, onL s t.args⟩ := by
  cases hv : varB t.name with
  | false => exact onT_knot hs hv
  | true =>
    rw [h.var hv]
    have e : t.args = [] := by rw [var_leaf h.1 hv]
    rw [e]
    simp [onL]
theorem occ_onL {s : List Bd} {x : ByteArray} : ∀ {l : List Tm}, occL x (onL s l) ↔ ∃ k, ∃ h : k < l.length, occL x [onT s l[k]]
  | [] => by
    simp only [onL]
    exact ⟨fun h => absurd h occL_nil, fun ⟨k, h, _⟩ => absurd h (by simp)⟩
  | t :: r => by
    rw [onL_cons, occL_cons, occ_onL (l := r)]
    constructor
    · rintro (h | ⟨k, hk, h⟩)
      · exact ⟨0, by simp, h⟩
      · exact ⟨k + 1, by simpa using hk, h⟩
    · rintro ⟨k, hk, h⟩
      cases k with
      | zero => exact Or.inl h
      | succ k => exact Or.inr ⟨k, by simpa using hk, h⟩
theorem err_at : ∀ {l : List Tm}, errL l = 0 → ∀ k (h : k < l.length), errL [l[k]] = 0
  | t :: r, he, 0, _ => (err_two.1 he).1
  | t :: r, he, k + 1, h => err_at (err_two.1 he).2 k (by simpa using h)
/-- What is known of the answer. -/
def HoP (w : World) (S q : Nat) (X : Nat → Prop) (Z : List Zp) (left : Int) (t : Tm) (x : ByteArray) (e : Ending) (w' : World) : Prop :=
  ∃ (r : Bool) (n : Int), e = .returned (.bool r) ∧ SkS w' S q X Z n ∧ ExQ (SkQ S q) w w' ∧ n < left ∧ -2 ≤ n ∧ (n < 0 → r = true) ∧ (0 ≤ n → ∀ s, Clo Z s → (∀ d ∈ s, d.nm ≠ x) → (r = true ↔ occL x [onT s t]))
def HoI (w : World) (S q : Nat) (X : Nat → Prop) (Z : List Zp) (left : Int) (b1 o1 : Nat) (t1 : Tm) (x : ByteArray) (i : Value) (wr : World) : Prop :=
  ∃ (k : Nat) (n : Int), k ≤ t1.args.length ∧ i = .int .i64 (k : Int) ∧ PX wr X b1 o1 t1 ∧ SkS wr S q X Z n ∧ ExQ (SkQ S q) w wr ∧ n < left ∧ 0 ≤ n ∧ ∀ s, Clo Z s → (∀ d ∈ s, d.nm ≠ x) → ∀ j (h : j < t1.args.length), j < k → ¬ occL x [onT s t1.args[j]]

set_option maxHeartbeats 2000000 in
theorem skHolds_any (S q : Nat) (X : Nat → Prop) (Z : List Zp) (hZ : ∀ z ∈ Z, errL [z.t] = 0) (x : ByteArray) (m : Nat) : ∀ (left : Int) (t : Tm) (b o : Nat) (w : World), left.toNat = m → 0 ≤ left → left ≤ 100000 → SkS w S q X Z left → PX w X b o t → errL [t] = 0 →
    Calls Try.prog 121 #[.pointer (some ⟨S, 0, none⟩), .pointer (some ⟨b, o, none⟩), .string x] w fun e w' => HoP w S q X Z left t x e w' := by
  induction m using Nat.strongRecOn with
  | _ m ih =>
    intro left t b o w hm h0 h1 hS hP he
    have IH := hide ih
    have HS := hide hS
    have HP := hide hP
    clear ih hS hP
    go_enter Try.func121, Try.ntmps121
    go_wp2_with fail
    refine (skLook_any S q X Z hZ left t b o w HS.out (by omega) h1 HP.out he).mono ?_
    rintro e w1 ⟨b1, o1, t1, n, rfl, hS1, hP1, hE1, hn1, hn2, he1, hc1⟩
    have HS1 := hide hS1
    have HP1 := hide hP1
    have HE1 := hide hE1
    have HC1 := hide hc1
    have s1 : w1.cell? ⟨S, 1, none⟩ = some (.int .i64 n) := hS1.1.cell 1
    have f1 : w1.frozen? ⟨S, 1, none⟩ = false := hS1.1.frozen 1
    have hwrap : IntKind.i64.wrap (n - 1) = n - 1 := by rw [IntKind.wrap_i64]; omega
    have hE2 : ExQ (SkQ S q) w1 (w1.setCell ⟨S, 1, none⟩ (.int .i64 (n - 1))) := (ExQ.refl (SkQ S q) w1).set (Or.inl rfl) 1 _
    have HE2 := hide (hE1.trans hE2)
    have HS2 := hide (hS1.spend (n - 1))
    have HP2 := hide (hP1.exq hE2 hS1.X)
    have HSX := hide hS1.X
    obtain ⟨⟨a1, c1, p0, p1, hsl, hbl⟩, hXb⟩ := HP2.out
    have hl1 := hsl.1
    clear hS1 hE1 hc1 hP1 hsl hE2
    by_cases hlt : n - 1 < 0
    · go_wp2_with fail
      refine bodyPost_ret (v := .bool true) (by simp [results, Try.results121, go_sem]) rfl ?_
      exact ⟨true, n - 1, rfl, HS2.out, HE2.out, by omega, by omega, fun _ => rfl, fun h => absurd h (by omega)⟩
    · have HFR : Hid (∀ s, Clo Z s → onT s t1 = onT s t ∧ onT s t1 = ⟨t1.name, onL s t1.args⟩) := fun s hs => ⟨(HC1.out s hs).1, ((HC1.out s hs).2 (by omega)).knot hs.1⟩
      cases hnm : (t1.name.toList == x.toList) with
      | true =>
        have hx : t1.name = x := bytes_inj (by simpa using hnm)
        go_wp2_with fail
        refine bodyPost_ret (v := .bool true) (by simp [results, Try.results121, go_sem]) rfl ?_
        refine ⟨true, n - 1, rfl, HS2.out, HE2.out, by omega, by omega, fun _ => rfl, fun _ s hs _ => ⟨fun _ => ?_, fun _ => rfl⟩⟩
        rw [← (HFR.out s hs).1, (HFR.out s hs).2, ← hx]
        exact occL_node.2 (Or.inl rfl)
      | false =>
        have HX : Hid (t1.name ≠ x) := fun e => by rw [e] at hnm; simp at hnm
        have HOC : Hid (∀ s, Clo Z s → (occL x [onT s t] ↔ ∃ k, ∃ h : k < t1.args.length, occL x [onT s t1.args[k]])) := fun s hs => by
          rw [← (HFR.out s hs).1, (HFR.out s hs).2, occL_node, occ_onL]
          exact ⟨fun h => h.elim (fun e => absurd e HX.out) (fun h => h.elim id fun h => absurd h occL_nil), fun h => Or.inr (Or.inl h)⟩
        have hea : errL t1.args = 0 := err_sub he1
        go_wp2_with fail
        go_loopw [36] (fun i wr => HoI w S q X Z left b1 o1 t1 x i wr) (fun i wr => t1.args.length - (intOf i).toNat)
        case atStart => exact ⟨0, n - 1, Nat.zero_le _, rfl, HP2.out, HS2.out, HE2.out, by omega, by omega, fun _ _ _ j _ h => absurd h (by omega)⟩
        case round =>
          obtain ⟨k, n2, hk, rfl, hP3, hS3, hE3, hn3, hn4, hno⟩ := hrel
          have HP3 := hide hP3
          have HS3 := hide hS3
          have HE3 := hide hE3
          have HNO := hide hno
          obtain ⟨a', c', q1, _, hsub⟩ := hP3.sub
          clear hP3 hS3 hE3 hno p0 p1
          by_cases hlk : k < t1.args.length
          · obtain ⟨b', o', rfl, hx⟩ := hsub k hlk
            have hk2 : (k : Int) < (t1.args.length : Int) := by omega
            have HIH := hide (IH.out n2.toNat (by omega) n2 t1.args[k] b' (o' + k * 2) wr rfl hn4 (by omega) HS3.out hx (err_at hea k hlk))
            have HX3 := hide hx
            clear hsub hx
            go_wp2_with fail
            refine HIH.out.mono ?_
            rintro e w5 ⟨r5, n5, rfl, hS5, hE5, hn5, hn6, hr5, hc5⟩
            have HS5 := hide hS5
            have HE5 := hide (HE3.out.trans hE5)
            have HP5 := hide (HP3.out.exq hE5 HSX.out)
            have HC5 := hide hc5
            clear hS5 hE5 hc5
            cases r5 with
            | true =>
              go_wp2_with fail
              refine bodyPost_ret (v := .bool true) (by simp [results, Try.results121, go_sem]) rfl ?_
              refine ⟨true, n5, rfl, HS5.out, HE5.out, by omega, by omega, fun _ => rfl, fun h5 s hs hu => ⟨fun _ => ?_, fun _ => rfl⟩⟩
              exact (HOC.out s hs).2 ⟨k, hlk, (HC5.out h5 s hs hu).1 (by simp)⟩
            | false =>
              have hn7 : 0 ≤ n5 := by
                by_cases h : n5 < 0
                · have := hr5 h; cases this
                · omega
              go_wp2_with fail
              go_roundw
              case rel => exact ⟨k + 1, n5, by omega, by go_num, HP5.out, HS5.out, HE5.out, by omega, hn7, fun s hs hu j h hj => by
                by_cases e : j = k
                · subst e
                  intro hoc
                  have := (HC5.out hn7 s hs hu).2 hoc
                  cases this
                · exact HNO.out s hs hu j h (by omega)⟩
              case measure => simp [intOf]; omega
          · clear hsub
            go_wp2_with fail
            refine bodyPost_ret (v := .bool false) (by simp [results, Try.results121, go_sem]) rfl ?_
            refine ⟨false, n2, rfl, HS3.out, HE3.out, by omega, by omega, fun h => absurd h (by omega), fun _ s hs hu => ⟨(fun h => absurd h (by simp)), fun h => ?_⟩⟩
            obtain ⟨j, hj, hoc⟩ := (HOC.out s hs).1 h
            exact absurd hoc (HNO.out s hs hu j hj (by omega))
#print axioms skHolds_any
end Go.Proofs.Ytpjdkdebjkpmmab

/- Walks: a variable comes to stand for a term; how many knots there are, with what stands for variables. -/
namespace Go.Proofs.Ytpjdkdebjkpmmab
open Go.RowKit
set_option linter.unusedSimpArgs false
set_option linter.unusedVariables false
set_option maxRecDepth 8000

/-- What is known behind a binding. -/
def BiP (w : World) (S q : Nat) (X : Nat → Prop) (Z : List Zp) (s : List Bd) (left : Int) (x : ByteArray) (u : Tm) (b o : Nat) (e : Ending) (w' : World) : Prop :=
  ∃ (code n : Int) (Z' : List Zp), e = .returned (.int .i64 code) ∧ SkS w' S q X Z' n ∧ (∀ z ∈ Z', errL [z.t] = 0) ∧ ExQ (SkQ S q) w w' ∧ n ≤ left ∧ -2 ≤ n ∧ (n < 0 → code ≠ 0) ∧
    ((u.name = x ∧ code = 0 ∧ Z' = Z) ∨ (u.name ≠ x ∧ code = 6 ∧ Z' = Z ∧ (0 ≤ n → occL x [onT s u])) ∨ (u.name ≠ x ∧ code = 0 ∧ Z' = Z ++ [⟨x, u, b, o⟩] ∧ ¬ occL x [onT s u]))

set_option maxHeartbeats 1000000 in
theorem skBind_any (S q : Nat) (X : Nat → Prop) (Z : List Zp) (s : List Bd) (hC : Clo Z s) (x : ByteArray) (hx : ∀ d ∈ s, d.nm ≠ x) (left : Int) (u : Tm) (b o : Nat) (w : World) (h0 : 0 ≤ left) (h1 : left ≤ 100000) (hS : SkS w S q X Z left) (hP : PX w X b o u) (he : errL [u] = 0) :
    Calls Try.prog 100 #[.pointer (some ⟨S, 0, none⟩), .string x, .pointer (some ⟨b, o, none⟩)] w fun e w' => BiP w S q X Z s left x u b o e w' := by
  have HS := hide hS
  have HP := hide hP
  have HC := hide hC
  have HZ := hide hC.errs
  have HX := hide hx
  obtain ⟨⟨a1, c1, p0, p1, hsl, hbl⟩, hXb⟩ := hP
  clear hS hC hsl hx
  cases hnm : (u.name.toList == x.toList) with
  | true =>
    have hn : u.name = x := bytes_inj (by simpa using hnm)
    go_enter Try.func100, Try.ntmps100
    go_wp2_with fail
    refine bodyPost_ret (v := .int .i64 0) (by simp [results, Try.results100, go_sem]) rfl ?_
    exact ⟨0, left, Z, rfl, HS.out, HZ.out, ExQ.refl _ _, Int.le_refl _, by omega, fun h => absurd h (by omega), Or.inl ⟨hn, rfl, rfl⟩⟩
  | false =>
    have HN : Hid (u.name ≠ x) := fun e => by rw [e] at hnm; simp at hnm
    go_enter Try.func100, Try.ntmps100
    go_wp2_with fail
    refine (skHolds_any S q X Z HZ.out x left.toNat left u b o w rfl h0 h1 HS.out HP.out he).mono ?_
    rintro e w1 ⟨r, n, rfl, hS1, hE1, hn1, hn2, hr1, hc1⟩
    have HS1 := hide hS1
    have HE1 := hide hE1
    have HC1 := hide hc1
    cases r with
    | true =>
      clear hS1 hE1 hc1
      go_wp2_with fail
      refine bodyPost_ret (v := .int .i64 6) (by simp [results, Try.results100, go_sem]) rfl ?_
      exact ⟨6, n, Z, rfl, HS1.out, HZ.out, HE1.out, by omega, hn2, fun _ => by decide, Or.inr (Or.inl ⟨HN.out, rfl, rfl, fun h => (HC1.out h s HC.out HX.out).1 (by simp)⟩)⟩
    | false =>
      have hn7 : 0 ≤ n := by
        by_cases h : n < 0
        · have := hr1 h; cases this
        · omega
      have HO : Hid (¬ occL x [onT s u]) := fun hoc => by
        have := (HC1.out hn7 s HC.out HX.out).2 hoc
        cases this
      have hg : mapGet (Z.map ptZ) x = none := by
        rcases mapGet_ptZ (Z := Z) (n := x) with ⟨hg, _⟩ | ⟨z, hz, e, _⟩
        · exact hg
        · exact absurd e (HC.out.fresh HX.out z hz)
      have s0 : w1.cell? ⟨S, 0, none⟩ = some (.map (some q)) := hS1.1.cell 0
      obtain ⟨w8, hrun, hM8, hz8, ho8, ht8, hu8, hk8⟩ := run_put (P := Try.prog) Try.underlying99 Try.underlying9 hS1.2.1 x (.pointer (some ⟨b, o, none⟩)) hg
      have hE8 : ExQ (SkQ S q) w1 w8 := ⟨ho8, ht8, hu8, by rw [hz8]; exact Nat.le_refl _, fun k hk hn => hk8 k (fun e => hn (Or.inr e))⟩
      have HE8 := hide (hE1.trans hE8)
      have HS8 : Hid (SkS w8 S q X (Z ++ [⟨x, u, b, o⟩]) n) := by
        refine ⟨?_, by rw [List.map_append]; exact hM8, fun z hz => ?_, hS1.2.2.2⟩
        · have h2 := hS1.1
          unfold Blk at h2 ⊢
          rw [hk8 S hS1.ne]; exact h2
        · rcases List.mem_append.1 hz with hz | hz
          · exact (hS1.2.2.1 z hz).exq hE8 hS1.X
          · have e : z = ⟨x, u, b, o⟩ := by simpa using hz
            subst e
            exact (HP.out.exq hE1 hS1.X).exq hE8 hS1.X
      have HZ8 : Hid (∀ z ∈ Z ++ [(⟨x, u, b, o⟩ : Zp)], errL [z.t] = 0) := fun z hz => by
        rcases List.mem_append.1 hz with hz | hz
        · exact HZ.out z hz
        · have e : z = ⟨x, u, b, o⟩ := by simpa using hz
          subst e; exact he
      clear hS1 hE1 hc1 hM8 hz8 ho8 ht8 hu8 hk8 hE8 hg
      go_wp2_with fail
      refine bodyPost_ret (v := .int .i64 0) (by simp [results, Try.results100, go_sem]) rfl ?_
      exact ⟨0, n, _, rfl, HS8.out, HZ8.out, HE8.out, by omega, hn2, fun h => absurd h (by omega), Or.inr (Or.inr ⟨HN.out, rfl, rfl, HO.out⟩)⟩

/-- What is known behind a count. -/
def CoP (w : World) (S q : Nat) (X : Nat → Prop) (Z : List Zp) (left : Int) (t : Tm) (before : Nat) (e : Ending) (w' : World) : Prop :=
  ∃ (c : Nat) (n : Int), e = .returned (.int .i64 (c : Int)) ∧ SkS w' S q X Z n ∧ ExQ (SkQ S q) w w' ∧ n ≤ left ∧ (-1 ≤ n ∨ n = left) ∧ before < c ∧ c ≤ 2001 ∧ (n < 0 → 2000 < c) ∧ ∀ s, Clo Z s → c ≤ 2000 → c = before + sizeL [onT s t]
def CoI (w : World) (S q : Nat) (X : Nat → Prop) (Z : List Zp) (left : Int) (b1 o1 : Nat) (t1 : Tm) (before : Nat) (cv i : Value) (wr : World) : Prop :=
  ∃ (k c : Nat) (n : Int), k ≤ t1.args.length ∧ i = .int .i64 (k : Int) ∧ cv = .int .i64 (c : Int) ∧ PX wr X b1 o1 t1 ∧ SkS wr S q X Z n ∧ ExQ (SkQ S q) w wr ∧ n ≤ left ∧ (-1 ≤ n ∨ n = left) ∧ before < c ∧ c ≤ 2001 ∧ (n < 0 → 2000 < c) ∧ ∀ s, Clo Z s → c ≤ 2000 → c = before + 1 + sizeL (onL s (t1.args.take k))

set_option maxHeartbeats 2000000 in
theorem skCount_any (S q : Nat) (X : Nat → Prop) (Z : List Zp) (hZ : ∀ z ∈ Z, errL [z.t] = 0) (m : Nat) : ∀ (before : Nat) (left : Int) (t : Tm) (b o : Nat) (w : World), 2001 - before = m → before ≤ 2000 → -100 ≤ left → left ≤ 100000 → SkS w S q X Z left → PX w X b o t → errL [t] = 0 →
    Calls Try.prog 101 #[.pointer (some ⟨S, 0, none⟩), .pointer (some ⟨b, o, none⟩), .int .i64 (before : Int)] w fun e w' => CoP w S q X Z left t before e w' := by
  induction m using Nat.strongRecOn with
  | _ m ih =>
    intro before left t b o w hm hbe h0 h1 hS hP he
    have IH := hide ih
    have HS := hide hS
    have HP := hide hP
    clear ih hS hP
    go_enter Try.func101, Try.ntmps101
    go_wp2_with fail
    refine (skLook_any S q X Z hZ left t b o w HS.out h0 h1 HP.out he).mono ?_
    rintro e w1 ⟨b1, o1, t1, n, rfl, hS1, hP1, hE1, hn1, hn2, he1, hc1⟩
    have HS1 := hide hS1
    have HP1 := hide hP1
    have HE1 := hide hE1
    have HC1 := hide hc1
    have HSX := hide hS1.X
    have s1 : w1.cell? ⟨S, 1, none⟩ = some (.int .i64 n) := hS1.1.cell 1
    obtain ⟨⟨a1, c1, p0, p1, hsl, hbl⟩, hXb⟩ := hP1
    have hl1 := hsl.1
    clear hS1 hE1 hc1 hsl
    by_cases hlt : n < 0
    · go_wp2_with fail
      refine bodyPost_ret (v := .int .i64 2001) (by simp [results, Try.results101, go_sem]) rfl ?_
      exact ⟨2001, n, rfl, HS1.out, HE1.out, hn1, hn2, by omega, by omega, fun _ => by omega, fun _ _ h => absurd h (by omega)⟩
    · have HFR : Hid (∀ s, Clo Z s → sizeL [onT s t] = 1 + sizeL (onL s t1.args)) := fun s hs => by
        rw [← (HC1.out s hs).1, ((HC1.out s hs).2 (by omega)).knot hs.1, size_sub]
      have hwrap : IntKind.i64.wrap ((before : Int) + 1) = (before : Int) + 1 := by rw [IntKind.wrap_i64]; omega
      have hea : errL t1.args = 0 := err_sub he1
      go_wp2_with fail
      go_loopw [7, 24] (fun cv i wr => CoI w S q X Z left b1 o1 t1 before cv i wr) (fun cv i wr => t1.args.length - (intOf i).toNat)
      case atStart => exact ⟨0, before + 1, n, Nat.zero_le _, rfl, by go_num, HP1.out, HS1.out, HE1.out, hn1, hn2, by omega, by omega, fun h => absurd h (by omega), fun s _ _ => by simp [onL, sizeL]⟩
      case round =>
        obtain ⟨k, c, n2, hk, rfl, rfl, hP3, hS3, hE3, hn3, hn4, hc3, hc4, hc5, hno⟩ := hrel
        have HP3 := hide hP3
        have HS3 := hide hS3
        have HE3 := hide hE3
        have HNO := hide hno
        obtain ⟨a', c', q1, _, hsub⟩ := hP3.sub
        clear hP3 hS3 hE3 hno p0 p1
        by_cases hlk : k < t1.args.length
        · have hk2 : (k : Int) < (t1.args.length : Int) := by omega
          by_cases hgt : 2000 < c
          · have hgt2 : (2000 : Int) < (c : Int) := by omega
            clear hsub
            go_wp2_with fail
            refine bodyPost_ret (v := .int .i64 (c : Int)) (by simp [results, Try.results101, go_sem]) rfl ?_
            exact ⟨c, n2, rfl, HS3.out, HE3.out, hn3, hn4, hc3, hc4, hc5, fun _ _ h => absurd h (by omega)⟩
          · have hgt2 : ¬ (2000 : Int) < (c : Int) := by omega
            obtain ⟨b', o', rfl, hx⟩ := hsub k hlk
            have HIH := hide (IH.out (2001 - c) (by omega) c n2 t1.args[k] b' (o' + k * 2) wr rfl (by omega) (by omega) (by omega) HS3.out hx (err_at hea k hlk))
            clear hsub hx
            go_wp2_with fail
            refine HIH.out.mono ?_
            rintro e w5 ⟨c5, n5, rfl, hS5, hE5, hn5, hn6, hc6, hc7, hc8, hc9⟩
            have HS5 := hide hS5
            have HE5 := hide (HE3.out.trans hE5)
            have HP5 := hide (HP3.out.exq hE5 HSX.out)
            have HC5 := hide hc9
            clear hS5 hE5 hc9
            go_wp2_with fail
            go_roundw
            case rel => exact ⟨k + 1, c5, n5, by omega, by go_num, rfl, HP5.out, HS5.out, HE5.out, by omega, by omega, by omega, hc7, hc8, fun s hs h => by
              have h6 := HNO.out s hs (by omega)
              have h7 := HC5.out s hs h
              rw [List.take_succ_eq_append_getElem hlk, onL_append, sizeL_append, onL_cons]
              simp only [onL]
              omega⟩
            case measure => simp [intOf]; omega
        · clear hsub
          go_wp2_with fail
          refine bodyPost_ret (v := .int .i64 (c : Int)) (by simp [results, Try.results101, go_sem]) rfl ?_
          refine ⟨c, n2, rfl, HS3.out, HE3.out, hn3, hn4, hc3, hc4, hc5, fun s hs h => ?_⟩
          have h6 := HNO.out s hs h
          rw [List.take_of_length_le (by omega)] at h6
          rw [HFR.out s hs]
          omega
#print axioms skBind_any
#print axioms skCount_any
end Go.Proofs.Ytpjdkdebjkpmmab

/- Walks: an equation worked off, with nothing put in. -/
namespace Go.Proofs.Ytpjdkdebjkpmmab
open Go.RowKit
set_option linter.unusedSimpArgs false
set_option linter.unusedVariables false
set_option maxRecDepth 8000

/-- What is known behind an equation. -/
def WkP (w : World) (S q : Nat) (X : Nat → Prop) (s : List Bd) (left : Int) (a b : Tm) (e : Ending) (w' : World) : Prop :=
  ∃ (code n : Int) (Z' : List Zp), e = .returned (.int .i64 code) ∧ SkS w' S q X Z' n ∧ (∀ z ∈ Z', errL [z.t] = 0) ∧ ExQ (SkQ S q) w w' ∧ n < left ∧ -2 ≤ n ∧ (n < 0 → code ≠ 0) ∧ (0 ≤ n → ∃ s', Clo Z' s' ∧ FR s [⟨a, b⟩] code s')
def WkI (w : World) (S q : Nat) (X : Nat → Prop) (s : List Bd) (left : Int) (b1 o1 b2 o2 : Nat) (a1 a2 : Tm) (i : Value) (wr : World) : Prop :=
  ∃ (k : Nat) (n : Int) (Z' : List Zp) (s' : List Bd), k ≤ a1.args.length ∧ i = .int .i64 (k : Int) ∧ PX wr X b1 o1 a1 ∧ PX wr X b2 o2 a2 ∧ SkS wr S q X Z' n ∧ ExQ (SkQ S q) w wr ∧ n < left ∧ 0 ≤ n ∧ Clo Z' s' ∧ FR s (zipP (a1.args.take k) (a2.args.take k)) 0 s'

set_option maxHeartbeats 4000000 in
theorem skWork_any (S q : Nat) (X : Nat → Prop) (m : Nat) : ∀ (left : Int) (Z : List Zp) (s : List Bd) (a b : Tm) (ba oa bb ob : Nat) (w : World), left.toNat = m → 0 ≤ left → left ≤ 100000 → Clo Z s → SkS w S q X Z left → PX w X ba oa a → PX w X bb ob b → errL [a] = 0 → errL [b] = 0 →
    Calls Try.prog 81 #[.pointer (some ⟨S, 0, none⟩), .pointer (some ⟨ba, oa, none⟩), .pointer (some ⟨bb, ob, none⟩)] w fun e w' => WkP w S q X s left a b e w' := by
  induction m using Nat.strongRecOn with
  | _ m ih =>
    intro left Z s a b ba oa bb ob w hm h0 h1 hC hS hPa hPb hea heb
    have IH := hide ih
    have HS := hide hS
    have HC := hide hC
    have HZ := hide hC.errs
    have HPA := hide hPa
    have HPB := hide hPb
    clear ih hS hPa hPb hC
    go_enter Try.func81, Try.ntmps81
    go_wp2_with fail
    refine (skLook_any S q X Z HZ.out left a ba oa w HS.out (by omega) h1 HPA.out hea).mono ?_
    rintro e w1 ⟨b1, o1, a1, n1, rfl, hS1, hP1, hE1, hn1, hn2, he1, hc1⟩
    have HS1 := hide hS1
    have HP1 := hide hP1
    have HE1 := hide hE1
    have HC1 := hide (hc1 s HC.out)
    have HPB1 := hide (HPB.out.exq hE1 hS1.X)
    clear hS1 hP1 hE1 hc1
    go_wp2_with fail
    refine (skLook_any S q X Z HZ.out n1 b bb ob w1 HS1.out (by omega) (by omega) HPB1.out heb).mono ?_
    rintro e w2 ⟨b2, o2, a2, n2, rfl, hS2, hP2, hE2, hn3, hn4, he2, hc2⟩
    have HC2 := hide (hc2 s HC.out)
    have hE3 : ExQ (SkQ S q) w2 (w2.setCell ⟨S, 1, none⟩ (.int .i64 (n2 - 1))) := (ExQ.refl (SkQ S q) w2).set (Or.inl rfl) 1 _
    have HE3 := hide ((HE1.out.trans hE2).trans hE3)
    have HS3 := hide (hS2.spend (n2 - 1))
    have HPA3 := hide ((HP1.out.exq hE2 hS2.X).exq hE3 hS2.X)
    have HPB3 := hide (hP2.exq hE3 hS2.X)
    have HSX := hide hS2.X
    have s1 : w2.cell? ⟨S, 1, none⟩ = some (.int .i64 n2) := hS2.1.cell 1
    have f1 : w2.frozen? ⟨S, 1, none⟩ = false := hS2.1.frozen 1
    have hwrap : IntKind.i64.wrap (n2 - 1) = n2 - 1 := by rw [IntKind.wrap_i64]; omega
    obtain ⟨⟨x1, c1, p0, p1, hsl1, hbl1⟩, hXb1⟩ := HPA3.out
    obtain ⟨⟨x2, c2, r0, r1, hsl2, hbl2⟩, hXb2⟩ := HPB3.out
    have hl1 := hsl1.1
    have hl2 := hsl2.1
    clear hS2 hP2 hE2 hc2 hE3 hsl1 hsl2
    by_cases hlt : n2 - 1 < 0
    · go_wp2_with fail
      refine bodyPost_ret (v := .int .i64 8) (by simp [results, Try.results81, go_sem]) rfl ?_
      exact ⟨8, n2 - 1, Z, rfl, HS3.out, HZ.out, HE3.out, by omega, by omega, fun _ => by decide, fun h => absurd h (by omega)⟩
    · have HF1 : Hid (Free s a1) := HC1.out.2 (by omega)
      have HF2 : Hid (Free s a2) := HC2.out.2 (by omega)
      have hs : OkS s := HC.out.1
      have HSS := hide hs
      clear hs
      cases hv1 : varB a1.name with
      | true =>
        go_wp2_with (go_at_call 68; refine (isVariable_all _ _).mono ?_; rintro e w9 ⟨rfl, rfl⟩; rw [hv1])
        refine (skBind_any S q X Z s HC.out a1.name (HF1.out.2 hv1) (n2 - 1) a2 b2 o2 _ (by omega) (by omega) HS3.out HPB3.out he2).mono ?_
        rintro e w5 ⟨code, n5, Z5, rfl, hS5, hZ5, hE5, hn5, hn6, hc5, hcs⟩
        have HS5 := hide hS5
        have HZ5 := hide hZ5
        have HE5 := hide (HE3.out.trans hE5)
        clear hS5 hZ5 hE5
        go_wp2_with fail
        refine bodyPost_ret (v := .int .i64 code) (by simp [results, Try.results81, go_sem]) rfl ?_
        refine ⟨code, n5, Z5, rfl, HS5.out, HZ5.out, HE5.out, by omega, hn6, hc5, fun h5 => ?_⟩
        rcases hcs with ⟨g1, rfl, rfl⟩ | ⟨g1, rfl, rfl, g2⟩ | ⟨g1, rfl, rfl, g2⟩
        · exact ⟨s, HC.out, fr_same HSS.out HC1.out.1 HC2.out.1 HF1.out HF2.out hv1 g1⟩
        · exact ⟨s, HC.out, fr_occurs HSS.out HC1.out.1 HC2.out.1 HF1.out HF2.out (Or.inl ⟨hv1, g1, g2 h5⟩)⟩
        · exact ⟨_, HC.out.add hv1 (HF1.out.2 hv1) he2 g2 b2 o2, fr_bind HSS.out HC1.out.1 HC2.out.1 HF1.out HF2.out (Or.inl ⟨hv1, g1, rfl, rfl⟩) g2⟩
      | false =>
        cases hv2 : varB a2.name with
        | true =>
          go_wp2_with (go_at_call 68; refine (isVariable_all _ _).mono ?_; rintro e w9 ⟨rfl, rfl⟩; first | rw [hv1] | rw [hv2])
          refine (skBind_any S q X Z s HC.out a2.name (HF2.out.2 hv2) (n2 - 1) a1 b1 o1 _ (by omega) (by omega) HS3.out HPA3.out he1).mono ?_
          rintro e w5 ⟨code, n5, Z5, rfl, hS5, hZ5, hE5, hn5, hn6, hc5, hcs⟩
          have HS5 := hide hS5
          have HZ5 := hide hZ5
          have HE5 := hide (HE3.out.trans hE5)
          clear hS5 hZ5 hE5
          go_wp2_with fail
          refine bodyPost_ret (v := .int .i64 code) (by simp [results, Try.results81, go_sem]) rfl ?_
          refine ⟨code, n5, Z5, rfl, HS5.out, HZ5.out, HE5.out, by omega, hn6, hc5, fun h5 => ?_⟩
          rcases hcs with ⟨g1, rfl, rfl⟩ | ⟨g1, rfl, rfl, g2⟩ | ⟨g1, rfl, rfl, g2⟩
          · rw [g1, hv2] at hv1; cases hv1
          · exact ⟨s, HC.out, fr_occurs HSS.out HC1.out.1 HC2.out.1 HF1.out HF2.out (Or.inr ⟨hv1, hv2, g2 h5⟩)⟩
          · exact ⟨_, HC.out.add hv2 (HF2.out.2 hv2) he1 g2 b1 o1, fr_bind HSS.out HC1.out.1 HC2.out.1 HF1.out HF2.out (Or.inr ⟨hv1, hv2, rfl, rfl⟩) g2⟩
        | false =>
          have HS0 := hide (And.intro p0 (And.intro p1 (And.intro r0 r1)))
          cases hnn : (a1.name.toList == a2.name.toList) with
          | false =>
            have hne : a1.name ≠ a2.name := fun e => by rw [e] at hnn; simp at hnn
            go_wp2_with (go_at_call 68; refine (isVariable_all _ _).mono ?_; rintro e w9 ⟨rfl, rfl⟩; first | rw [hv1] | rw [hv2])
            generalize w2.setCell ⟨S, 1, none⟩ (.int .i64 (n2 - 1)) = w3 at *
            refine wp_region_held_drew (S := (fun w' => w'.cell? ⟨b1, o1, none⟩ = some (.string a1.name) ∧ w'.cell? ⟨b1, o1 + 1, none⟩ = some (.slice x1 a1.args.length c1) ∧ w'.cell? ⟨b2, o2, none⟩ = some (.string a2.name) ∧ w'.cell? ⟨b2, o2 + 1, none⟩ = some (.slice x2 a2.args.length c2))) (by kernel_rfl) HS0.out (fun hHeld => ?_)
            refine wpAnyH_take (i := 0) (v := ?_) rfl (by kernel_rfl) (by kernel_rfl) (by kernel_rfl) (fun _ _ _ h => h) (Or.inl ⟨by rfl, ?_⟩) (by assumption) ?_
            rotate_left
            · intro w' hSw
              obtain ⟨k1, k2, k3, k4⟩ := hSw
              go_simp <;> with_reducible rfl
            try simp only [Act.put, List.setIfInBounds_toArray, List.set_cons_zero, List.set_cons_succ, List.getElem_toArray, List.getElem_cons_succ, List.getElem_cons_zero]
            refine wpAnyH_take (i := 1) (v := ?_) rfl (by kernel_rfl) (by kernel_rfl) (by kernel_rfl) (fun _ _ _ h => h) (Or.inl ⟨by rfl, ?_⟩) (by assumption) ?_
            rotate_left
            · intro w' hSw
              obtain ⟨k1, k2, k3, k4⟩ := hSw
              go_simp <;> with_reducible rfl
            try simp only [Act.put, List.setIfInBounds_toArray, List.set_cons_zero, List.set_cons_succ, List.getElem_toArray, List.getElem_cons_succ, List.getElem_cons_zero]
            refine wpAnyH_take (i := 2) (v := ?_) rfl (by kernel_rfl) (by kernel_rfl) (by kernel_rfl) (fun _ _ _ h => h) (Or.inl ⟨by rfl, ?_⟩) (by assumption) ?_
            rotate_left
            · intro w' hSw
              obtain ⟨k1, k2, k3, k4⟩ := hSw
              go_simp <;> with_reducible rfl
            try simp only [Act.put, List.setIfInBounds_toArray, List.set_cons_zero, List.set_cons_succ, List.getElem_toArray, List.getElem_cons_succ, List.getElem_cons_zero]
            refine wpAnyH_take (i := 3) (v := ?_) rfl (by kernel_rfl) (by kernel_rfl) (by kernel_rfl) (fun _ _ _ h => h) (Or.inl ⟨by rfl, ?_⟩) (by assumption) ?_
            rotate_left
            · intro w' hSw
              obtain ⟨k1, k2, k3, k4⟩ := hSw
              go_simp <;> with_reducible rfl
            try simp only [Act.put, List.setIfInBounds_toArray, List.set_cons_zero, List.set_cons_succ, List.getElem_toArray, List.getElem_cons_succ, List.getElem_cons_zero]
            refine wpAnyH_take (i := 4) (v := ?_) rfl (by kernel_rfl) (by kernel_rfl) (by kernel_rfl) (fun _ _ _ h => h) (Or.inl ⟨by rfl, ?_⟩) (by assumption) ?_
            rotate_left
            · intro w' hSw
              obtain ⟨k1, k2, k3, k4⟩ := hSw
              go_simp <;> with_reducible rfl
            try simp only [Act.put, List.setIfInBounds_toArray, List.set_cons_zero, List.set_cons_succ, List.getElem_toArray, List.getElem_cons_succ, List.getElem_cons_zero]
            refine wpAnyH_take (i := 5) (v := ?_) rfl (by kernel_rfl) (by kernel_rfl) (by kernel_rfl) (fun _ _ _ h => h) (Or.inl ⟨by rfl, ?_⟩) (by assumption) ?_
            rotate_left
            · intro w' hSw
              obtain ⟨k1, k2, k3, k4⟩ := hSw
              go_simp <;> with_reducible rfl
            try simp only [Act.put, List.setIfInBounds_toArray, List.set_cons_zero, List.set_cons_succ, List.getElem_toArray, List.getElem_cons_succ, List.getElem_cons_zero]
            refine wpAnyH_take (i := 6) (v := ?_) rfl (by kernel_rfl) (by kernel_rfl) (by kernel_rfl) (fun _ _ _ h => h) (Or.inl ⟨by rfl, ?_⟩) (by assumption) ?_
            rotate_left
            · intro w' hSw
              obtain ⟨k1, k2, k3, k4⟩ := hSw
              go_simp <;> with_reducible rfl
            try simp only [Act.put, List.setIfInBounds_toArray, List.set_cons_zero, List.set_cons_succ, List.getElem_toArray, List.getElem_cons_succ, List.getElem_cons_zero]
            refine wpAnyH_take (i := 7) (v := ?_) rfl (by kernel_rfl) (by kernel_rfl) (by kernel_rfl) (fun _ _ _ h => h) (Or.inl ⟨by rfl, ?_⟩) (by assumption) ?_
            rotate_left
            · intro w' hSw
              obtain ⟨k1, k2, k3, k4⟩ := hSw
              go_simp <;> with_reducible rfl
            try simp only [Act.put, List.setIfInBounds_toArray, List.set_cons_zero, List.set_cons_succ, List.getElem_toArray, List.getElem_cons_succ, List.getElem_cons_zero]
            refine wpAnyH_take (i := 8) (v := ?_) rfl (by kernel_rfl) (by kernel_rfl) (by kernel_rfl) (fun _ _ _ h => h) (Or.inl ⟨by rfl, ?_⟩) (by assumption) ?_
            rotate_left
            · intro w' hSw
              obtain ⟨k1, k2, k3, k4⟩ := hSw
              go_simp <;> with_reducible rfl
            try simp only [Act.put, List.setIfInBounds_toArray, List.set_cons_zero, List.set_cons_succ, List.getElem_toArray, List.getElem_cons_succ, List.getElem_cons_zero]
            refine wpAnyH_take (i := 9) (v := ?_) rfl (by kernel_rfl) (by kernel_rfl) (by kernel_rfl) (fun _ _ _ h => h) (Or.inl ⟨by rfl, ?_⟩) (by assumption) ?_
            rotate_left
            · intro w' hSw
              obtain ⟨k1, k2, k3, k4⟩ := hSw
              go_simp <;> with_reducible rfl
            try simp only [Act.put, List.setIfInBounds_toArray, List.set_cons_zero, List.set_cons_succ, List.getElem_toArray, List.getElem_cons_succ, List.getElem_cons_zero]
            refine wpAnyH_take (i := 10) (v := undef) rfl (by kernel_rfl) (by kernel_rfl) (by kernel_rfl) (fun _ _ _ h => h) (Or.inr ⟨by rfl, rfl⟩) (by assumption) ?_
            try simp only [Act.put, List.setIfInBounds_toArray, List.set_cons_zero, List.set_cons_succ, List.getElem_toArray, List.getElem_cons_succ, List.getElem_cons_zero]
            refine wpAnyH_take (i := 11) (v := undef) rfl (by kernel_rfl) (by kernel_rfl) (by kernel_rfl) (fun _ _ _ h => h) (Or.inr ⟨by rfl, rfl⟩) (by assumption) ?_
            try simp only [Act.put, List.setIfInBounds_toArray, List.set_cons_zero, List.set_cons_succ, List.getElem_toArray, List.getElem_cons_succ, List.getElem_cons_zero]
            refine wpAnyH_take (i := 12) (v := undef) rfl (by kernel_rfl) (by kernel_rfl) (by kernel_rfl) (fun _ _ _ h => h) (Or.inr ⟨by rfl, rfl⟩) (by assumption) ?_
            try simp only [Act.put, List.setIfInBounds_toArray, List.set_cons_zero, List.set_cons_succ, List.getElem_toArray, List.getElem_cons_succ, List.getElem_cons_zero]
            refine wpAnyH_take (i := 13) (v := undef) rfl (by kernel_rfl) (by kernel_rfl) (by kernel_rfl) (fun _ _ _ h => h) (Or.inr ⟨by rfl, rfl⟩) (by assumption) ?_
            try simp only [Act.put, List.setIfInBounds_toArray, List.set_cons_zero, List.set_cons_succ, List.getElem_toArray, List.getElem_cons_succ, List.getElem_cons_zero]
            refine wpAnyH_take (i := 14) (v := undef) rfl (by kernel_rfl) (by kernel_rfl) (by kernel_rfl) (fun _ _ _ h => h) (Or.inr ⟨by rfl, rfl⟩) (by assumption) ?_
            try simp only [Act.put, List.setIfInBounds_toArray, List.set_cons_zero, List.set_cons_succ, List.getElem_toArray, List.getElem_cons_succ, List.getElem_cons_zero]
            refine wpAnyH_take (i := 15) (v := undef) rfl (by kernel_rfl) (by kernel_rfl) (by kernel_rfl) (fun _ _ _ h => h) (Or.inr ⟨by rfl, rfl⟩) (by assumption) ?_
            try simp only [Act.put, List.setIfInBounds_toArray, List.set_cons_zero, List.set_cons_succ, List.getElem_toArray, List.getElem_cons_succ, List.getElem_cons_zero]
            refine wpAnyH_take (i := 16) (v := undef) rfl (by kernel_rfl) (by kernel_rfl) (by kernel_rfl) (fun _ _ _ h => h) (Or.inr ⟨by rfl, rfl⟩) (by assumption) ?_
            try simp only [Act.put, List.setIfInBounds_toArray, List.set_cons_zero, List.set_cons_succ, List.getElem_toArray, List.getElem_cons_succ, List.getElem_cons_zero]
            refine wpAnyH_take (i := 17) (v := undef) rfl (by kernel_rfl) (by kernel_rfl) (by kernel_rfl) (fun _ _ _ h => h) (Or.inr ⟨by rfl, rfl⟩) (by assumption) ?_
            try simp only [Act.put, List.setIfInBounds_toArray, List.set_cons_zero, List.set_cons_succ, List.getElem_toArray, List.getElem_cons_succ, List.getElem_cons_zero]
            refine wpAnyH_take (i := 18) (v := undef) rfl (by kernel_rfl) (by kernel_rfl) (by kernel_rfl) (fun _ _ _ h => h) (Or.inr ⟨by rfl, rfl⟩) (by assumption) ?_
            try simp only [Act.put, List.setIfInBounds_toArray, List.set_cons_zero, List.set_cons_succ, List.getElem_toArray, List.getElem_cons_succ, List.getElem_cons_zero]
            refine wpAnyH_take (i := 19) (v := undef) rfl (by kernel_rfl) (by kernel_rfl) (by kernel_rfl) (fun _ _ _ h => h) (Or.inr ⟨by rfl, rfl⟩) (by assumption) ?_
            try simp only [Act.put, List.setIfInBounds_toArray, List.set_cons_zero, List.set_cons_succ, List.getElem_toArray, List.getElem_cons_succ, List.getElem_cons_zero]
            refine wpAnyH_take (i := 20) (v := undef) rfl (by kernel_rfl) (by kernel_rfl) (by kernel_rfl) (fun _ _ _ h => h) (Or.inr ⟨by rfl, rfl⟩) (by assumption) ?_
            try simp only [Act.put, List.setIfInBounds_toArray, List.set_cons_zero, List.set_cons_succ, List.getElem_toArray, List.getElem_cons_succ, List.getElem_cons_zero]
            refine wpAnyH_take (i := 21) (v := ?_) rfl (by kernel_rfl) (by kernel_rfl) (by kernel_rfl) (fun _ _ _ h => h) (Or.inl ⟨by rfl, ?_⟩) (by assumption) ?_
            rotate_left
            · intro w' hSw
              obtain ⟨k1, k2, k3, k4⟩ := hSw
              go_simp <;> with_reducible rfl
            try simp only [Act.put, List.setIfInBounds_toArray, List.set_cons_zero, List.set_cons_succ, List.getElem_toArray, List.getElem_cons_succ, List.getElem_cons_zero]
            refine wpAnyH_take (i := 22) (v := ?_) rfl (by kernel_rfl) (by kernel_rfl) (by kernel_rfl) (fun _ _ _ h => h) (Or.inl ⟨by rfl, ?_⟩) (by assumption) ?_
            rotate_left
            · intro w' hSw
              obtain ⟨k1, k2, k3, k4⟩ := hSw
              go_simp <;> with_reducible rfl
            try simp only [Act.put, List.setIfInBounds_toArray, List.set_cons_zero, List.set_cons_succ, List.getElem_toArray, List.getElem_cons_succ, List.getElem_cons_zero]
            refine wpAnyH_done (by kernel_rfl) ?_ _
            go_wp2_with fail
            refine bodyPost_ret (v := .int .i64 5) (by simp [results, Try.results81, go_sem]) rfl ?_
            exact ⟨5, n2 - 1, Z, rfl, HS3.out.later ((Below.refl _ _).drew), HZ.out, HE3.out.drew, by omega, by omega, fun _ => by decide, fun _ => ⟨s, HC.out, fr_clash HSS.out HC1.out.1 HC2.out.1 hv1 hv2 (fun h => hne h.1)⟩⟩
          | true =>
            have hne : a1.name = a2.name := bytes_inj (by simpa using hnn)
            by_cases hm : a1.args.length = a2.args.length
            case neg =>
              have hm2 : ((a1.args.length : Int) == (a2.args.length : Int)) = false := beq_eq_false_iff_ne.2 (by omega)
              have hm3 : ((a1.args.length : Int) != (a2.args.length : Int)) = true := by simp [bne, hm2]
              have HM := hide hm
              clear hm
              go_wp2_with (go_at_call 68; refine (isVariable_all _ _).mono ?_; rintro e w9 ⟨rfl, rfl⟩; first | rw [hv1] | rw [hv2])
              generalize w2.setCell ⟨S, 1, none⟩ (.int .i64 (n2 - 1)) = w3 at *
              go_region_held3 (fun w' => w'.cell? ⟨b1, o1, none⟩ = some (.string a1.name) ∧ w'.cell? ⟨b1, o1 + 1, none⟩ = some (.slice x1 a1.args.length c1) ∧ w'.cell? ⟨b2, o2, none⟩ = some (.string a2.name) ∧ w'.cell? ⟨b2, o2 + 1, none⟩ = some (.slice x2 a2.args.length c2)) (first | exact HS0.out | go_keep) (fail)
              go_wp2_with fail
              refine bodyPost_ret (v := .int .i64 5) (by simp [results, Try.results81, go_sem]) rfl ?_
              exact ⟨5, n2 - 1, Z, rfl, HS3.out.later ((Below.refl _ _).drew), HZ.out, HE3.out.drew, by omega, by omega, fun _ => by decide, fun _ => ⟨s, HC.out, fr_clash HSS.out HC1.out.1 HC2.out.1 hv1 hv2 (fun h => HM.out h.2)⟩⟩
            case pos =>
              have HLM := hide hm
              rw [← hm] at r1 hl2 HS0
              clear hm
              go_wp2_with (go_at_call 68; refine (isVariable_all _ _).mono ?_; rintro e w9 ⟨rfl, rfl⟩; first | rw [hv1] | rw [hv2])
              generalize w2.setCell ⟨S, 1, none⟩ (.int .i64 (n2 - 1)) = w3 at *
              go_region_held3 (fun w' => w'.cell? ⟨b1, o1, none⟩ = some (.string a1.name) ∧ w'.cell? ⟨b1, o1 + 1, none⟩ = some (.slice x1 a1.args.length c1) ∧ w'.cell? ⟨b2, o2, none⟩ = some (.string a2.name) ∧ w'.cell? ⟨b2, o2 + 1, none⟩ = some (.slice x2 a1.args.length c2)) (first | exact HS0.out | go_keep) (fail)
              have HEA := hide (err_sub he1)
              have HEB := hide (err_sub he2)
              go_wp2_with fail
              go_loopw [82] (fun i wr => WkI w S q X s left b1 o1 b2 o2 a1 a2 i wr) (fun i wr => a1.args.length - (intOf i).toNat)
              case atStart => exact ⟨0, n2 - 1, Z, s, Nat.zero_le _, rfl, HPA3.out.exq ((ExQ.refl (SkQ S q) _).drew) HSX.out, HPB3.out.exq ((ExQ.refl (SkQ S q) _).drew) HSX.out, HS3.out.later ((Below.refl _ _).drew), HE3.out.drew, by omega, by omega, HC.out, by simpa [zipP] using FR.done s⟩
              case round =>
                obtain ⟨k, n3, Z3, s3, hk, rfl, hA3, hB3, hS4, hE4, hn5, hn6, hC3, hF3⟩ := hrel
                have HA4 := hide hA3
                have HB4 := hide hB3
                have HS4 := hide hS4
                have HE4 := hide hE4
                have HC4 := hide hC3
                have HF4 := hide hF3
                obtain ⟨y1, d1, q1, _, hsub1⟩ := hA3.sub
                obtain ⟨y2, d2, q2, _, hsub2⟩ := hB3.sub
                rw [← HLM.out] at q2
                have hlb1 := hA3.1.lt
                have hlb2 := hB3.1.lt
                have hXb1' := hA3.2
                have hXb2' := hB3.2
                clear hA3 hB3 hS4 hE4 hC3 hF3 p0 p1 r0 r1 HS0
                by_cases hlk : k < a1.args.length
                · have hltm : k < a2.args.length := by have := HLM.out; omega
                  have hk2 : (k : Int) < (a1.args.length : Int) := by omega
                  obtain ⟨b1', o1', rfl, hx1⟩ := hsub1 k hlk
                  obtain ⟨b2', o2', rfl, hx2⟩ := hsub2 k hltm
                  have HSq := hide (And.intro q1 q2)
                  have hD : Below wr.heap.size wr wr.drew := (Below.refl _ _).drew
                  have HIH := hide (IH.out n3.toNat (by omega) n3 Z3 s3 a1.args[k] a2.args[k] b1' (o1' + k * 2) b2' (o2' + k * 2) wr.drew rfl hn6 (by omega) HC4.out (HS4.out.later hD) (hx1.exq (ExQ.ofBelow (Q := SkQ S q) hD) HSX.out) (hx2.exq (ExQ.ofBelow (Q := SkQ S q) hD) HSX.out) (err_at HEA.out k hlk) (err_at HEB.out k hltm))
                  have HKP : Hid (∀ w5, ExQ (SkQ S q) wr.drew w5 → w5.cell? ⟨b1, o1 + 1, none⟩ = some (.slice (some ⟨b1', o1', none⟩) a1.args.length d1) ∧ w5.cell? ⟨b2, o2 + 1, none⟩ = some (.slice (some ⟨b2', o2', none⟩) a1.args.length d2)) := fun w5 h5 => ⟨(World.cell?_of_block (h5.block b1 hlb1 (HSX.out _ hXb1'))).trans HSq.out.1, (World.cell?_of_block (h5.block b2 hlb2 (HSX.out _ hXb2'))).trans HSq.out.2⟩
                  clear hsub1 hsub2 hx1 hx2 hD
                  go_wp2_with fail
                  go_region_held3 (fun w' => w'.cell? ⟨b1, o1 + 1, none⟩ = some (.slice (some ⟨b1', o1', none⟩) a1.args.length d1) ∧ w'.cell? ⟨b2, o2 + 1, none⟩ = some (.slice (some ⟨b2', o2', none⟩) a1.args.length d2)) (first | exact HSq.out | exact hS5' | go_keep)
                    ((go_at_call 81; refine HIH.out.mono ?_; rintro e w5 ⟨code, n5, Z5, rfl, hS5, hZ5, hE5, hn7, hn8, hc5, hr5⟩; have hS5' := HKP.out w5 hE5))
                  have HS5 := hide hS5
                  have HZ5 := hide hZ5
                  have HE5 := hide ((HE4.out.drew).trans hE5)
                  have HA5 := hide ((HA4.out.exq ((ExQ.refl (SkQ S q) _).drew) HSX.out).exq hE5 HSX.out)
                  have HB5 := hide ((HB4.out.exq ((ExQ.refl (SkQ S q) _).drew) HSX.out).exq hE5 HSX.out)
                  have HR5 := hide hr5
                  clear hS5 hZ5 hE5 hr5 hS5'
                  by_cases hcd : code = 0
                  · subst hcd
                    have hn9 : 0 ≤ n5 := by
                      by_cases h : n5 < 0
                      · exact absurd rfl (hc5 h)
                      · omega
                    obtain ⟨s5, hC5, hF5⟩ := HR5.out hn9
                    have HC5 := hide hC5
                    have HF5 := hide (fr_next hlk hltm HF4.out hF5)
                    clear hC5 hF5
                    go_wp2_with fail
                    go_roundw
                    case rel => exact ⟨k + 1, n5, Z5, s5, by omega, by go_num, HA5.out, HB5.out, HS5.out, HE5.out, by omega, hn9, HC5.out, HF5.out⟩
                    case measure => simp [intOf]; omega
                  · have hcd2 : (code == 0) = false := beq_eq_false_iff_ne.2 hcd
                    have hcd3 : (code != 0) = true := by simp [bne, hcd2]
                    have HCD := hide hcd
                    go_wp2_with fail
                    refine bodyPost_ret (v := .int .i64 code) (by simp [results, Try.results81, go_sem]) rfl ?_
                    refine ⟨code, n5, Z5, rfl, HS5.out, HZ5.out, HE5.out, by omega, hn8, fun _ => HCD.out, fun h5 => ?_⟩
                    obtain ⟨s5, hC5, hF5⟩ := HR5.out h5
                    exact ⟨s5, hC5, fr_deep HSS.out HC1.out.1 HC2.out.1 he1 he2 hv1 hv2 hne HLM.out (fr_fail (k + 1) HCD.out (fr_next hlk hltm HF4.out hF5))⟩
                · clear hsub1 hsub2
                  go_wp2_with fail
                  refine bodyPost_ret (v := .int .i64 0) (by simp [results, Try.results81, go_sem]) rfl ?_
                  refine ⟨0, n3, Z3, rfl, HS4.out, HC4.out.errs, HE4.out, by omega, by omega, fun h => absurd h (by omega), fun _ => ⟨s3, HC4.out, fr_deep HSS.out HC1.out.1 HC2.out.1 he1 he2 hv1 hv2 hne HLM.out ?_⟩⟩
                  have h6 := HF4.out
                  rwa [List.take_of_length_le (by omega), List.take_of_length_le (by have := HLM.out; omega)] at h6
#print axioms skWork_any
end Go.Proofs.Ytpjdkdebjkpmmab

/- Walks: pairs of which nothing is said; whether pairs may be. -/
namespace Go.Proofs.Ytpjdkdebjkpmmab
open Go.RowKit
set_option linter.unusedSimpArgs false
set_option linter.unusedVariables false
set_option maxRecDepth 8000

def hugeQ1 (p : Pr) : Bool := decide (3000 < sizeL [p.l]) || decide (3000 < sizeL [p.r])
def hugeQL (l : List Pr) : Bool := l.any hugeQ1
def hugeQ (ls : List Pr) : Bool := hugeQL ls || decide (100 < ls.length)
theorem hugeQL_take {l : List Pr} {k : Nat} (h : k < l.length) : hugeQL (l.take (k + 1)) = (hugeQL (l.take k) || hugeQ1 l[k]) := by
  unfold hugeQL; rw [List.take_succ_eq_append_getElem h, List.any_append]; simp
theorem hugeQL_yes {l : List Pr} {k : Nat} (h : k < l.length) (h0 : hugeQ1 l[k] = true) : hugeQ l = true := by
  have e : hugeQL l = true := by
    unfold hugeQL
    rw [List.any_eq_true]
    exact ⟨l[k], List.getElem_mem h, h0⟩
  unfold hugeQ
  rw [e]; rfl
theorem hugeQ_no {ls : List Pr} (h : hugeQ ls = false) : ls.length ≤ 100 ∧ ∀ d ∈ ls, sizeL [d.l] ≤ 3000 ∧ sizeL [d.r] ≤ 3000 := by
  unfold hugeQ hugeQL hugeQ1 at h
  simp only [Bool.or_eq_false_iff, List.any_eq_false, decide_eq_true_eq, decide_eq_false_iff_not, Bool.or_eq_true] at h
  exact ⟨by omega, fun d hd => by have := h.1 d hd; omega⟩
def HqInv (ls : List Pr) (w : World) (v : Value) (wr : World) : Prop := ∃ k : Nat, v = .int .i64 (k : Int) ∧ k ≤ ls.length ∧ hugeQL (ls.take k) = false ∧ Below w.heap.size w wr

set_option maxHeartbeats 1000000 in
theorem hugePairs_any (ls : List Pr) (u : Value) (w : World) (X : Nat → Prop) (hu : QV w X u ls) :
    Calls Try.prog 23 #[u] w fun e w' => e = .returned (.bool (hugeQ ls)) ∧ Below w.heap.size w w' := by
  have HU := hide (hu.mono (Y := fun b => X b ∧ b < w.heap.size) fun b h1 h2 => ⟨h1, h2⟩)
  obtain ⟨a, c, rfl, hl, hu2⟩ := hu
  clear hu2
  go_enter Try.func23, Try.ntmps23
  go_wp2_with fail
  go_loopw [3] (fun v wr => HqInv ls w v wr) (fun v wr => ls.length - (intOf v).toNat)
  case atStart => exact ⟨0, rfl, Nat.zero_le _, rfl, Below.refl _ _⟩
  case round =>
    obtain ⟨k, rfl, hk, hT, hb⟩ := hrel
    have HB := hide hb
    have HT := hide hT
    clear hT
    by_cases hlt : k < ls.length
    · obtain ⟨b, o, a1, c1, a2, c2, rfl, d0, d1, d2, d3, hs1, hs2⟩ := (HU.out.later hb).get k hlt
      have hlt2 : (k : Int) < (ls.length : Int) := by omega
      have HX1 := hide hs1
      have HX2 := hide hs2
      have HY := hide (hugeQL_yes hlt)
      have HN := hide (hugeQL_take hlt)
      clear hs1 hs2 hb
      generalize ls[k] = d at *
      go_wp2_with fail
      refine (huge_any d.l _ _ _ ⟨a1, c1, rfl, HX1.out⟩).mono ?_
      rintro e w1 ⟨rfl, hb1⟩
      have HB1 := hide (HB.out.trans (hb1.mono HB.out.size))
      have HX3 := hide (HX2.out.later hb1)
      have d2' := cell_later hb1 d2
      have d3' := cell_later hb1 d3
      clear hb1
      cases hq : decide (3000 < sizeL [d.l]) with
      | true =>
        have HF := hide (HY.out (by unfold hugeQ1; rw [hq]; rfl))
        clear hq
        go_wp2_with fail
        go_ret
        exact ⟨ret_bool HF.out.symm, HB1.out⟩
      | false =>
        have HQ := hide hq
        clear hq
        go_wp2_with fail
        refine (huge_any d.r _ _ _ ⟨a2, c2, rfl, HX3.out⟩).mono ?_
        rintro e w2 ⟨rfl, hb2⟩
        have HB2 := hide (HB1.out.trans (hb2.mono HB1.out.size))
        clear hb2
        cases hq : decide (3000 < sizeL [d.r]) with
        | true =>
          have HF := hide (HY.out (by unfold hugeQ1; rw [hq]; simp))
          clear hq
          go_wp2_with fail
          go_ret
          exact ⟨ret_bool HF.out.symm, HB2.out⟩
        | false =>
          have HF : Hid (hugeQL (ls.take (k + 1)) = false) := by unfold Hid; rw [HN.out, HT.out]; unfold hugeQ1; rw [HQ.out, hq]; rfl
          clear hq
          go_wp2_with fail
          go_roundw
          case rel => exact ⟨k + 1, by go_num, by omega, HF.out, HB2.out⟩
          case measure => simp [intOf]; omega
    · have HF : Hid (decide (100 < ls.length) = hugeQ ls) := by
        have h := HT.out
        rw [List.take_of_length_le (by omega)] at h
        unfold Hid hugeQ
        rw [h]; rfl
      go_wp2_with fail
      go_ret
      exact ⟨ret_bool (by rw [← HF.out, Bool.eq_iff_iff]; simp; omega), HB.out⟩

def PmInv (ls : List Pr) (w : World) (v : Value) (wr : World) : Prop := ∃ k : Nat, v = .int .i64 (k : Int) ∧ k ≤ ls.length ∧ pmT ls k = 0 ∧ Below w.heap.size w wr

set_option maxHeartbeats 1000000 in
theorem pairsMay_any (ls : List Pr) (u : Value) (w : World) (X : Nat → Prop) (hu : QV w X u ls) :
    Calls Try.prog 24 #[u] w fun e w' => e = .returned (.int .i64 (pairsE ls)) ∧ Below w.heap.size w w' := by
  have HU := hide (hu.mono (Y := fun b => X b ∧ b < w.heap.size) fun b h1 h2 => ⟨h1, h2⟩)
  obtain ⟨a, c, rfl, hl, hu2⟩ := hu
  clear hu2
  go_enter Try.func24, Try.ntmps24
  by_cases h40 : 40 < ls.length
  · go_wp2_with fail
    go_ret
    exact ⟨ret_int (by unfold pairsE; rw [if_pos h40]), Below.refl _ _⟩
  · go_wp2_with fail
    go_loopw [3] (fun v wr => PmInv ls w v wr) (fun v wr => ls.length - (intOf v).toNat)
    case atStart => exact ⟨0, rfl, Nat.zero_le _, rfl, Below.refl _ _⟩
    case round =>
      obtain ⟨k, rfl, hk, hT, hb⟩ := hrel
      have HB := hide hb
      have HT := hide hT
      clear hT
      by_cases hlt : k < ls.length
      · obtain ⟨b, o, a1, c1, a2, c2, rfl, d0, d1, d2, d3, hs1, hs2⟩ := (HU.out.later hb).get k hlt
        have hlt2 : (k : Int) < (ls.length : Int) := by omega
        have HX1 := hide hs1
        have HX2 := hide hs2
        have HY := hide (pmT_err hlt h40 HT.out)
        have HN := hide (pmT_next hlt HT.out)
        clear hs1 hs2 hb
        generalize ls[k] = d at *
        go_wp2_with fail
        have HS0 := hide (And.intro d0 (And.intro d1 (And.intro d2 d3)))
        have TM : Hid (∀ w', Below wr.heap.size wr w' → Calls Try.prog 14 #[.agg #[.string d.l.name, .slice a1 d.l.args.length c1], .agg #[.string d.r.name, .slice a2 d.r.args.length c2]] w' fun e w'' => e = .returned (.int .i64 (twoE d.l d.r)) ∧ Below w.heap.size w w'' ∧ (w''.cell? ⟨b, o + k * 4, none⟩ = some (.string d.l.name) ∧ w''.cell? ⟨b, o + k * 4 + 1, none⟩ = some (.slice a1 d.l.args.length c1) ∧ w''.cell? ⟨b, o + k * 4 + 2, none⟩ = some (.string d.r.name) ∧ w''.cell? ⟨b, o + k * 4 + 3, none⟩ = some (.slice a2 d.r.args.length c2))) := fun w' hb => by
          refine (twoMay_any d.l d.r _ _ w' _ ⟨_, _, rfl, HX1.out.later hb⟩ ⟨_, _, rfl, HX2.out.later hb⟩).mono ?_
          rintro e w'' ⟨rfl, hb2⟩
          have hb3 := hb.trans (hb2.mono hb.size)
          exact ⟨rfl, HB.out.trans (hb3.mono HB.out.size), cell_later hb3 d0, cell_later hb3 d1, cell_later hb3 d2, cell_later hb3 d3⟩
        go_region_held3 (fun w' => w'.cell? ⟨b, o + k * 4, none⟩ = some (.string d.l.name) ∧ w'.cell? ⟨b, o + k * 4 + 1, none⟩ = some (.slice a1 d.l.args.length c1) ∧ w'.cell? ⟨b, o + k * 4 + 2, none⟩ = some (.string d.r.name) ∧ w'.cell? ⟨b, o + k * 4 + 3, none⟩ = some (.slice a2 d.r.args.length c2)) (first | exact hS | exact HS0.out | go_keep)
          (first
            | (go_at_call 14; refine (TM.out _ (by first | exact Below.refl _ _ | exact (Below.refl _ _).drew)).mono ?_; rintro e w5 ⟨rfl, hb5, hS⟩))
        have HB5 := hide hb5
        clear hb5 hS TM HX1 HX2 HS0 d0 d1 d2 d3
        by_cases hm : twoE d.l d.r = 0
        · rw [hm] at HN
          rw [hm]
          clear hm
          go_wp2_with fail
          go_roundw
          case rel => exact ⟨k + 1, by go_num, by omega, HN.out, HB5.out⟩
          case measure => simp [intOf]; omega
        · have hm2 : (twoE d.l d.r == 0) = false := by simpa using hm
          have HM := hide hm
          clear hm
          go_wp2_with fail
          go_ret
          exact ⟨ret_int (HY.out HM.out).symm, HB5.out⟩
      · have hkl : k = ls.length := by omega
        go_wp2_with fail
        go_ret
        exact ⟨ret_int (by unfold pairsE; rw [if_neg h40, ← hkl]; exact HT.out.symm), HB.out⟩

theorem twoE_fst {a b : Tm} (h : mayE a ≠ 0) : twoE a b = mayE a := by unfold twoE; rw [if_neg h]
theorem twoE_snd {a b : Tm} (h : mayE a = 0) : twoE a b = mayE b := by unfold twoE; rw [if_pos h]
set_option maxHeartbeats 1000000 in
theorem ucheck_any (ls : List Pr) (u : Value) (w : World) (X : Nat → Prop) (hu : QV w X u ls) :
    Calls Try.prog 27 #[u] w fun e w' => e = .returned (.int .i64 (pairsE ls)) ∧ Below w.heap.size w w' := by
  have HU := hide (hu.mono (Y := fun b => X b ∧ b < w.heap.size) fun b h1 h2 => ⟨h1, h2⟩)
  obtain ⟨a, c, rfl, hl, hu2⟩ := hu
  clear hu2
  go_enter Try.func27, Try.ntmps27
  by_cases h40 : 40 < ls.length
  · go_wp2_with fail
    go_ret
    exact ⟨ret_int (by unfold pairsE; rw [if_pos h40]), Below.refl _ _⟩
  · go_wp2_with fail
    go_loopw [12] (fun v wr => PmInv ls w v wr) (fun v wr => ls.length - (intOf v).toNat)
    case atStart => exact ⟨0, rfl, Nat.zero_le _, rfl, Below.refl _ _⟩
    case round =>
      obtain ⟨k, rfl, hk, hT, hb⟩ := hrel
      have HB := hide hb
      have HT := hide hT
      clear hT
      by_cases hlt : k < ls.length
      · obtain ⟨b, o, a1, c1, a2, c2, rfl, d0, d1, d2, d3, hs1, hs2⟩ := (HU.out.later hb).get k hlt
        have hlt2 : (k : Int) < (ls.length : Int) := by omega
        have hbA : Below wr.heap.size wr (wr.alloc (.cells #[.string ls[k].l.name, .slice a1 ls[k].l.args.length c1, .string ls[k].r.name, .slice a2 ls[k].r.args.length c2] 80)) := (Below.refl _ _).alloc (Nat.le_refl _) _
        have HX1 := hide (hs1.later hbA)
        have HX2 := hide (hs2.later hbA)
        have P1 := hide (Blk.new wr #[.string ls[k].l.name, .slice a1 ls[k].l.args.length c1, .string ls[k].r.name, .slice a2 ls[k].r.args.length c2] 80)
        have HB1 := hide (hb.trans (hbA.mono hb.size))
        have HY := hide (pmT_err hlt h40 HT.out)
        have HN := hide (pmT_next hlt HT.out)
        clear hs1 hs2 hb hbA
        generalize ls[k] = d at *
        go_wp2_with fail
        generalize wr.alloc (.cells #[.string d.l.name, .slice a1 d.l.args.length c1, .string d.r.name, .slice a2 d.r.args.length c2] 80) = w1 at *
        generalize wr.heap.size = P at *
        refine (check_any d.l _ _ _ ⟨a1, c1, rfl, HX1.out⟩).mono ?_
        rintro e w2 ⟨rfl, hb2⟩
        have HX3 := hide (HX2.out.later hb2)
        have HB2 := hide (HB1.out.trans (hb2.mono HB1.out.size))
        have p2 := cell_later hb2 (P1.out.cell 2)
        have p3 := cell_later hb2 (P1.out.cell 3)
        clear hb2
        by_cases hm : mayE d.l = 0
        · have HM := hide (twoE_snd (b := d.r) hm)
          rw [hm]
          clear hm
          go_wp2_with fail
          refine (check_any d.r _ _ _ ⟨a2, c2, rfl, HX3.out⟩).mono ?_
          rintro e w3 ⟨rfl, hb3⟩
          have HB3 := hide (HB2.out.trans (hb3.mono HB2.out.size))
          clear hb3
          by_cases hm : mayE d.r = 0
          · have HF : Hid (pmT ls (k + 1) = 0) := by unfold Hid; rw [HN.out, HM.out, hm]
            rw [hm]
            clear hm
            go_wp2_with fail
            go_roundw
            case rel => exact ⟨k + 1, by go_num, by omega, HF.out, HB3.out⟩
            case measure => simp [intOf]; omega
          · have hm2 : (mayE d.r == 0) = false := by simpa using hm
            have HF : Hid (pairsE ls = mayE d.r) := by unfold Hid; rw [HY.out (by rw [HM.out]; exact hm), HM.out]
            clear hm
            go_wp2_with fail
            go_ret
            exact ⟨ret_int HF.out.symm, HB3.out⟩
        · have hm2 : (mayE d.l == 0) = false := by simpa using hm
          have HF : Hid (pairsE ls = mayE d.l) := by unfold Hid; rw [HY.out (by rw [twoE_fst hm]; exact hm), twoE_fst hm]
          clear hm
          go_wp2_with fail
          go_ret
          exact ⟨ret_int HF.out.symm, HB2.out⟩
      · have hkl : k = ls.length := by omega
        go_wp2_with fail
        go_ret
        exact ⟨ret_int (by unfold pairsE; rw [if_neg h40, ← hkl]; exact HT.out.symm), HB.out⟩
#print axioms ucheck_any
#print axioms hugePairs_any
#print axioms pairsMay_any
end Go.Proofs.Ytpjdkdebjkpmmab

/- Walks: is all small, with what stands for variables? And what refuses equations soon. -/
namespace Go.Proofs.Ytpjdkdebjkpmmab
open Go.RowKit
set_option linter.unusedSimpArgs false
set_option linter.unusedVariables false
set_option maxRecDepth 8000

theorem QV.at {w : World} {X : Nat → Prop} {a : Option Addr} {n c : Nat} {l : List Pr} (h : QV w X (.slice a n c) l) (i : Nat) (hi : i < l.length) : ∃ b o, a = some ⟨b, o, none⟩ ∧ PX w X b (o + i * 4) l[i].l ∧ PX w X b (o + i * 4 + 2) l[i].r := by
  obtain ⟨a2, c2, e, hl, h⟩ := h
  simp at e
  obtain ⟨rfl, rfl, rfl⟩ := e
  rcases h with h | ⟨b, o, ea, hX, h⟩
  · subst h; simp at hi
  · obtain ⟨a1, c1, a2, c2, h1, h2, h3, h4, h5, h6⟩ := h i hi
    exact ⟨b, o, ea, ⟨⟨a1, c1, h1, h2, h5, cell_lt h1⟩, hX⟩, ⟨⟨a2, c2, h3, h4, h6, cell_lt h3⟩, hX⟩⟩
theorem QV.exq {w w' : World} {X Q : Nat → Prop} {v : Value} {l : List Pr} (h : QV w X v l) (he : ExQ Q w w') (hX : ∀ b, X b → ¬ Q b) : QV w' X v l :=
  ((h.mono (Y := fun b => X b ∧ b < w.heap.size) fun b h1 h2 => ⟨h1, h2⟩).kept fun b hb => he.block b hb.2 (hX b hb.1)).mono fun b hb _ => hb.1

def SmP (w : World) (S q : Nat) (X : Nat → Prop) (Z : List Zp) (left : Int) (ls : List Pr) (e : Ending) (w' : World) : Prop :=
  ∃ (r : Bool) (n : Int), e = .returned (.bool r) ∧ SkS w' S q X Z n ∧ ExQ (SkQ S q) w w' ∧ (left < 0 → ls ≠ [] → r = false) ∧ ∀ s, Clo Z s → r = true → ∀ p ∈ ls, sizeL [onT s p.l] ≤ 2000 ∧ sizeL [onT s p.r] ≤ 2000
def SmI (w : World) (S q : Nat) (X : Nat → Prop) (Z : List Zp) (left : Int) (ls : List Pr) (i : Value) (wr : World) : Prop :=
  ∃ (k : Nat) (n : Int), k ≤ ls.length ∧ i = .int .i64 (k : Int) ∧ SkS wr S q X Z n ∧ ExQ (SkQ S q) w wr ∧ n ≤ left ∧ -100 ≤ n ∧ (0 < k → 0 ≤ left) ∧ ∀ s, Clo Z s → ∀ j (h : j < ls.length), j < k → sizeL [onT s ls[j].l] ≤ 2000 ∧ sizeL [onT s ls[j].r] ≤ 2000

set_option maxHeartbeats 2000000 in
theorem skSmall_any (S q : Nat) (X : Nat → Prop) (Z : List Zp) (hZ : ∀ z ∈ Z, errL [z.t] = 0) (left : Int) (h0 : -100 ≤ left) (h1 : left ≤ 100000) (ls : List Pr) (hls : ∀ p ∈ ls, errL [p.l] = 0 ∧ errL [p.r] = 0) (v : Value) (w : World) (hS : SkS w S q X Z left) (hv : QV w X v ls) :
    Calls Try.prog 82 #[.pointer (some ⟨S, 0, none⟩), v] w fun e w' => SmP w S q X Z left ls e w' := by
  have HS := hide hS
  have HV := hide hv
  have HSX := hide hS.X
  have HLS := hide hls
  obtain ⟨a, c, rfl, ⟨hl1, hl2⟩, _⟩ := hv
  clear hS hls
  go_enter Try.func82, Try.ntmps82
  go_wp2_with fail
  go_loopw [8] (fun i wr => SmI w S q X Z left ls i wr) (fun i wr => ls.length - (intOf i).toNat)
  case atStart => exact ⟨0, left, Nat.zero_le _, rfl, HS.out, ExQ.refl _ _, Int.le_refl _, h0, fun h => absurd h (by omega), fun _ _ j _ h => absurd h (by omega)⟩
  case round =>
    obtain ⟨k, n, hk, rfl, hS3, hE3, hn3, hn4, hk0, hno⟩ := hrel
    have HS3 := hide hS3
    have HE3 := hide hE3
    have HNO := hide hno
    clear hS3 hE3 hno
    by_cases hlk : k < ls.length
    · obtain ⟨b, o, rfl, hpl, hpr⟩ := (HV.out.exq HE3.out HSX.out).at k hlk
      have hk2 : (k : Int) < (ls.length : Int) := by omega
      have HPL := hide hpl
      have HPR := hide hpr
      have hel := HLS.out ls[k] (List.getElem_mem hlk)
      clear hpl hpr
      go_wp2_with fail
      refine (skCount_any S q X Z hZ 2001 0 n ls[k].l b (o + k * 4) wr rfl (by omega) hn4 (by omega) HS3.out HPL.out hel.1).mono ?_
      rintro e w5 ⟨c5, n5, rfl, hS5, hE5, hn5, hn6, hc6, hc7, hc8, hc9⟩
      have HS5 := hide hS5
      have HE5 := hide (HE3.out.trans hE5)
      have HP5 := hide (HPR.out.exq hE5 HSX.out)
      have HC5 := hide hc9
      clear hS5 hE5 hc9
      by_cases hgt : 2000 < c5
      · have hgt2 : (2000 : Int) < (c5 : Int) := by omega
        go_wp2_with fail
        refine bodyPost_ret (v := .bool false) (by simp [results, Try.results82, go_sem]) rfl ?_
        exact ⟨false, n5, rfl, HS5.out, HE5.out, fun _ _ => rfl, fun _ _ h => absurd h (by simp)⟩
      · have hgt2 : ¬ (2000 : Int) < (c5 : Int) := by omega
        have hn50 : 0 ≤ n5 := by
          by_cases h : n5 < 0
          · have := hc8 h; omega
          · omega
        go_wp2_with fail
        refine (skCount_any S q X Z hZ 2001 0 n5 ls[k].r b (o + k * 4 + 2) w5 rfl (by omega) (by omega) (by omega) HS5.out HP5.out hel.2).mono ?_
        rintro e w6 ⟨c6, n6, rfl, hS6, hE6, hm5, hm6, hd6, hd7, hd8, hd9⟩
        have HS6 := hide hS6
        have HE6 := hide (HE5.out.trans hE6)
        have HC6 := hide hd9
        clear hS6 hE6 hd9
        by_cases hgu : 2000 < c6
        · have hgu2 : (2000 : Int) < (c6 : Int) := by omega
          go_wp2_with fail
          refine bodyPost_ret (v := .bool false) (by simp [results, Try.results82, go_sem]) rfl ?_
          exact ⟨false, n6, rfl, HS6.out, HE6.out, fun _ _ => rfl, fun _ _ h => absurd h (by simp)⟩
        · have hgu2 : ¬ (2000 : Int) < (c6 : Int) := by omega
          go_wp2_with fail
          go_roundw
          case rel => exact ⟨k + 1, n6, by omega, by go_num, HS6.out, HE6.out, by omega, by omega, fun _ => by omega, fun s hs j h hj => by
            by_cases e : j = k
            · subst e
              have g1 := HC5.out s hs (by omega)
              have g2 := HC6.out s hs (by omega)
              omega
            · exact HNO.out s hs j h (by omega)⟩
          case measure => simp [intOf]; omega
    · go_wp2_with fail
      refine bodyPost_ret (v := .bool true) (by simp [results, Try.results82, go_sem]) rfl ?_
      refine ⟨true, n, rfl, HS3.out, HE3.out, fun hl hne => ?_, fun s hs _ p hp => ?_⟩
      · have : 0 < ls.length := List.length_pos_iff.2 hne
        have := hk0 (by omega)
        omega
      · obtain ⟨j, hj, rfl⟩ := List.getElem_of_mem hp
        exact HNO.out s hs j hj (by omega)

/-- What is known behind a refusal. -/
def RfP (w : World) (ls : List Pr) (e : Ending) (w' : World) : Prop :=
  ∃ code : Int, e = .returned (.int .i64 code) ∧ Below w.heap.size w w' ∧ (code ≠ 0 → ∃ n sf, uRun false n [] ls = some (code, sf) ∧ grtB sf = false)
def RfI (w : World) (S q : Nat) (X : Nat → Prop) (ls : List Pr) (i : Value) (wr : World) : Prop :=
  ∃ (k : Nat) (n : Int) (Z : List Zp) (s : List Bd), k ≤ ls.length ∧ i = .int .i64 (k : Int) ∧ SkS wr S q X Z n ∧ ExQ (SkQ S q) w wr ∧ n ≤ 100000 ∧ 0 ≤ n ∧ Clo Z s ∧ FR [] (ls.take k) 0 s

set_option maxHeartbeats 2000000 in
theorem refusal_any (ls : List Pr) (hls : errL (flatP ls) = 0) (v : Value) (w : World) (X : Nat → Prop) (hv : QV w X v ls) :
    Calls Try.prog 57 #[v] w fun e w' => RfP w ls e w' := by
  have HV := hide (hv.mono (Y := fun b => X b ∧ b < w.heap.size) fun b h1 h2 => ⟨h1, h2⟩)
  have HLS := hide (err_flat hls)
  obtain ⟨a, c, rfl, ⟨hl1, hl2⟩, _⟩ := hv
  have hmm := @run_makeMap Try.prog
  go_enter Try.func57, Try.ntmps57
  go_wp2_with fail
  have hB2 : Below w.heap.size w ((w.alloc (.map #[] 0)).alloc (.cells #[.map (some w.heap.size), .int .i64 100000] 101)) := ((Below.refl _ _).alloc (Nat.le_refl _) _).alloc (by simp) _
  have hSB : Blk ((w.alloc (.map #[] 0)).alloc (.cells #[.map (some w.heap.size), .int .i64 100000] 101)) (w.heap.size + 1) #[.map (some w.heap.size), .int .i64 100000] 101 := by
    have h1 := Blk.new (w.alloc (.map #[] 0)) #[.map (some w.heap.size), .int .i64 100000] 101
    rw [World.size_alloc] at h1
    exact h1
  have hMA : MapAt ((w.alloc (.map #[] 0)).alloc (.cells #[.map (some w.heap.size), .int .i64 100000] 101)) w.heap.size [] := (MapAt.new w).kept (Below.heap_alloc _ _ _ (by simp))
  generalize (w.alloc (.map #[] 0)).alloc (.cells #[.map (some w.heap.size), .int .i64 100000] 101) = w2 at *
  have hS2 : SkS w2 (w.heap.size + 1) w.heap.size (fun b => X b ∧ b < w.heap.size) [] 100000 := ⟨hSB, hMA, by simp, fun b hb => ⟨by omega, by omega⟩⟩
  have HV2 := hide (HV.out.later hB2)
  have HSX := hide hS2.X
  have HS2 := hide hS2
  have HB2 := hide hB2
  have hw2 : w.heap.size ≤ w2.heap.size := hB2.size
  have HBW : Hid (∀ w', ExQ (SkQ (w.heap.size + 1) w.heap.size) w2 w' → Below w.heap.size w w') := fun w' h => HB2.out.trans (h.below hw2 (fun b hb => by rcases hb with e | e <;> omega))
  clear hS2 hB2 hSB hMA
  go_loopw [10] (fun i wr => RfI w2 (w.heap.size + 1) w.heap.size (fun b => X b ∧ b < w.heap.size) ls i wr) (fun i wr => ls.length - (intOf i).toNat)
  case atStart => exact ⟨0, 100000, [], [], Nat.zero_le _, rfl, HS2.out, ExQ.refl _ _, by omega, by omega, clo_nil, by simpa using FR.done []⟩
  case round =>
    obtain ⟨k, n, Z, s, hk, rfl, hS3, hE3, hn3, hn4, hC3, hF3⟩ := hrel
    have HS3 := hide hS3
    have HE3 := hide hE3
    have HC3 := hide hC3
    have HF3 := hide hF3
    clear hS3 hE3 hC3 hF3
    by_cases hlk : k < ls.length
    · have hVk := HV2.out.exq HE3.out HSX.out
      have HVK := hide hVk
      obtain ⟨b, o, rfl, hpl, hpr⟩ := hVk.at k hlk
      have hk2 : (k : Int) < (ls.length : Int) := by omega
      have hel := HLS.out ls[k] (List.getElem_mem hlk)
      have hD : Below wr.heap.size wr wr.drew := (Below.refl _ _).drew
      have HW := hide (skWork_any (w.heap.size + 1) w.heap.size (fun b => X b ∧ b < w.heap.size) n.toNat n Z s ls[k].l ls[k].r b (o + k * 4) b (o + k * 4 + 2) wr.drew rfl hn4 hn3 HC3.out (HS3.out.later hD) (hpl.exq (ExQ.ofBelow (Q := SkQ (w.heap.size + 1) w.heap.size) hD) HSX.out) (hpr.exq (ExQ.ofBelow (Q := SkQ (w.heap.size + 1) w.heap.size) hD) HSX.out) hel.1 hel.2)
      have HWZ : Hid (w.heap.size ≤ wr.heap.size) := Nat.le_trans hw2 HE3.out.size
      clear hpl hpr hD hVk
      go_wp2_with fail
      go_region_held3 (fun w' => w.heap.size ≤ w'.heap.size) (first | exact HWZ.out | exact hS5' | go_keep)
        ((go_at_call 81; refine HW.out.mono ?_; rintro e w5 ⟨code, n5, Z5, rfl, hS5, hZ5, hE5, hn7, hn8, hc5, hr5⟩; have hS5' : w.heap.size ≤ w5.heap.size := Nat.le_trans HWZ.out hE5.size))
      have HS5 := hide hS5
      have HZ5 := hide hZ5
      have HE5 := hide ((HE3.out.drew).trans hE5)
      have HV5 := hide ((HVK.out.exq ((ExQ.refl (SkQ (w.heap.size + 1) w.heap.size) _).drew) HSX.out).exq hE5 HSX.out)
      have HR5 := hide hr5
      clear hS5 hZ5 hE5 hr5
      by_cases hcd : code = 0
      · subst hcd
        have hn9 : 0 ≤ n5 := by
          by_cases h : n5 < 0
          · exact absurd rfl (hc5 h)
          · omega
        obtain ⟨s5, hC5, hF5⟩ := HR5.out hn9
        have HC5 := hide hC5
        have HF5 := hide (pr_next hlk HF3.out hF5)
        clear hC5 hF5
        go_wp2_with fail
        go_roundw
        case rel => exact ⟨k + 1, n5, Z5, s5, by omega, by go_num, HS5.out, HE5.out, by omega, hn9, HC5.out, HF5.out⟩
        case measure => simp [intOf]; omega
      · have hcd2 : (code == 0) = false := beq_eq_false_iff_ne.2 hcd
        have hcd3 : (code != 0) = true := by simp [bne, hcd2]
        have HCD := hide hcd
        clear hcd
        go_wp2_with fail
        refine (skSmall_any (w.heap.size + 1) w.heap.size (fun b => X b ∧ b < w.heap.size) Z5 HZ5.out n5 (by omega) (by omega) ls HLS.out _ w5 HS5.out HV5.out).mono ?_
        rintro e w6 ⟨r, n6, rfl, hS6, hE6, hlow, hsm⟩
        have HE6 := hide (HE5.out.trans hE6)
        have HSM := hide hsm
        clear hS6 hE6 hsm
        cases r with
        | true =>
          have hn9 : 0 ≤ n5 := by
            by_cases h : n5 < 0
            · have := hlow h (fun e => by rw [e] at hlk; simp at hlk)
              cases this
            · omega
          obtain ⟨s5, hC5, hF5⟩ := HR5.out hn9
          have HEN := hide (FR.ends (pr_fail (k + 1) HCD.out (pr_next hlk HF3.out hF5)) hls (HSM.out s5 hC5 rfl))
          clear hC5 hF5
          go_wp2_with fail
          refine bodyPost_ret (v := .int .i64 code) (by simp [results, Try.results57, go_sem]) rfl ?_
          obtain ⟨⟨g, hg⟩, hgr⟩ := HEN.out
          exact ⟨code, rfl, HBW.out _ HE6.out, fun _ => ⟨g, s5, hg, hgr⟩⟩
        | false =>
          go_wp2_with fail
          refine bodyPost_ret (v := .int .i64 0) (by simp [results, Try.results57, go_sem]) rfl ?_
          exact ⟨0, rfl, HBW.out _ HE6.out, fun h => absurd rfl h⟩
    · go_wp2_with fail
      refine bodyPost_ret (v := .int .i64 0) (by simp [results, Try.results57, go_sem]) rfl ?_
      exact ⟨0, rfl, HBW.out _ HE3.out, fun h => absurd rfl h⟩
theorem uRun_det {lim : Bool} : ∀ (n m : Nat) (s : List Bd) (l : List Pr) (r r' : Int × List Bd), uRun lim n s l = some r → uRun lim m s l = some r' → r = r'
  | 0, _, _, _, _, _, h, _ => by cases h
  | _ + 1, 0, _, _, _, _, _, h => by cases h
  | n + 1, m + 1, s, l, r, r', h, h' => by
    rw [uRun] at h h'
    cases hn : uNext lim s l with
    | stop e s' =>
      rw [hn] at h h'
      cases h; cases h'; rfl
    | go s' l' =>
      rw [hn] at h h'
      exact uRun_det n m s' l' r r' h h'
#print axioms refusal_any
end Go.Proofs.Ytpjdkdebjkpmmab

/- A map by texts as the library's contracts on maps say it: its keys. -/
namespace Go.Proofs.Ytpjdkdebjkpmmab
open Go.RowKit
set_option linter.unusedSimpArgs false
set_option linter.unusedVariables false
set_option maxRecDepth 8000

def rdU : Value → Option (DataW Unit × List MemPlace) := fun _ => some (.nil, [])
theorem ownsMap_of {w : World} {q : Nat} {L : List (ByteArray × Value)} (h : MapAt w q L) (hap : (L.map (·.1)).Pairwise (· ≠ ·)) (hsz : ∀ p ∈ L, p.1.size ≤ maxLen) (hl : L.length ≤ maxLen) :
    ∃ D0 : DataW Unit, w.ownsMap Try.prog 9 rdU q L.length D0 ∧ (strKeys D0).Perm (L.map (fun p => p.1.data.toList)) ∧ Go.Maps.size D0 = L.length := by
  obtain ⟨es, clk, hb, he, hst⟩ := h
  have hlen : es.toList.length = L.length := by have := congrArg List.length he; simpa using this
  have hkey : ∀ i (h1 : i < es.toList.length) (h2 : i < L.length), es.toList[i].key = .string L[i].1 := fun i h1 h2 => by
    have e1 : (es.toList.map (fun e => (e.key, e.val)))[i]? = (L.map (fun p => (Value.string p.1, p.2)))[i]? := by rw [he]
    rw [List.getElem?_map, List.getElem?_map, List.getElem?_eq_getElem h1, List.getElem?_eq_getElem h2] at e1
    simp only [Option.map_some, Option.some.injEq, Prod.mk.injEq] at e1
    exact e1.1
  have hmem : ∀ x ∈ es.toList, ∃ p ∈ L, x.key = .string p.1 := fun x hx => by
    obtain ⟨i, hi, rfl⟩ := List.getElem_of_mem hx
    have h2 : i < L.length := by omega
    exact ⟨L[i], List.getElem_mem h2, hkey i hi h2⟩
  have hrd : ∀ x ∈ es.toList, ∀ s : ByteArray, x.key = .string s → s.size ≤ maxLen → WideElems.rd Try.prog 9 rdU x = some (.string s.data.toList, .nil) := fun x hx s hs hz => by
    unfold WideElems.rd rdU
    rw [hs, Go.WideMaps.keyOf_string_mk Try.underlying9 hz]
    rfl
  have F : WideElems.Fit Try.prog 9 rdU es clk := by
    refine ⟨by rw [← Array.length_toList]; omega, (MapKept.stamped_iff es clk).2 ⟨hst.1, hst.2, ?_⟩, fun x hx => ?_⟩
    · rw [List.pairwise_iff_getElem]
      intro i j hi hj hij e
      rw [hkey i hi (by omega), hkey j hj (by omega)] at e
      rw [List.pairwise_map, List.pairwise_iff_getElem] at hap
      have := hap i j (by omega) (by omega) hij
      exact this (by simpa using e)
    · obtain ⟨p, hp, e⟩ := hmem x hx
      exact ⟨_, hrd x hx p.1 e (hsz p hp)⟩
  refine ⟨.map ((es.toList.map (WideElems.rg Try.prog 9 rdU)).foldr DataW.insert []), ⟨es, clk, hb, F, by rw [← Array.length_toList]; omega, rfl⟩, ?_, ?_⟩
  · have h1 : (strKeys (DataW.map ((es.toList.map (WideElems.rg Try.prog 9 rdU)).foldr DataW.insert []) : DataW Unit)).Perm ((es.toList.map (WideElems.rg Try.prog 9 rdU)).map fun p => strOf p.1) := (WideShapes.sorted_perm _).map _
    refine h1.trans ?_
    have h2 : (es.toList.map (WideElems.rg Try.prog 9 rdU)).map (fun p => strOf p.1) = L.map (fun p => p.1.data.toList) := by
      refine List.ext_getElem (by simp; omega) fun i h3 h4 => ?_
      simp only [List.length_map] at h3 h4
      simp only [List.getElem_map]
      unfold WideElems.rg
      rw [hrd _ (List.getElem_mem h3) L[i].1 (hkey i h3 h4) (hsz _ (List.getElem_mem h4))]
      rfl
    rw [h2]
  · rw [Maps.size_eq, Go.length_sorted]
    simpa using hlen
#print axioms ownsMap_of
end Go.Proofs.Ytpjdkdebjkpmmab

/-
  DERIVED: THE SHELF's CONTRACTS AT THIS DUMP, IN PLAIN WORDS (tools/lay-plain.mjs out of 'TryIterS.lean', which tools/lay-shelf.mjs wrote): THE SAME DECLARATIONS UNDER THE SAME NAMES: 'import', 'namespace', 'open', 'def', 'theorem' AND NOTHING ELSE: no command of the shelf's: FOR A HAND-IN. Each laying: the table of numbers ('.._ren') and one theorem, a field a fact of the dump's own or the kernel's comparison; each contract: ONE APPLICATION.
-/
namespace Go.Proofs
open Go.Shelf
def Try.keysK_ren : Go.Shelf.Ren := ⟨fun | 7 => 107 | 10 => 125 | n => n, fun | 23 => 103 | 26 => 9 | 3 => 136 | 28 => 133 | 0 => 0 | 27 => 132 | 33 => 81 | 4 => 4 | n => n, fun | n => n⟩
theorem Try.keysK : Go.Proofs.SlLaysZ.n7 Try.prog Try.keysK_ren := {
  mixed := by kernel_rfl
  f7 := ⟨Try.f107.name, by decide, Try.func107.trans (congrArg some (by kernel_rfl))⟩
  f10 := ⟨Try.f125.name, by decide, Try.func125.trans (congrArg some (by kernel_rfl))⟩
  t0 := Try.underlying0
  a0 := Try.isAgg0
  z0 := Try.sizeOf0
  v0 := Try.zeroValue0
  t4 := Try.underlying4
  a4 := Try.isAgg4
  z4 := Try.sizeOf4
  v4 := Try.zeroValue4
  t23 := Try.underlying103
  a23 := Try.isAgg103
  z23 := Try.sizeOf103
  v23 := Try.zeroValue103
  t26 := Try.underlying9
  a26 := Try.isAgg9
  z26 := Try.sizeOf9
  v26 := Try.zeroValue9
  t27 := Try.underlying132
  a27 := Try.isAgg132
  z27 := Try.sizeOf132
  v27 := Try.zeroValue132
  t28 := Try.underlying133
  a28 := Try.isAgg133
  z28 := Try.sizeOf133
  v28 := Try.zeroValue133
  t33 := Try.underlying81
  a33 := Try.isAgg81
  z33 := Try.sizeOf81
  v33 := Try.zeroValue81 }
def Try.sortedK_ren : Go.Shelf.Ren := ⟨fun | 6 => 106 | 8 => 123 | 9 => 124 | 11 => 135 | 13 => 96 | 12 => 136 | 23 => 119 | 24 => 120 | 14 => 138 | 15 => 139 | 16 => 140 | 17 => 141 | 18 => 142 | 19 => 143 | 20 => 144 | 21 => 145 | 22 => 146 | 25 => 147 | 26 => 130 | 27 => 131 | 28 => 148 | 29 => 149 | 30 => 97 | 31 => 150 | n => n, fun | 26 => 9 | 28 => 133 | 24 => 52 | 0 => 0 | 3 => 3 | 37 => 119 | 48 => 150 | 50 => 152 | 4 => 4 | 40 => 143 | 39 => 142 | 45 => 147 | 5 => 5 | 9 => 9 | 51 => 159 | 55 => 163 | 57 => 168 | 58 => 169 | 33 => 81 | n => n, fun | n => n⟩
theorem Try.sortedK : Go.Proofs.SlLaysZ.n6 Try.prog Try.sortedK_ren := {
  mixed := by kernel_rfl
  f6 := ⟨Try.f106.name, by decide, Try.func106.trans (congrArg some (by kernel_rfl))⟩
  f8 := ⟨Try.f123.name, by decide, Try.func123.trans (congrArg some (by kernel_rfl))⟩
  f11 := ⟨Try.f135.name, by decide, Try.func135.trans (congrArg some (by kernel_rfl))⟩
  t0 := Try.underlying0
  a0 := Try.isAgg0
  z0 := Try.sizeOf0
  v0 := Try.zeroValue0
  t24 := Try.underlying52
  a24 := Try.isAgg52
  z24 := Try.sizeOf52
  v24 := Try.zeroValue52
  t26 := Try.underlying9
  a26 := Try.isAgg9
  z26 := Try.sizeOf9
  v26 := Try.zeroValue9
  t28 := Try.underlying133
  a28 := Try.isAgg133
  z28 := Try.sizeOf133
  v28 := Try.zeroValue133
  i26 := by kernel_rfl }
def Try.sortK_ren : Go.Shelf.Ren := ⟨fun | 6 => 124 | 8 => 96 | 9 => 136 | 19 => 119 | 20 => 120 | 21 => 138 | 22 => 139 | 23 => 140 | 24 => 141 | 25 => 142 | 26 => 143 | 27 => 144 | 28 => 145 | 29 => 146 | 36 => 147 | 31 => 130 | 32 => 131 | 37 => 148 | 38 => 149 | 39 => 97 | 41 => 150 | n => n, fun | 27 => 52 | 29 => 9 | 3 => 3 | 32 => 119 | 26 => 52 | 0 => 0 | 44 => 150 | 46 => 152 | 4 => 4 | 36 => 143 | 35 => 142 | 41 => 147 | 5 => 5 | 9 => 9 | 53 => 159 | 57 => 163 | 63 => 168 | 64 => 169 | n => n, fun | n => n⟩
theorem Try.sortK : Go.Proofs.SlLaysM.n6 Try.prog Try.sortK_ren := {
  mixed := by kernel_rfl
  f6 := ⟨Try.f124.name, by decide, Try.func124.trans (congrArg some (by kernel_rfl))⟩
  f8 := Try.func96.trans (congrArg some (by kernel_rfl))
  f9 := ⟨Try.f136.name, by decide, Try.func136.trans (congrArg some (by kernel_rfl))⟩
  f19 := Try.func119.trans (congrArg some (by kernel_rfl))
  f20 := Try.func120.trans (congrArg some (by kernel_rfl))
  f21 := ⟨Try.f138.name, by decide, Try.func138.trans (congrArg some (by kernel_rfl))⟩
  f22 := ⟨Try.f139.name, by decide, Try.func139.trans (congrArg some (by kernel_rfl))⟩
  f23 := ⟨Try.f140.name, by decide, Try.func140.trans (congrArg some (by kernel_rfl))⟩
  f24 := ⟨Try.f141.name, by decide, Try.func141.trans (congrArg some (by kernel_rfl))⟩
  f25 := ⟨Try.f142.name, by decide, Try.func142.trans (congrArg some (by kernel_rfl))⟩
  f26 := ⟨Try.f143.name, by decide, Try.func143.trans (congrArg some (by kernel_rfl))⟩
  f27 := ⟨Try.f144.name, by decide, Try.func144.trans (congrArg some (by kernel_rfl))⟩
  f28 := ⟨Try.f145.name, by decide, Try.func145.trans (congrArg some (by kernel_rfl))⟩
  f29 := ⟨Try.f146.name, by decide, Try.func146.trans (congrArg some (by kernel_rfl))⟩
  f31 := Try.func130.trans (congrArg some (by kernel_rfl))
  f32 := Try.func131.trans (congrArg some (by kernel_rfl))
  f36 := ⟨Try.f147.name, by decide, Try.func147.trans (congrArg some (by kernel_rfl))⟩
  f37 := ⟨Try.f148.name, by decide, Try.func148.trans (congrArg some (by kernel_rfl))⟩
  f38 := ⟨Try.f149.name, by decide, Try.func149.trans (congrArg some (by kernel_rfl))⟩
  f39 := ⟨Try.f97.name, by decide, Try.func97.trans (congrArg some (by kernel_rfl))⟩
  f41 := ⟨Try.f150.name, by decide, Try.func150.trans (congrArg some (by kernel_rfl))⟩
  t0 := Try.underlying0
  a0 := Try.isAgg0
  z0 := Try.sizeOf0
  v0 := Try.zeroValue0
  t3 := Try.underlying3
  a3 := Try.isAgg3
  z3 := Try.sizeOf3
  v3 := Try.zeroValue3
  t4 := Try.underlying4
  a4 := Try.isAgg4
  z4 := Try.sizeOf4
  v4 := Try.zeroValue4
  t5 := Try.underlying5
  a5 := Try.isAgg5
  z5 := Try.sizeOf5
  v5 := Try.zeroValue5
  t9 := Try.underlying9
  a9 := Try.isAgg9
  z9 := Try.sizeOf9
  v9 := Try.zeroValue9
  t26 := Try.underlying52
  a26 := Try.isAgg52
  z26 := Try.sizeOf52
  v26 := Try.zeroValue52
  t27 := Try.underlying52
  a27 := Try.isAgg52
  z27 := Try.sizeOf52
  v27 := Try.zeroValue52
  t29 := Try.underlying9
  a29 := Try.isAgg9
  z29 := Try.sizeOf9
  v29 := Try.zeroValue9
  t32 := Try.underlying119
  a32 := Try.isAgg119
  z32 := Try.sizeOf119
  v32 := Try.zeroValue119
  t35 := Try.underlying142
  a35 := Try.isAgg142
  z35 := Try.sizeOf142
  v35 := Try.zeroValue142
  t36 := Try.underlying143
  a36 := Try.isAgg143
  z36 := Try.sizeOf143
  v36 := Try.zeroValue143
  t41 := Try.underlying147
  a41 := Try.isAgg147
  z41 := Try.sizeOf147
  v41 := Try.zeroValue147
  t44 := Try.underlying150
  a44 := Try.isAgg150
  z44 := Try.sizeOf150
  v44 := Try.zeroValue150
  t46 := Try.underlying152
  a46 := Try.isAgg152
  z46 := Try.sizeOf152
  v46 := Try.zeroValue152
  t53 := Try.underlying159
  a53 := Try.isAgg159
  z53 := Try.sizeOf159
  v53 := Try.zeroValue159
  t57 := Try.underlying163
  a57 := Try.isAgg163
  z57 := Try.sizeOf163
  v57 := Try.zeroValue163
  t63 := Try.underlying168
  a63 := Try.isAgg168
  z63 := Try.sizeOf168
  v63 := Try.zeroValue168
  t64 := Try.underlying169
  a64 := Try.isAgg169
  z64 := Try.sizeOf169
  v64 := Try.zeroValue169 }
end Go.Proofs

/- The library's keys of a map, sorted. -/
namespace Go.Proofs.Ytpjdkdebjkpmmab
open Go.RowKit Go.Maps Go.Sort Go.Shelf
set_option linter.unusedSimpArgs false
set_option linter.unusedVariables false
set_option maxRecDepth 8000

theorem sortsK (m : Nat) : AnyZ.SortsIn Try.prog Try.sortedK_ren Fence.wide m :=
  ⟨fun blk off cap ss W hH hblk hsz => callsIn_wide.2 (AnyM.slices_Sort_string Try.sortK blk off cap ss W hH hblk hsz),
   fun p cap W => callsIn_wide.2 (AnyM.slices_Sort_string_none Try.sortK p cap W)⟩
theorem keysK_any (mb : Option Nat) (W : World) : CallsIn Fence.wide 5 Try.prog 107 #[.map mb] W fun e w' => e = .returned (.func (.func 125) #[] #[.pointer (some ⟨W.heap.size, 0, none⟩)]) ∧ w' = W.alloc (.cells #[.map mb] 103) :=
  AnyZ.keys_in Try.keysK Fence.wide 5 trivial rfl mb W
set_option maxHeartbeats 1000000 in
theorem sortedK_any {H : Type} (b nn : Nat) (D0 : DataW H) (R : Value → Option (DataW H × List MemPlace)) (w : World) (hown : w.ownsMap Try.prog 9 R b nn D0) (hmax : Maps.size D0 ≤ maxLen) (hbytes : Maps.size D0 * 16 ≤ 140737488355328) :
    CallsIn Fence.wide 5 Try.prog 106 #[.func (.func 125) #[] #[.pointer (some ⟨w.heap.size, 0, none⟩)]] (w.alloc (.cells #[.map (some b)] 103)) fun e w' => ∃ (v : Value) (ss : List (List UInt8)), e = .returned v ∧ ss.Perm (strKeys D0) ∧
      w'.ownsRow (w.alloc (.cells #[.map (some b)] 103)).heap.size 9 1 v ss.length ((ss.mergeSort (fun x y => decide (x ≤ y))).map encStr) ∧ (v = .slice none 0 0 ↔ ss = []) ∧ Below (w.alloc (.cells #[.map (some b)] 103)).heap.size (w.alloc (.cells #[.map (some b)] 103)) w' := by
  have hbl := hown.lt
  have hseq : SeqGives Fence.wide 2 Try.prog 125 #[.pointer (some ⟨w.heap.size, 0, none⟩)] encStr (fun ss => ss.Perm (strKeys D0)) (Maps.size D0) (w.alloc (.cells #[.map (some b)] 103)) :=
    AnyZ.keys_gives (ρ := Try.keysK_ren) { Try.keysK with } Fence.wide _ trivial rfl (by omega) w.heap.size b nn D0 _ (by simp) (by simp) (by
      obtain ⟨es, clock, hb, Ft, hs, hD⟩ := hown
      exact ⟨es, clock, (Below.heap_alloc _ _ b hbl).trans hb, Ft, hs, hD⟩)
  exact AnyZ.sorted_in Try.sortedK Fence.wide 5 trivial trivial trivial trivial rfl (by omega) (sortsK _) (enters_of Try.func124 (by kernel_rfl) rfl) 125 #[.pointer (some ⟨w.heap.size, 0, none⟩)] trivial (enters_of Try.func125 (by kernel_rfl) rfl) _ _ hmax hbytes _ hseq

theorem sortedKeys : SortedKeys := by
  intro q L w hM hap hsz hlen
  refine ⟨callsIn_wide.1 (keysK_any (some q) w), ?_⟩
  obtain ⟨D0, hown, hkeys, hsize⟩ := ownsMap_of hM hap (fun p hp => by have := hsz p hp; unfold maxLen; omega) (by unfold maxLen; omega)
  refine (callsIn_wide.1 (sortedK_any q L.length D0 rdU w hown (by rw [hsize]; unfold maxLen; omega) (by rw [hsize]; omega))).mono ?_
  rintro e w' ⟨v, ss, rfl, hp, hrow, _, hb⟩
  have hzw : (w.alloc (.cells #[.map (some q)] 103)).heap.size = w.heap.size + 1 := by simp
  rw [hzw] at hrow hb
  have hms := List.mergeSort_perm ss (fun x y => decide (x ≤ y))
  have hpw : (ss.mergeSort (fun x y => decide (x ≤ y))).Pairwise (fun a b => decide (a ≤ b) = true) := List.pairwise_mergeSort (fun a b c h1 h2 => by simp at *; exact List.le_trans h1 h2) (fun a b => by simp; exact List.le_total a b) ss
  generalize ss.mergeSort (fun x y => decide (x ≤ y)) = ms at *
  refine ⟨v, ms.map (fun l => ⟨l.toArray⟩), rfl, ?_, ?_, ?_, hb⟩
  · have h1 : ms.Perm (L.map (fun p => p.1.data.toList)) := (hms.trans hp).trans hkeys
    have h2 := h1.map (fun l : List UInt8 => (⟨l.toArray⟩ : ByteArray))
    simpa [Function.comp_def] using h2
  · rw [List.pairwise_map]
    refine hpw.imp fun {a b} h => ?_
    unfold ltB
    have e1 : (⟨b.toArray⟩ : ByteArray).toList = b := by rw [ByteArray.toList_eq]
    have e2 : (⟨a.toArray⟩ : ByteArray).toList = a := by rw [ByteArray.toList_eq]
    rw [e1, e2, bytesLess_eq]
    have h2 : a ≤ b := by simpa using h
    simpa using h2
  · have h1 := LV.of_own (f := Value.string) (l := ms.map (fun l : List UInt8 => (⟨l.toArray⟩ : ByteArray))) (w := w') (N := w.heap.size + 1) (T := 9) (v := v) (by
      have h2 : ms.length = ss.length := hms.length_eq
      rw [List.length_map, h2, List.map_map]
      exact hrow)
    exact h1
#print axioms sortedKeys
end Go.Proofs.Ytpjdkdebjkpmmab

/- Walks: what stands for a variable, as the document says. -/
namespace Go.Proofs.Ytpjdkdebjkpmmab
open Go.RowKit
set_option linter.unusedSimpArgs false
set_option linter.unusedVariables false
set_option maxRecDepth 8000

def ForPost (w : World) (X : Nat → Prop) (l : List Bd) (n : ByteArray) (e : Ending) (w' : World) : Prop :=
  Below w.heap.size w w' ∧ ((∃ t a c, forT l n = some t ∧ e = .returned (.tuple #[.agg #[.string t.name, .slice a t.args.length c], .bool true]) ∧ Sl w' X a t.args) ∨ (forT l n = none ∧ e = .returned (.tuple #[.agg #[.string ⟨#[]⟩, .slice none 0 0], .bool false])))

def FoInv (l : List Bd) (n : ByteArray) (w0 : World) (v : Value) (wr : World) : Prop := ∃ k : Nat, k ≤ l.length ∧ v = .int .i64 (k : Int) ∧ forT (l.take k) n = none ∧ wr = w0

set_option maxHeartbeats 1000000 in
theorem for_any (l : List Bd) (n : ByteArray) (v : Value) (w : World) (X0 : Nat → Prop) (hv0 : BV w X0 v l) :
    Calls Try.prog 61 #[v, .string n] w fun e w' => ForPost w (fun b => X0 b ∧ b < w.heap.size) l n e w' := by
  have HV := hide (hv0.mono (Y := fun b => X0 b ∧ b < w.heap.size) fun b h1 h2 => ⟨h1, h2⟩)
  obtain ⟨a, c, rfl, hl, hv⟩ := hv0
  clear hv
  go_enter Try.func61, Try.ntmps61
  go_wp2_with fail
  have R0 := hide (Blk.new w #[.string ⟨#[]⟩, .slice none 0 0] 29)
  have B0 := hide ((Below.refl w.heap.size w).alloc (Nat.le_refl _) (.cells #[.string ⟨#[]⟩, .slice none 0 0] 29))
  have V0 := hide (HV.out.alloc (.cells #[.string ⟨#[]⟩, .slice none 0 0] 29))
  generalize w.alloc (.cells #[.string ⟨#[]⟩, .slice none 0 0] 29) = w0 at *
  go_loopw [6] (fun v wr => FoInv l n w0 v wr) (fun v wr => l.length - (intOf v).toNat)
  case atStart => exact ⟨0, Nat.zero_le _, rfl, rfl, rfl⟩
  case round =>
    obtain ⟨k, hk, rfl, hno, rfl⟩ := hrel
    have HNO := hide hno
    clear hno
    have r0 : wr.cell? ⟨w.heap.size, 0, none⟩ = some (.string ⟨#[]⟩) := R0.out.cell 0
    have r1 : wr.cell? ⟨w.heap.size, 1, none⟩ = some (.slice none 0 0) := R0.out.cell 1
    have rf := R0.out.frozen
    by_cases hlt : k < l.length
    · obtain ⟨b, o, a', c', rfl, d0, d1, d2, hs⟩ := V0.out.get k hlt
      have hlt2 : (k : Int) < (l.length : Int) := by omega
      have HT := hide (forT_take hlt HNO.out)
      have HS := hide hs
      clear hs
      generalize l[k] = d at *
      by_cases he : d.nm = n
      · have heq := bytes_yes he
        have HF := hide (HT.out.1 he)
        clear he
        go_wp2_with fail
        refine bodyPost_ret (v := .tuple #[.agg #[.string d.t.name, .slice a' d.t.args.length c'], .bool true]) (by simp [results, Try.results61, go_sem, World.cell?_setCell_same, World.cell?_setCell_other, r0, r1]) rfl ?_
        refine ⟨(B0.out.setCell (by simp) _).setCell (by simp) _, Or.inl ⟨d.t, a', c', HF.out, rfl, HS.out.kept fun b hb => ?_⟩⟩
        rw [Below.heap_setCell _ _ _ _ (by simp; omega), Below.heap_setCell _ _ _ _ (by simp; omega)]
      · have heq := bytes_no he
        have HF := hide (HT.out.2 he)
        clear he
        go_wp2_with fail
        go_roundw
        case rel => exact ⟨k + 1, by omega, by go_num, HF.out, by trivial⟩
        case measure => simp [intOf]; omega
    · have htk : l.take k = l := List.take_of_length_le (by omega)
      have HF := hide HNO.out
      rw [htk] at HF
      clear htk
      go_wp2_with fail
      refine bodyPost_ret (v := .tuple #[.agg #[.string ⟨#[]⟩, .slice none 0 0], .bool false]) (by simp [results, Try.results61, go_sem, World.cell?_setCell_same, World.cell?_setCell_other, r0, r1]) rfl ?_
      exact ⟨(B0.out.setCell (by simp) _).setCell (by simp) _, Or.inr ⟨HF.out, rfl⟩⟩
#print axioms for_any
end Go.Proofs.Ytpjdkdebjkpmmab

/- Walks: how great a term would be with bindings in it. -/
namespace Go.Proofs.Ytpjdkdebjkpmmab
open Go.RowKit
set_option linter.unusedSimpArgs false
set_option linter.unusedVariables false
set_option maxRecDepth 8000

def GwInv (w0 : World) (M : Nat) (ls : List Bd) (l : List Tm) (most : Int) (n i : Value) (wr : World) : Prop := ∃ k : Nat, k ≤ l.length ∧ i = .int .i64 k ∧ n = .int .i64 (min (1 + sizeL (onL ls (l.take k))) (most + 1)) ∧ Below M w0 wr

set_option maxHeartbeats 1000000 in
theorem grown_any (ls : List Bd) (t : Tm) : ∀ (u v : Value) (most : Int) (w : World) (X : Nat → Prop), BV w X u ls → TV w X v t → 0 ≤ most → most ≤ 1000000 →
    Calls Try.prog 52 #[u, v, .int .i64 most] w fun e w' => e = .returned (.int .i64 (min (sizeL [onT ls t]) (most + 1))) ∧ Below w.heap.size w w' := by
  induction t using Tm.ind with
  | h s l ih =>
    intro u v most w X hu hv hm0 hm1
    obtain ⟨a, c, rfl, hs⟩ := hv
    have IH := hide ih
    have HU := hide hu
    have HS := hide hs
    have hl := hs.1
    clear ih hu hs
    go_enter Try.func52, Try.ntmps52
    go_wp2_with fail
    refine (for_any ls s u _ X (by exact HU.out.alloc _)).mono ?_
    rintro e w1 ⟨hb1, hcase⟩
    have T1 := hide ((Blk.new w #[.string s, .slice a l.length c] 29).below hb1 (by simp))
    have B1 := hide (((Below.refl w.heap.size w).alloc (Nat.le_refl _) (.cells #[.string s, .slice a l.length c] 29)).trans (hb1.mono (by simp)))
    have hlt1 : w.heap.size < w1.heap.size := T1.out.lt
    clear hb1
    have t0 : ∀ o, (w1.alloc o).cell? ⟨w.heap.size, 0, none⟩ = some (.string s) := fun o => (T1.out.alloc o).cell 0
    have t1 : ∀ o, (w1.alloc o).cell? ⟨w.heap.size, 1, none⟩ = some (.slice a l.length c) := fun o => (T1.out.alloc o).cell 1
    rcases hcase with ⟨x, ax, cx, hf, rfl, hsx⟩ | ⟨hf, rfl⟩
    · by_cases hl0 : l = []
      · subst hl0
        have HF := hide (onT_some hf)
        have SX := hide hsx
        clear hf hsx
        go_wp2_with fail
        refine (size_any x _ most _ _ ⟨ax, cx, rfl, SX.out.later ((Below.refl w1.heap.size w1).alloc (Nat.le_refl _) _)⟩ hm0 hm1).mono ?_
        rintro e w3 ⟨rfl, hb3⟩
        go_wp2_with fail
        go_ret
        exact ⟨ret_int (by rw [HF.out]), (B1.out.alloc B1.out.size _).trans (hb3.mono (by have := B1.out.size; simp; omega))⟩
      · have HD := hide (onT_deep (l := ls) (s := s) (Or.inl hl0))
        have hlp : ((l.length : Int) == 0) = false := beq_eq_false_iff_ne.2 (by have := List.length_pos_iff.2 hl0; omega)
        clear hf hsx
        go_wp2_with fail
        have T2 := hide (T1.out.alloc (.cells #[.string x.name, .slice ax x.args.length cx] 29))
        have B2 := hide (B1.out.alloc B1.out.size (.cells #[.string x.name, .slice ax x.args.length cx] 29))
        generalize w1.alloc (.cells #[.string x.name, .slice ax x.args.length cx] 29) = w2 at *
        clear t0 t1
        go_loopw [9, 10] (fun n i wr => GwInv w2 w2.heap.size ls l most n i wr) (fun n i wr => l.length - (intOf i).toNat)
        case atStart => exact ⟨0, Nat.zero_le _, rfl, by simp [onL, sizeL]; omega, Below.refl _ _⟩
        case round =>
          obtain ⟨k, hk, rfl, rfl, hb⟩ := hrel
          have c0 : wr.cell? ⟨w.heap.size, 0, none⟩ = some (.string s) := (T2.out.below hb T2.out.lt).cell 0
          have c1 : wr.cell? ⟨w.heap.size, 1, none⟩ = some (.slice a l.length c) := (T2.out.below hb T2.out.lt).cell 1
          have hn : 0 ≤ ((1 : Int) + sizeL (onL ls (l.take k))) := by omega
          have BW := hide (B2.out.trans (hb.mono B2.out.size))
          have HB := hide hb
          by_cases hlt : k < l.length
          · obtain ⟨b, o, a', c', rfl, d0, d1, hx⟩ := HS.out.get BW.out (fun _ _ h => h) k hlt
            by_cases hle : 1 + (sizeL (onL ls (l.take k)) : Int) ≤ most
            · have hmin : min (1 + (sizeL (onL ls (l.take k)) : Int)) (most + 1) = 1 + (sizeL (onL ls (l.take k)) : Int) := by omega
              rw [hmin]
              go_wp2_with fail
              refine (IH.out _ (List.getElem_mem hlt) _ _ _ _ X (HU.out.later BW.out) hx (by omega) (by omega)).mono ?_
              rintro e w3 ⟨rfl, hb3⟩
              have Hst := hide (onL_size_take ls l k hlt)
              have hm2 : 0 ≤ min ((sizeL [onT ls l[k]] : Int)) (most - (1 + (sizeL (onL ls (l.take k)) : Int)) + 1) := by omega
              have hm3 : min ((sizeL [onT ls l[k]] : Int)) (most - (1 + (sizeL (onL ls (l.take k)) : Int)) + 1) ≤ 1000001 := by omega
              go_wp2_with fail
              go_roundw
              case rel => exact ⟨k + 1, by omega, by go_num, by rw [Hst.out]; congr 1; omega, hb.trans (hb3.mono hb.size)⟩
              case measure => simp [intOf]; omega
            · have hmin : min (1 + (sizeL (onL ls (l.take k)) : Int)) (most + 1) = most + 1 := by omega
              rw [hmin]
              have hz : (sizeL [(⟨s, onL ls l⟩ : Tm)] : Int) = 1 + sizeL (onL ls l) := by simp [sizeL]
              have hle2 := onL_size_le ls l k
              have HF := hide (show (most + 1 : Int) = min (sizeL [(⟨s, onL ls l⟩ : Tm)] : Int) (most + 1) by omega)
              clear hz
              go_wp2_with fail
              go_ret
              exact ⟨ret_int (by rw [HD.out]; exact HF.out), BW.out⟩
          · have htk : l.take k = l := List.take_of_length_le (by omega)
            rw [htk]
            have hz : (sizeL [(⟨s, onL ls l⟩ : Tm)] : Int) = 1 + sizeL (onL ls l) := by simp [sizeL]
            have HZ := hide hz
            clear hz
            go_wp2_with fail
            all_goals (go_ret; exact ⟨ret_int (by rw [HD.out]; have := HZ.out; omega), BW.out⟩)
    · have HD : Hid (onT ls ⟨s, l⟩ = ⟨s, onL ls l⟩) := onT_deep (Or.inr hf)
      clear hf
      go_wp2_with fail
      have T2 := hide (T1.out.alloc (.cells #[.string ⟨#[]⟩, .slice none 0 0] 29))
      have B2 := hide (B1.out.alloc B1.out.size (.cells #[.string ⟨#[]⟩, .slice none 0 0] 29))
      generalize w1.alloc (.cells #[.string ⟨#[]⟩, .slice none 0 0] 29) = w2 at *
      clear t0 t1
      go_loopw [9, 10] (fun n i wr => GwInv w2 w2.heap.size ls l most n i wr) (fun n i wr => l.length - (intOf i).toNat)
      case atStart => exact ⟨0, Nat.zero_le _, rfl, by simp [onL, sizeL]; omega, Below.refl _ _⟩
      case round =>
        obtain ⟨k, hk, rfl, rfl, hb⟩ := hrel
        have c0 : wr.cell? ⟨w.heap.size, 0, none⟩ = some (.string s) := (T2.out.below hb T2.out.lt).cell 0
        have c1 : wr.cell? ⟨w.heap.size, 1, none⟩ = some (.slice a l.length c) := (T2.out.below hb T2.out.lt).cell 1
        have hn : 0 ≤ ((1 : Int) + sizeL (onL ls (l.take k))) := by omega
        have BW := hide (B2.out.trans (hb.mono B2.out.size))
        have HB := hide hb
        by_cases hlt : k < l.length
        · obtain ⟨b, o, a', c', rfl, d0, d1, hx⟩ := HS.out.get BW.out (fun _ _ h => h) k hlt
          by_cases hle : 1 + (sizeL (onL ls (l.take k)) : Int) ≤ most
          · have hmin : min (1 + (sizeL (onL ls (l.take k)) : Int)) (most + 1) = 1 + (sizeL (onL ls (l.take k)) : Int) := by omega
            rw [hmin]
            go_wp2_with fail
            refine (IH.out _ (List.getElem_mem hlt) _ _ _ _ X (HU.out.later BW.out) hx (by omega) (by omega)).mono ?_
            rintro e w3 ⟨rfl, hb3⟩
            have Hst := hide (onL_size_take ls l k hlt)
            have hm2 : 0 ≤ min ((sizeL [onT ls l[k]] : Int)) (most - (1 + (sizeL (onL ls (l.take k)) : Int)) + 1) := by omega
            have hm3 : min ((sizeL [onT ls l[k]] : Int)) (most - (1 + (sizeL (onL ls (l.take k)) : Int)) + 1) ≤ 1000001 := by omega
            go_wp2_with fail
            go_roundw
            case rel => exact ⟨k + 1, by omega, by go_num, by rw [Hst.out]; congr 1; omega, hb.trans (hb3.mono hb.size)⟩
            case measure => simp [intOf]; omega
          · have hmin : min (1 + (sizeL (onL ls (l.take k)) : Int)) (most + 1) = most + 1 := by omega
            rw [hmin]
            have hz : (sizeL [(⟨s, onL ls l⟩ : Tm)] : Int) = 1 + sizeL (onL ls l) := by simp [sizeL]
            have hle2 := onL_size_le ls l k
            have HF := hide (show (most + 1 : Int) = min (sizeL [(⟨s, onL ls l⟩ : Tm)] : Int) (most + 1) by omega)
            clear hz
            go_wp2_with fail
            go_ret
            exact ⟨ret_int (by rw [HD.out]; exact HF.out), BW.out⟩
        · have htk : l.take k = l := List.take_of_length_le (by omega)
          rw [htk]
          have hz : (sizeL [(⟨s, onL ls l⟩ : Tm)] : Int) = 1 + sizeL (onL ls l) := by simp [sizeL]
          have HZ := hide hz
          clear hz
          go_wp2_with fail
          all_goals (go_ret; exact ⟨ret_int (by rw [HD.out]; have := HZ.out; omega), BW.out⟩)
#print axioms grown_any
end Go.Proofs.Ytpjdkdebjkpmmab

/- Walks: a term with bindings in it, as the document says. -/
namespace Go.Proofs.Ytpjdkdebjkpmmab
open Go.RowKit
set_option linter.unusedSimpArgs false
set_option linter.unusedVariables false
set_option maxRecDepth 8000

def OnPost (w : World) (X : Nat → Prop) (t : Tm) (e : Ending) (w' : World) : Prop :=
  ∃ a c, e = .returned (.agg #[.string t.name, .slice a t.args.length c]) ∧ Sl w' (fun b => (X b ∧ b < w.heap.size) ∨ w.heap.size ≤ b) a t.args ∧ Below w.heap.size w w'

/-- What is held while a knot's next term is made. -/
def OnS (w : World) (b o : Nat) (s : ByteArray) (a : Option Addr) (n c : Nat) (s1 : ByteArray) (v1 : Value) (w' : World) : Prop :=
  Blk w' w.heap.size #[.string s, .slice a n c] 29 ∧ w'.cell? ⟨b, o, none⟩ = some (.string s1) ∧ w'.cell? ⟨b, o + 1, none⟩ = some v1
theorem cell_same {w w' : World} {b i : Nat} {v : Value} (hb : w'.heap[b]? = w.heap[b]?) (h : w.cell? ⟨b, i, none⟩ = some v) : w'.cell? ⟨b, i, none⟩ = some v := by simpa [World.cell?, hb] using h
theorem OnS.below {w wr w1 : World} {b o n c : Nat} {s s1 : ByteArray} {a : Option Addr} {v1 : Value} (h : OnS w b o s a n c s1 v1 wr) (hb : Below wr.heap.size wr w1) (hlt : w.heap.size < wr.heap.size ∧ b < wr.heap.size) : OnS w b o s a n c s1 v1 w1 :=
  ⟨h.1.below hb hlt.1, cell_same (hb.block b hlt.2) h.2.1, cell_same (hb.block b hlt.2) h.2.2⟩
theorem OnS.alloc {w wr : World} {b o n c : Nat} {s s1 : ByteArray} {a : Option Addr} {v1 : Value} (h : OnS w b o s a n c s1 v1 wr) (x : Obj) : OnS w b o s a n c s1 v1 (wr.alloc x) :=
  ⟨h.1.alloc x, cell_same (Below.heap_alloc _ _ _ (cell_lt h.2.1)) h.2.1, cell_same (Below.heap_alloc _ _ _ (cell_lt h.2.1)) h.2.2⟩
theorem OnS.grown {w wr w3 : World} {b o n c : Nat} {s s1 : ByteArray} {a : Option Addr} {v1 : Value} {row : Option Nat} (h : OnS w b o s a n c s1 v1 wr) (hg : wr.grownBy w3 row) (hne : ∀ j, j ≤ w.heap.size → some j ≠ row) (hb : b < w.heap.size) (_ : True) : OnS w b o s a n c s1 v1 w3 :=
  ⟨h.1.grown hg (hne _ (Nat.le_refl _)), cell_same (hg.block b (cell_lt h.2.1) (hne b (by omega))) h.2.1, cell_same (hg.block b (cell_lt h.2.1) (hne b (by omega))) h.2.2⟩
theorem OnS.set {w wr : World} {b o n c : Nat} {s s1 : ByteArray} {a : Option Addr} {v1 : Value} {O i : Nat} (h : OnS w b o s a n c s1 v1 wr) (v : Value) (_ : True) (hO : w.heap.size ≠ O) (hb : b ≠ O) : OnS w b o s a n c s1 v1 (wr.setCell ⟨O, i, none⟩ v) :=
  ⟨h.1.setOther _ _ hO, cell_same (Below.heap_setCell _ _ _ _ (by simpa using hb)) h.2.1, cell_same (Below.heap_setCell _ _ _ _ (by simpa using hb)) h.2.2⟩
theorem hxb {w : World} {X : Nat → Prop} {b o : Nat} {l : List Tm} (h : Sl w X (some ⟨b, o, none⟩) l) (hl : 0 < l.length) : b < w.heap.size := by
  obtain ⟨_, h⟩ := h
  rcases h with rfl | ⟨b', o', e, h⟩
  · simp at hl
  · simp at e
    obtain ⟨rfl, rfl⟩ := e
    exact cell_lt (lies_get l b o h 0 hl).2.1

/-- What is laid ahead of the rounds. -/
def OnSet (w : World) (Y : Nat → Prop) (O : Nat) (s : ByteArray) (a : Option Addr) (n c : Nat) (u : Value) (L : List Tm) (wr : World) : Prop :=
  ∃ xs, Row wr (O + 1) 29 Y u L xs ∧ Below w.heap.size w wr ∧ Blk wr w.heap.size #[.string s, .slice a n c] 29 ∧ Blk wr (w.heap.size + 1) #[.string ⟨#[]⟩, .slice none 0 0] 29 ∧ Blk wr O #[.string s, u] 29 ∧ O < wr.heap.size
def OnInv (w : World) (Y : Nat → Prop) (O : Nat) (s : ByteArray) (a : Option Addr) (c : Nat) (ls : List Bd) (l : List Tm) (i : Value) (wr : World) : Prop :=
  ∃ (k : Nat) (u : Value), k ≤ l.length ∧ i = .int .i64 (k : Int) ∧ OnSet w Y O s a l.length c u (onL ls (l.take k)) wr

theorem on_step {w wr w1 w3 : World} {Y : Nat → Prop} {O n c : Nat} {u : Value} {L : List Tm} {xs : List Value} {o2 : Obj} {s s' : ByteArray} {a a1 : Option Addr} {n1 c1 g cap : Nat} {t : Tm} (hO : w.heap.size + 2 ≤ O) (hY : ∀ b, Y b → b < w.heap.size)
    (hrow : Row wr (O + 1) 29 Y u L xs) (hx : Below w.heap.size w wr) (hT : Blk wr w.heap.size #[.string s, .slice a n c] 29) (hR : Blk wr (w.heap.size + 1) #[.string ⟨#[]⟩, .slice none 0 0] 29) (hOb : Blk wr O #[.string s, u] 29)
    (he1 : Below wr.heap.size wr w1) (ht : TV w1 (fun b => Y b ∨ wr.heap.size ≤ b) (.agg #[.string s', .slice a1 n1 c1]) t)
    (hown : w3.ownsRow (O + 1) 29 2 (.slice (some ⟨g, 0, none⟩) (L.length + 1) cap) (L.length + 1) (xs ++ [.string s', .slice a1 n1 c1])) (hg : (w1.alloc o2).grownBy w3 u.ownBlock) (hat : u.ownBlock = some g ∨ g = (w1.alloc o2).heap.size) :
    OnSet w Y O s a n c (.slice (some ⟨g, 0, none⟩) (L.length + 1) cap) (L ++ [t]) (w3.setCell ⟨O, 1, none⟩ (.slice (some ⟨g, 0, none⟩) (L.length + 1) cap)) := by
  have hlt' := hrow.own.lt
  have hOl := hOb.lt
  have hp := hrow.push (w1 := w1) (w2 := w1.alloc o2) (w3 := w3) (by omega) (fun b h => by have := hY b h; omega) he1 ht o2 rfl hown hg hat
  have hne : ∀ b, b < O + 1 → some b ≠ u.ownBlock := fun b hb e => by have := (hlt' b e.symm).1; omega
  have hs1 := he1.size
  have hsx := hx.size
  have hx3 : Below w.heap.size w w3 := ((hx.trans (he1.mono (by omega))).alloc (by omega) o2).grown hg (by simp; omega) (fun k hk => by have := (hlt' k hk).1; omega)
  have hs3 := hg.size
  simp at hs3
  refine ⟨_, hp.setCell (by omega) (fun h => by have := hY _ h; omega) _, hx3.setCell (p := ⟨O, 1, none⟩) (by simp; omega) _, ?_, ?_, ?_, by simp [World.setCell]; omega⟩
  · exact (((hT.below he1 (by omega)).alloc o2).grown hg (hne _ (by omega))).setOther _ _ (by omega)
  · exact (((hR.below he1 (by omega)).alloc o2).grown hg (hne _ (by omega))).setOther _ _ (by omega)
  · exact (((hOb.below he1 (by omega)).alloc o2).grown hg (hne _ (by omega))).set 1 _

set_option maxHeartbeats 2000000 in
theorem on_any (ls : List Bd) (t : Tm) : ∀ (u v : Value) (w : World) (X : Nat → Prop), BV w X u ls → TV w X v t → sizeL [t] ≤ 1000000 →
    Calls Try.prog 53 #[u, v] w fun e w' => OnPost w X (onT ls t) e w' := by
  induction t using Tm.ind with
  | h s l ih =>
    intro u v w X hu hv hsm
    obtain ⟨a, c, rfl, hs⟩ := hv
    have IH := hide ih
    have HU := hide hu
    have HS := hide hs
    have hl := hs.1
    have hz : sizeL [(⟨s, l⟩ : Tm)] = 1 + sizeL l := by simp [sizeL]
    rw [hz] at hsm
    have hlen := sizeL_len l
    clear ih hu hs hz
    obtain ⟨i0, hi0, hz0, hz1, hz2⟩ := info_parts Try.infoTerm
    go_enter Try.func53, Try.ntmps53
    go_wp2_with fail
    refine (for_any ls s u _ (fun b => X b ∧ b < w.heap.size) (by exact ((HU.out.mono fun b h1 h2 => ⟨h1, h2⟩).alloc _).alloc _)).mono ?_
    rintro e w1 ⟨hb1, hcase⟩
    have T1 := hide (((Blk.new w #[.string s, .slice a l.length c] 29).alloc (.cells #[.string ⟨#[]⟩, .slice none 0 0] 29)).below hb1 (by simp; omega))
    have R1 : Hid (Blk w1 (w.heap.size + 1) #[.string ⟨#[]⟩, .slice none 0 0] 29) := by
      have h := (Blk.new (w.alloc (.cells #[.string s, .slice a l.length c] 29)) #[.string ⟨#[]⟩, .slice none 0 0] 29).below hb1 (by simp)
      unfold Hid
      simpa using h
    have B1 := hide ((((Below.refl w.heap.size w).alloc (Nat.le_refl _) (.cells #[.string s, .slice a l.length c] 29)).alloc (by simp) (.cells #[.string ⟨#[]⟩, .slice none 0 0] 29)).trans (hb1.mono (by simp; omega)))
    have hlt1 : w.heap.size < w1.heap.size := T1.out.lt
    have hlt1' : w.heap.size + 1 < w1.heap.size := R1.out.lt
    clear hb1
    have t0 : ∀ o, (w1.alloc o).cell? ⟨w.heap.size, 0, none⟩ = some (.string s) := fun o => (T1.out.alloc o).cell 0
    have t1 : ∀ o, (w1.alloc o).cell? ⟨w.heap.size, 1, none⟩ = some (.slice a l.length c) := fun o => (T1.out.alloc o).cell 1
    rcases hcase with ⟨x, ax, cx, hf, rfl, hsx⟩ | ⟨hf, rfl⟩
    · by_cases hl0 : l = []
      · subst hl0
        have HF := hide (onT_some hf)
        have SX := hide hsx
        clear hf hsx
        have r0 : w1.cell? ⟨w.heap.size + 1, 0, none⟩ = some (.string ⟨#[]⟩) := R1.out.cell 0
        have r1 : w1.cell? ⟨w.heap.size + 1, 1, none⟩ = some (.slice none 0 0) := R1.out.cell 1
        have rf := R1.out.frozen
        go_wp2_with fail
        refine bodyPost_ret (v := .agg #[.string x.name, .slice ax x.args.length cx]) (by simp [results, Try.results53, go_sem, World.cell?_setCell_same, World.cell?_setCell_other, r0, r1, hlt1', World.cell?_alloc_old]) rfl ?_
        rw [HF.out]
        refine ⟨ax, cx, rfl, ?_, ((B1.out.setCell (by simp) _).setCell (by simp) _).alloc (by have := B1.out.size; simpa [World.setCell] using this) _⟩
        refine ((SX.out.mono (Y := fun b => X b ∧ b < w.heap.size) fun b h1 _ => h1.1).kept fun b hb => ?_).mono fun b hb _ => Or.inl hb
        rw [Below.heap_alloc _ _ _ (by simp [World.setCell]; omega), Below.heap_setCell _ _ _ _ (by simp; omega), Below.heap_setCell _ _ _ _ (by simp; omega)]
      · have HD : Hid (onT ls ⟨s, l⟩ = ⟨s, onL ls l⟩) := onT_deep (Or.inl hl0)
        have hlp : ((l.length : Int) == 0) = false := beq_eq_false_iff_ne.2 (by have := List.length_pos_iff.2 hl0; omega)
        clear hf hsx
        go_wp2_with fail
        have T3 := hide ((T1.out.alloc (.cells #[.string x.name, .slice ax x.args.length cx] 29)).alloc (.cells #[.string s, .slice none 0 0] 29))
        have R3 := hide ((R1.out.alloc (.cells #[.string x.name, .slice ax x.args.length cx] 29)).alloc (.cells #[.string s, .slice none 0 0] 29))
        have O3 := hide (Blk.new (w1.alloc (.cells #[.string x.name, .slice ax x.args.length cx] 29)) #[.string s, .slice none 0 0] 29)
        have B3 := hide ((B1.out.alloc B1.out.size (.cells #[.string x.name, .slice ax x.args.length cx] 29)).alloc (by have := B1.out.size; simp; omega) (.cells #[.string s, .slice none 0 0] 29))
        have HO3 := hide (O3.out.lt)
        have hO : w.heap.size + 2 ≤ (w1.alloc (.cells #[.string x.name, .slice ax x.args.length cx] 29)).heap.size := by have := R1.out.lt; simp; omega
        have eO : (w1.alloc (.cells #[.string x.name, .slice ax x.args.length cx] 29)).heap.size = w1.heap.size + 1 := by simp
        rw [eO] at O3 HO3 hO
        clear eO
        generalize (w1.alloc (.cells #[.string x.name, .slice ax x.args.length cx] 29)).alloc (.cells #[.string s, .slice none 0 0] 29) = w3 at *
        generalize w1.heap.size + 1 = O at *
        clear t0 t1
        have hY : ∀ b, (X b ∧ b < w.heap.size) → b < w.heap.size := fun b h => h.2
        go_loopw [8] (fun i wr => OnInv w (fun b => X b ∧ b < w.heap.size) O s a c ls l i wr) (fun i wr => l.length - (intOf i).toNat)
        case atStart => exact ⟨0, .slice none 0 0, Nat.zero_le _, rfl, [], by have h := Row.start w3 (O + 1) 29 (fun b => X b ∧ b < w.heap.size); simpa [onL] using h, B3.out, T3.out, R3.out, O3.out, HO3.out⟩
        case round =>
          obtain ⟨k, u9, hk, rfl, xs, hrow, hbb, hT, hR, hOb, hOl⟩ := hrel
          have XW := hide hrow
          have XE := hide hbb
          have XT := hide hT
          have XR := hide hR
          have XO := hide hOb
          clear hrow hbb hT hR hOb
          have c0 : wr.cell? ⟨w.heap.size, 0, none⟩ = some (.string s) := XT.out.cell 0
          have c1 : wr.cell? ⟨w.heap.size, 1, none⟩ = some (.slice a l.length c) := XT.out.cell 1
          have o0 : wr.cell? ⟨O, 0, none⟩ = some (.string s) := XO.out.cell 0
          have o1 : wr.cell? ⟨O, 1, none⟩ = some u9 := XO.out.cell 1
          by_cases hlt : k < l.length
          · obtain ⟨b, o, a', c', rfl, d0, d1, hx⟩ := (HS.out.mono (Y := fun b => X b ∧ b < w.heap.size) fun b h1 h2 => ⟨h1, h2⟩).get XE.out (fun b h _ => h.2) k hlt
            have HX := hide hx
            have hXb : b < w.heap.size := hxb HS.out (Nat.lt_of_le_of_lt (Nat.zero_le k) hlt)
            have hszk : sizeL [l[k]] ≤ 1000000 := by
              have := sizeL_take l k hlt
              have := sizeL_take_le l (k + 1)
              omega
            have hOL : (onL ls (l.take k)).length = k := by rw [onL_length]; simp; omega
            have IHQ : Hid (Calls Try.prog 53 #[u, .agg #[.string l[k].name, .slice a' l[k].args.length c']] wr.drew fun e w'' => ∃ a1 c1, e = .returned (.agg #[.string (onT ls l[k]).name, .slice a1 (onT ls l[k]).args.length c1]) ∧ Sl w'' (fun b => (X b ∧ b < w.heap.size) ∨ wr.heap.size ≤ b) a1 (onT ls l[k]).args ∧ Below wr.heap.size wr w'') := (IH.out l[k] (List.getElem_mem hlt) u _ wr.drew (fun b => X b ∧ b < w.heap.size) ((HU.out.mono fun b h1 h2 => ⟨h1, h2⟩).later (XE.out.drew)) (HX.out.later ((Below.refl wr.heap.size wr).drew)) hszk).mono fun e w'' hp => by
              obtain ⟨a1, c1, h1, h2, h3⟩ := hp
              exact ⟨a1, c1, h1, h2.mono (fun b hb _ => hb.imp (fun h => h.1) id), ((Below.refl wr.heap.size wr).drew).trans h3⟩
            have HN1 : Hid (∀ a1 c1, ∀ x ∈ [Value.string (onT ls l[k]).name, Value.slice a1 (onT ls l[k]).args.length c1], x.oneCell' = true) := fun a1 c1 x hx => by simp at hx; rcases hx with rfl | rfl <;> rfl
            have HL1 : Hid ((onL ls (l.take k)).length + 1 ≤ maxLen ∧ ((onL ls (l.take k)).length + 1) * 40 ≤ 140737488355328) := ⟨by rw [hOL]; unfold maxLen; omega, by rw [hOL]; omega⟩
            clear hOL
            have HBW : Hid (w.heap.size < wr.heap.size ∧ b < wr.heap.size) := ⟨XT.out.lt, by have := XT.out.lt; omega⟩
            have HS8 : Hid (OnS w b (o + k * 2) s (some ⟨b, o, none⟩) l.length c l[k].name (.slice a' l[k].args.length c') wr) := ⟨XT.out, d0, d1⟩
            go_wp2_with fail
            refine wp_region_held_drew (S := OnS w b (o + k * 2) s (some ⟨b, o, none⟩) l.length c l[k].name (.slice a' l[k].args.length c')) (by kernel_rfl) (by exact HS8.out) (fun hHeld => ?_)
            refine wpAnyH_take (i := 0) (v := ?_) rfl (by kernel_rfl) (by kernel_rfl) (by kernel_rfl) (fun _ _ _ h => h) (Or.inl ⟨by rfl, ?_⟩) (by assumption) ?_
            rotate_left
            · intro w' hSw
              go_simp <;> with_reducible rfl
            try simp only [Act.put, List.setIfInBounds_toArray, List.set_cons_zero, List.set_cons_succ, List.getElem_toArray, List.getElem_cons_succ, List.getElem_cons_zero]
            refine wpAnyH_take (i := 2) (v := ?_) rfl (by kernel_rfl) (by kernel_rfl) (by kernel_rfl) (fun _ _ _ h => h) (Or.inl ⟨by rfl, ?_⟩) (by assumption) ?_
            rotate_left
            · intro w' hSw
              go_simp <;> with_reducible rfl
            try simp only [Act.put, List.setIfInBounds_toArray, List.set_cons_zero, List.set_cons_succ, List.getElem_toArray, List.getElem_cons_succ, List.getElem_cons_zero]
            refine wpAnyH_take (i := 3) (v := ?_) rfl (by kernel_rfl) (by kernel_rfl) (by kernel_rfl) (fun _ _ _ h => h) (Or.inl ⟨by rfl, ?_⟩) (by assumption) ?_
            rotate_left
            · intro w' hSw
              go_simp <;> with_reducible rfl
            try simp only [Act.put, List.setIfInBounds_toArray, List.set_cons_zero, List.set_cons_succ, List.getElem_toArray, List.getElem_cons_succ, List.getElem_cons_zero]
            refine wpAnyH_take (i := 5) (v := ?_) rfl (by kernel_rfl) (by kernel_rfl) (by kernel_rfl) (fun _ _ _ h => h) (Or.inl ⟨by rfl, ?_⟩) (by assumption) ?_
            rotate_left
            · intro w' hSw
              go_simp <;> with_reducible rfl
            try simp only [Act.put, List.setIfInBounds_toArray, List.set_cons_zero, List.set_cons_succ, List.getElem_toArray, List.getElem_cons_succ, List.getElem_cons_zero]
            refine wpAnyH_take (i := 4) (v := ?_) rfl (by kernel_rfl) (by kernel_rfl) (by kernel_rfl) (fun _ _ _ h => h) (Or.inl ⟨by rfl, ?_⟩) (by assumption) ?_
            rotate_left
            · intro w' hSw
              have k1 : w'.cell? ⟨w.heap.size, 1, none⟩ = some (.slice (some ⟨b, o, none⟩) l.length c) := hSw.1.cell 1
              go_simp <;> with_reducible rfl
            try simp only [Act.put, List.setIfInBounds_toArray, List.set_cons_zero, List.set_cons_succ, List.getElem_toArray, List.getElem_cons_succ, List.getElem_cons_zero]
            refine wpAnyH_take (i := 6) (v := ?_) rfl (by kernel_rfl) (by kernel_rfl) (by kernel_rfl) (fun _ _ _ h => h) (Or.inl ⟨by rfl, ?_⟩) (by assumption) ?_
            rotate_left
            · intro w' hSw
              go_simp <;> with_reducible rfl
            try simp only [Act.put, List.setIfInBounds_toArray, List.set_cons_zero, List.set_cons_succ, List.getElem_toArray, List.getElem_cons_succ, List.getElem_cons_zero]
            refine wpAnyH_take (i := 7) (v := ?_) rfl (by kernel_rfl) (by kernel_rfl) (by kernel_rfl) (fun _ _ _ h => h) (Or.inl ⟨by rfl, ?_⟩) (by assumption) ?_
            rotate_left
            · intro w' hSw
              have k2 := hSw.2.1
              have k3 := hSw.2.2
              go_simp <;> with_reducible rfl
            try simp only [Act.put, List.setIfInBounds_toArray, List.set_cons_zero, List.set_cons_succ, List.getElem_toArray, List.getElem_cons_succ, List.getElem_cons_zero]
            refine wpAnyH_ready (rs := [1, 8]) (by kernel_rfl) (by simp) ?_
            refine AllReadyH.cons rfl (fun K hK => ?_) (AllReadyH.cons rfl (fun K hK => ?_) AllReadyH.nil)
            · go_simp
              refine hK.out _ _ (by exact hHeld) (fun hHeld => ?_)
              clear hK K
              try simp only [Act.put, List.setIfInBounds_toArray, List.set_cons_zero, List.set_cons_succ, List.getElem_toArray, List.getElem_cons_succ, List.getElem_cons_zero]
              refine wpAnyH_ready (rs := [8]) (by kernel_rfl) (by simp) ?_
              refine AllReadyH.cons rfl (fun K hK => ?_) AllReadyH.nil
              · go_simp
                go_at_call 53
                refine IHQ.out.mono ?_
                rintro e w1 ⟨a1, c1, rfl, hs1, hb1⟩
                have hc3 : ∀ o, (w1.alloc o).cell? ⟨O, 1, none⟩ = some u9 := fun o => ((XO.out.below hb1 hOl).alloc o).cell 1
                have hc4 : w1.cell? ⟨O, 1, none⟩ = some u9 := (XO.out.below hb1 hOl).cell 1
                go_simp
                refine hK.out _ _ (by exact OnS.below HS8.out hb1 HBW.out) (fun hHeld => ?_)
                clear hK K
                try simp only [Act.put, List.setIfInBounds_toArray, List.set_cons_zero, List.set_cons_succ, List.getElem_toArray, List.getElem_cons_succ, List.getElem_cons_zero]
                refine wpAnyH_ready (rs := [9]) (by kernel_rfl) (by simp) ?_
                refine AllReadyH.cons rfl (fun K hK => ?_) AllReadyH.nil
                · go_simp
                  refine hK.out _ _ (by exact hHeld.alloc _) (fun hHeld => ?_)
                  clear hK K
                  try simp only [Act.put, List.setIfInBounds_toArray, List.set_cons_zero, List.set_cons_succ, List.getElem_toArray, List.getElem_cons_succ, List.getElem_cons_zero]
                  refine wpAnyH_ready (rs := [10]) (by kernel_rfl) (by simp) ?_
                  refine AllReadyH.cons rfl (fun K hK => ?_) AllReadyH.nil
                  · refine step_append_lies _ rfl _ _ 27 rfl (O + 1) 29 i0 _ 2 40 Try.underlying27 hi0 hz0 hz1 hz2 rfl (by decide) u9 (onL ls (l.take k)).length xs rfl (by exact (XW.out.below hb1).own.alloc _) ⟨w1.heap.size, 0, none⟩ 1 1 [.string (onT ls l[k]).name, .slice a1 (onT ls l[k]).args.length c1] rfl rfl (cell_two_new _ _ _ _) (HN1.out a1 c1) (by decide) HL1.out.1 HL1.out.2 (by have := hb1.size; simp; omega) _ rfl ?_
                    intro g cap w3 hown3 hgrow3 hat3 hlt3
                    have hB3 := hide (((XO.out.below hb1 hOl).alloc _).grown hgrow3 (XW.out.ne (Nat.lt_succ_self _)))
                    have hc5 : w3.cell? ⟨O, 1, none⟩ = some u9 := hB3.out.cell 1
                    have hf5 := hB3.out.frozen 1
                    have HFIN := hide (on_step (c := c) (n := l.length) (a := some ⟨b, o, none⟩) hO hY XW.out XE.out XT.out XR.out XO.out hb1 ⟨a1, c1, rfl, hs1⟩ hown3 hgrow3 hat3)
                    refine hK.out _ _ (by exact OnS.grown hHeld hgrow3 (fun j hj => XW.out.ne (by omega)) hXb trivial) (fun hHeld => ?_)
                    clear hK K
                    try simp only [Act.put, List.setIfInBounds_toArray, List.set_cons_zero, List.set_cons_succ, List.getElem_toArray, List.getElem_cons_succ, List.getElem_cons_zero]
                    refine wpAnyH_take (i := 11) (v := ?_) rfl (by kernel_rfl) (by kernel_rfl) (by kernel_rfl) (fun _ _ _ h => h) (Or.inl ⟨by rfl, ?_⟩) (by assumption) ?_
                    rotate_left
                    · intro w' hSw
                      go_simp <;> with_reducible rfl
                    try simp only [Act.put, List.setIfInBounds_toArray, List.set_cons_zero, List.set_cons_succ, List.getElem_toArray, List.getElem_cons_succ, List.getElem_cons_zero]
                    refine wpAnyH_ready (rs := [12]) (by kernel_rfl) (by simp) ?_
                    refine AllReadyH.cons rfl (fun K hK => ?_) AllReadyH.nil
                    · go_simp
                      refine hK.out _ _ (by exact OnS.set hHeld _ trivial (by omega) (by omega)) (fun hHeld => ?_)
                      clear hK K
                      try simp only [Act.put, List.setIfInBounds_toArray, List.set_cons_zero, List.set_cons_succ, List.getElem_toArray, List.getElem_cons_succ, List.getElem_cons_zero]
                      refine wpAnyH_done (by kernel_rfl) ?_ _
                      clear hc3 hc4 hc5 hf5 hown3 hgrow3 hat3 hlt3 hB3 hHeld
                      go_wp2_with fail
                      go_roundw
                      case rel =>
                        refine ⟨k + 1, .slice (some ⟨g, 0, none⟩) ((onL ls (l.take k)).length + 1) cap, by omega, by go_num, ?_⟩
                        rw [onL_take ls l k hlt]
                        exact HFIN.out
                      case measure => simp [intOf]; omega
            · go_simp
              go_at_call 53
              refine IHQ.out.mono ?_
              rintro e w1 ⟨a1, c1, rfl, hs1, hb1⟩
              have hc3 : ∀ o, (w1.alloc o).cell? ⟨O, 1, none⟩ = some u9 := fun o => ((XO.out.below hb1 hOl).alloc o).cell 1
              have hc4 : w1.cell? ⟨O, 1, none⟩ = some u9 := (XO.out.below hb1 hOl).cell 1
              go_simp
              refine hK.out _ _ (by exact OnS.below HS8.out hb1 HBW.out) (fun hHeld => ?_)
              clear hK K
              try simp only [Act.put, List.setIfInBounds_toArray, List.set_cons_zero, List.set_cons_succ, List.getElem_toArray, List.getElem_cons_succ, List.getElem_cons_zero]
              refine wpAnyH_ready (rs := [1, 9]) (by kernel_rfl) (by simp) ?_
              refine AllReadyH.cons rfl (fun K hK => ?_) (AllReadyH.cons rfl (fun K hK => ?_) AllReadyH.nil)
              · go_simp
                refine hK.out _ _ (by exact hHeld) (fun hHeld => ?_)
                clear hK K
                try simp only [Act.put, List.setIfInBounds_toArray, List.set_cons_zero, List.set_cons_succ, List.getElem_toArray, List.getElem_cons_succ, List.getElem_cons_zero]
                refine wpAnyH_ready (rs := [9]) (by kernel_rfl) (by simp) ?_
                refine AllReadyH.cons rfl (fun K hK => ?_) AllReadyH.nil
                · go_simp
                  refine hK.out _ _ (by exact hHeld.alloc _) (fun hHeld => ?_)
                  clear hK K
                  try simp only [Act.put, List.setIfInBounds_toArray, List.set_cons_zero, List.set_cons_succ, List.getElem_toArray, List.getElem_cons_succ, List.getElem_cons_zero]
                  refine wpAnyH_ready (rs := [10]) (by kernel_rfl) (by simp) ?_
                  refine AllReadyH.cons rfl (fun K hK => ?_) AllReadyH.nil
                  · refine step_append_lies _ rfl _ _ 27 rfl (O + 1) 29 i0 _ 2 40 Try.underlying27 hi0 hz0 hz1 hz2 rfl (by decide) u9 (onL ls (l.take k)).length xs rfl (by exact (XW.out.below hb1).own.alloc _) ⟨w1.heap.size, 0, none⟩ 1 1 [.string (onT ls l[k]).name, .slice a1 (onT ls l[k]).args.length c1] rfl rfl (cell_two_new _ _ _ _) (HN1.out a1 c1) (by decide) HL1.out.1 HL1.out.2 (by have := hb1.size; simp; omega) _ rfl ?_
                    intro g cap w3 hown3 hgrow3 hat3 hlt3
                    have hB3 := hide (((XO.out.below hb1 hOl).alloc _).grown hgrow3 (XW.out.ne (Nat.lt_succ_self _)))
                    have hc5 : w3.cell? ⟨O, 1, none⟩ = some u9 := hB3.out.cell 1
                    have hf5 := hB3.out.frozen 1
                    have HFIN := hide (on_step (c := c) (n := l.length) (a := some ⟨b, o, none⟩) hO hY XW.out XE.out XT.out XR.out XO.out hb1 ⟨a1, c1, rfl, hs1⟩ hown3 hgrow3 hat3)
                    refine hK.out _ _ (by exact OnS.grown hHeld hgrow3 (fun j hj => XW.out.ne (by omega)) hXb trivial) (fun hHeld => ?_)
                    clear hK K
                    try simp only [Act.put, List.setIfInBounds_toArray, List.set_cons_zero, List.set_cons_succ, List.getElem_toArray, List.getElem_cons_succ, List.getElem_cons_zero]
                    refine wpAnyH_take (i := 11) (v := ?_) rfl (by kernel_rfl) (by kernel_rfl) (by kernel_rfl) (fun _ _ _ h => h) (Or.inl ⟨by rfl, ?_⟩) (by assumption) ?_
                    rotate_left
                    · intro w' hSw
                      go_simp <;> with_reducible rfl
                    try simp only [Act.put, List.setIfInBounds_toArray, List.set_cons_zero, List.set_cons_succ, List.getElem_toArray, List.getElem_cons_succ, List.getElem_cons_zero]
                    refine wpAnyH_ready (rs := [12]) (by kernel_rfl) (by simp) ?_
                    refine AllReadyH.cons rfl (fun K hK => ?_) AllReadyH.nil
                    · go_simp
                      refine hK.out _ _ (by exact OnS.set hHeld _ trivial (by omega) (by omega)) (fun hHeld => ?_)
                      clear hK K
                      try simp only [Act.put, List.setIfInBounds_toArray, List.set_cons_zero, List.set_cons_succ, List.getElem_toArray, List.getElem_cons_succ, List.getElem_cons_zero]
                      refine wpAnyH_done (by kernel_rfl) ?_ _
                      clear hc3 hc4 hc5 hf5 hown3 hgrow3 hat3 hlt3 hB3 hHeld
                      go_wp2_with fail
                      go_roundw
                      case rel =>
                        refine ⟨k + 1, .slice (some ⟨g, 0, none⟩) ((onL ls (l.take k)).length + 1) cap, by omega, by go_num, ?_⟩
                        rw [onL_take ls l k hlt]
                        exact HFIN.out
                      case measure => simp [intOf]; omega
              · go_simp
                refine hK.out _ _ (by exact hHeld.alloc _) (fun hHeld => ?_)
                clear hK K
                try simp only [Act.put, List.setIfInBounds_toArray, List.set_cons_zero, List.set_cons_succ, List.getElem_toArray, List.getElem_cons_succ, List.getElem_cons_zero]
                refine wpAnyH_ready (rs := [1]) (by kernel_rfl) (by simp) ?_
                refine AllReadyH.cons rfl (fun K hK => ?_) AllReadyH.nil
                · go_simp
                  refine hK.out _ _ (by exact hHeld) (fun hHeld => ?_)
                  clear hK K
                  try simp only [Act.put, List.setIfInBounds_toArray, List.set_cons_zero, List.set_cons_succ, List.getElem_toArray, List.getElem_cons_succ, List.getElem_cons_zero]
                  refine wpAnyH_ready (rs := [10]) (by kernel_rfl) (by simp) ?_
                  refine AllReadyH.cons rfl (fun K hK => ?_) AllReadyH.nil
                  · refine step_append_lies _ rfl _ _ 27 rfl (O + 1) 29 i0 _ 2 40 Try.underlying27 hi0 hz0 hz1 hz2 rfl (by decide) u9 (onL ls (l.take k)).length xs rfl (by exact (XW.out.below hb1).own.alloc _) ⟨w1.heap.size, 0, none⟩ 1 1 [.string (onT ls l[k]).name, .slice a1 (onT ls l[k]).args.length c1] rfl rfl (cell_two_new _ _ _ _) (HN1.out a1 c1) (by decide) HL1.out.1 HL1.out.2 (by have := hb1.size; simp; omega) _ rfl ?_
                    intro g cap w3 hown3 hgrow3 hat3 hlt3
                    have hB3 := hide (((XO.out.below hb1 hOl).alloc _).grown hgrow3 (XW.out.ne (Nat.lt_succ_self _)))
                    have hc5 : w3.cell? ⟨O, 1, none⟩ = some u9 := hB3.out.cell 1
                    have hf5 := hB3.out.frozen 1
                    have HFIN := hide (on_step (c := c) (n := l.length) (a := some ⟨b, o, none⟩) hO hY XW.out XE.out XT.out XR.out XO.out hb1 ⟨a1, c1, rfl, hs1⟩ hown3 hgrow3 hat3)
                    refine hK.out _ _ (by exact OnS.grown hHeld hgrow3 (fun j hj => XW.out.ne (by omega)) hXb trivial) (fun hHeld => ?_)
                    clear hK K
                    try simp only [Act.put, List.setIfInBounds_toArray, List.set_cons_zero, List.set_cons_succ, List.getElem_toArray, List.getElem_cons_succ, List.getElem_cons_zero]
                    refine wpAnyH_take (i := 11) (v := ?_) rfl (by kernel_rfl) (by kernel_rfl) (by kernel_rfl) (fun _ _ _ h => h) (Or.inl ⟨by rfl, ?_⟩) (by assumption) ?_
                    rotate_left
                    · intro w' hSw
                      go_simp <;> with_reducible rfl
                    try simp only [Act.put, List.setIfInBounds_toArray, List.set_cons_zero, List.set_cons_succ, List.getElem_toArray, List.getElem_cons_succ, List.getElem_cons_zero]
                    refine wpAnyH_ready (rs := [12]) (by kernel_rfl) (by simp) ?_
                    refine AllReadyH.cons rfl (fun K hK => ?_) AllReadyH.nil
                    · go_simp
                      refine hK.out _ _ (by exact OnS.set hHeld _ trivial (by omega) (by omega)) (fun hHeld => ?_)
                      clear hK K
                      try simp only [Act.put, List.setIfInBounds_toArray, List.set_cons_zero, List.set_cons_succ, List.getElem_toArray, List.getElem_cons_succ, List.getElem_cons_zero]
                      refine wpAnyH_done (by kernel_rfl) ?_ _
                      clear hc3 hc4 hc5 hf5 hown3 hgrow3 hat3 hlt3 hB3 hHeld
                      go_wp2_with fail
                      go_roundw
                      case rel =>
                        refine ⟨k + 1, .slice (some ⟨g, 0, none⟩) ((onL ls (l.take k)).length + 1) cap, by omega, by go_num, ?_⟩
                        rw [onL_take ls l k hlt]
                        exact HFIN.out
                      case measure => simp [intOf]; omega
          · have htk : l.take k = l := List.take_of_length_le (by omega)
            rw [htk] at XW
            obtain ⟨a9, c9, hu9, hsl9⟩ := XW.out.sl
            subst hu9
            have S9 := hide hsl9
            have r0 : wr.cell? ⟨w.heap.size + 1, 0, none⟩ = some (.string ⟨#[]⟩) := XR.out.cell 0
            have r1 : wr.cell? ⟨w.heap.size + 1, 1, none⟩ = some (.slice none 0 0) := XR.out.cell 1
            have rf := XR.out.frozen
            clear hsl9 htk
            go_wp2_with fail
            refine bodyPost_ret (v := .agg #[.string s, .slice a9 (onL ls l).length c9]) (by simp [results, Try.results53, go_sem, World.cell?_setCell_same, World.cell?_setCell_other, r0, r1]) rfl ?_
            rw [HD.out]
            refine ⟨a9, c9, rfl, (S9.out.kept fun b hb => ?_).mono fun b hb _ => hb.imp id (fun h => by omega), (XE.out.setCell (by simp) _).setCell (by simp) _⟩
            have hbne : b ≠ w.heap.size + 1 := by
              rcases hb with h | h
              · have := h.2; omega
              · omega
            rw [Below.heap_setCell _ _ _ _ (by simpa using hbne), Below.heap_setCell _ _ _ _ (by simpa using hbne)]
    · have HD : Hid (onT ls ⟨s, l⟩ = ⟨s, onL ls l⟩) := onT_deep (Or.inr hf)
      clear hf
      go_wp2_with fail
      have T3 := hide ((T1.out.alloc (.cells #[.string ⟨#[]⟩, .slice none 0 0] 29)).alloc (.cells #[.string s, .slice none 0 0] 29))
      have R3 := hide ((R1.out.alloc (.cells #[.string ⟨#[]⟩, .slice none 0 0] 29)).alloc (.cells #[.string s, .slice none 0 0] 29))
      have O3 := hide (Blk.new (w1.alloc (.cells #[.string ⟨#[]⟩, .slice none 0 0] 29)) #[.string s, .slice none 0 0] 29)
      have B3 := hide ((B1.out.alloc B1.out.size (.cells #[.string ⟨#[]⟩, .slice none 0 0] 29)).alloc (by have := B1.out.size; simp; omega) (.cells #[.string s, .slice none 0 0] 29))
      have HO3 := hide (O3.out.lt)
      have hO : w.heap.size + 2 ≤ (w1.alloc (.cells #[.string ⟨#[]⟩, .slice none 0 0] 29)).heap.size := by have := R1.out.lt; simp; omega
      have eO : (w1.alloc (.cells #[.string ⟨#[]⟩, .slice none 0 0] 29)).heap.size = w1.heap.size + 1 := by simp
      rw [eO] at O3 HO3 hO
      clear eO
      generalize (w1.alloc (.cells #[.string ⟨#[]⟩, .slice none 0 0] 29)).alloc (.cells #[.string s, .slice none 0 0] 29) = w3 at *
      generalize w1.heap.size + 1 = O at *
      clear t0 t1
      have hY : ∀ b, (X b ∧ b < w.heap.size) → b < w.heap.size := fun b h => h.2
      go_loopw [8] (fun i wr => OnInv w (fun b => X b ∧ b < w.heap.size) O s a c ls l i wr) (fun i wr => l.length - (intOf i).toNat)
      case atStart => exact ⟨0, .slice none 0 0, Nat.zero_le _, rfl, [], by have h := Row.start w3 (O + 1) 29 (fun b => X b ∧ b < w.heap.size); simpa [onL] using h, B3.out, T3.out, R3.out, O3.out, HO3.out⟩
      case round =>
        obtain ⟨k, u9, hk, rfl, xs, hrow, hbb, hT, hR, hOb, hOl⟩ := hrel
        have XW := hide hrow
        have XE := hide hbb
        have XT := hide hT
        have XR := hide hR
        have XO := hide hOb
        clear hrow hbb hT hR hOb
        have c0 : wr.cell? ⟨w.heap.size, 0, none⟩ = some (.string s) := XT.out.cell 0
        have c1 : wr.cell? ⟨w.heap.size, 1, none⟩ = some (.slice a l.length c) := XT.out.cell 1
        have o0 : wr.cell? ⟨O, 0, none⟩ = some (.string s) := XO.out.cell 0
        have o1 : wr.cell? ⟨O, 1, none⟩ = some u9 := XO.out.cell 1
        by_cases hlt : k < l.length
        · obtain ⟨b, o, a', c', rfl, d0, d1, hx⟩ := (HS.out.mono (Y := fun b => X b ∧ b < w.heap.size) fun b h1 h2 => ⟨h1, h2⟩).get XE.out (fun b h _ => h.2) k hlt
          have HX := hide hx
          have hXb : b < w.heap.size := hxb HS.out (Nat.lt_of_le_of_lt (Nat.zero_le k) hlt)
          have hszk : sizeL [l[k]] ≤ 1000000 := by
            have := sizeL_take l k hlt
            have := sizeL_take_le l (k + 1)
            omega
          have hOL : (onL ls (l.take k)).length = k := by rw [onL_length]; simp; omega
          have IHQ : Hid (Calls Try.prog 53 #[u, .agg #[.string l[k].name, .slice a' l[k].args.length c']] wr.drew fun e w'' => ∃ a1 c1, e = .returned (.agg #[.string (onT ls l[k]).name, .slice a1 (onT ls l[k]).args.length c1]) ∧ Sl w'' (fun b => (X b ∧ b < w.heap.size) ∨ wr.heap.size ≤ b) a1 (onT ls l[k]).args ∧ Below wr.heap.size wr w'') := (IH.out l[k] (List.getElem_mem hlt) u _ wr.drew (fun b => X b ∧ b < w.heap.size) ((HU.out.mono fun b h1 h2 => ⟨h1, h2⟩).later (XE.out.drew)) (HX.out.later ((Below.refl wr.heap.size wr).drew)) hszk).mono fun e w'' hp => by
            obtain ⟨a1, c1, h1, h2, h3⟩ := hp
            exact ⟨a1, c1, h1, h2.mono (fun b hb _ => hb.imp (fun h => h.1) id), ((Below.refl wr.heap.size wr).drew).trans h3⟩
          have HN1 : Hid (∀ a1 c1, ∀ x ∈ [Value.string (onT ls l[k]).name, Value.slice a1 (onT ls l[k]).args.length c1], x.oneCell' = true) := fun a1 c1 x hx => by simp at hx; rcases hx with rfl | rfl <;> rfl
          have HL1 : Hid ((onL ls (l.take k)).length + 1 ≤ maxLen ∧ ((onL ls (l.take k)).length + 1) * 40 ≤ 140737488355328) := ⟨by rw [hOL]; unfold maxLen; omega, by rw [hOL]; omega⟩
          clear hOL
          have HBW : Hid (w.heap.size < wr.heap.size ∧ b < wr.heap.size) := ⟨XT.out.lt, by have := XT.out.lt; omega⟩
          have HS8 : Hid (OnS w b (o + k * 2) s (some ⟨b, o, none⟩) l.length c l[k].name (.slice a' l[k].args.length c') wr) := ⟨XT.out, d0, d1⟩
          go_wp2_with fail
          refine wp_region_held_drew (S := OnS w b (o + k * 2) s (some ⟨b, o, none⟩) l.length c l[k].name (.slice a' l[k].args.length c')) (by kernel_rfl) (by exact HS8.out) (fun hHeld => ?_)
          refine wpAnyH_take (i := 0) (v := ?_) rfl (by kernel_rfl) (by kernel_rfl) (by kernel_rfl) (fun _ _ _ h => h) (Or.inl ⟨by rfl, ?_⟩) (by assumption) ?_
          rotate_left
          · intro w' hSw
            go_simp <;> with_reducible rfl
          try simp only [Act.put, List.setIfInBounds_toArray, List.set_cons_zero, List.set_cons_succ, List.getElem_toArray, List.getElem_cons_succ, List.getElem_cons_zero]
          refine wpAnyH_take (i := 2) (v := ?_) rfl (by kernel_rfl) (by kernel_rfl) (by kernel_rfl) (fun _ _ _ h => h) (Or.inl ⟨by rfl, ?_⟩) (by assumption) ?_
          rotate_left
          · intro w' hSw
            go_simp <;> with_reducible rfl
          try simp only [Act.put, List.setIfInBounds_toArray, List.set_cons_zero, List.set_cons_succ, List.getElem_toArray, List.getElem_cons_succ, List.getElem_cons_zero]
          refine wpAnyH_take (i := 3) (v := ?_) rfl (by kernel_rfl) (by kernel_rfl) (by kernel_rfl) (fun _ _ _ h => h) (Or.inl ⟨by rfl, ?_⟩) (by assumption) ?_
          rotate_left
          · intro w' hSw
            go_simp <;> with_reducible rfl
          try simp only [Act.put, List.setIfInBounds_toArray, List.set_cons_zero, List.set_cons_succ, List.getElem_toArray, List.getElem_cons_succ, List.getElem_cons_zero]
          refine wpAnyH_take (i := 5) (v := ?_) rfl (by kernel_rfl) (by kernel_rfl) (by kernel_rfl) (fun _ _ _ h => h) (Or.inl ⟨by rfl, ?_⟩) (by assumption) ?_
          rotate_left
          · intro w' hSw
            go_simp <;> with_reducible rfl
          try simp only [Act.put, List.setIfInBounds_toArray, List.set_cons_zero, List.set_cons_succ, List.getElem_toArray, List.getElem_cons_succ, List.getElem_cons_zero]
          refine wpAnyH_take (i := 4) (v := ?_) rfl (by kernel_rfl) (by kernel_rfl) (by kernel_rfl) (fun _ _ _ h => h) (Or.inl ⟨by rfl, ?_⟩) (by assumption) ?_
          rotate_left
          · intro w' hSw
            have k1 : w'.cell? ⟨w.heap.size, 1, none⟩ = some (.slice (some ⟨b, o, none⟩) l.length c) := hSw.1.cell 1
            go_simp <;> with_reducible rfl
          try simp only [Act.put, List.setIfInBounds_toArray, List.set_cons_zero, List.set_cons_succ, List.getElem_toArray, List.getElem_cons_succ, List.getElem_cons_zero]
          refine wpAnyH_take (i := 6) (v := ?_) rfl (by kernel_rfl) (by kernel_rfl) (by kernel_rfl) (fun _ _ _ h => h) (Or.inl ⟨by rfl, ?_⟩) (by assumption) ?_
          rotate_left
          · intro w' hSw
            go_simp <;> with_reducible rfl
          try simp only [Act.put, List.setIfInBounds_toArray, List.set_cons_zero, List.set_cons_succ, List.getElem_toArray, List.getElem_cons_succ, List.getElem_cons_zero]
          refine wpAnyH_take (i := 7) (v := ?_) rfl (by kernel_rfl) (by kernel_rfl) (by kernel_rfl) (fun _ _ _ h => h) (Or.inl ⟨by rfl, ?_⟩) (by assumption) ?_
          rotate_left
          · intro w' hSw
            have k2 := hSw.2.1
            have k3 := hSw.2.2
            go_simp <;> with_reducible rfl
          try simp only [Act.put, List.setIfInBounds_toArray, List.set_cons_zero, List.set_cons_succ, List.getElem_toArray, List.getElem_cons_succ, List.getElem_cons_zero]
          refine wpAnyH_ready (rs := [1, 8]) (by kernel_rfl) (by simp) ?_
          refine AllReadyH.cons rfl (fun K hK => ?_) (AllReadyH.cons rfl (fun K hK => ?_) AllReadyH.nil)
          · go_simp
            refine hK.out _ _ (by exact hHeld) (fun hHeld => ?_)
            clear hK K
            try simp only [Act.put, List.setIfInBounds_toArray, List.set_cons_zero, List.set_cons_succ, List.getElem_toArray, List.getElem_cons_succ, List.getElem_cons_zero]
            refine wpAnyH_ready (rs := [8]) (by kernel_rfl) (by simp) ?_
            refine AllReadyH.cons rfl (fun K hK => ?_) AllReadyH.nil
            · go_simp
              go_at_call 53
              refine IHQ.out.mono ?_
              rintro e w1 ⟨a1, c1, rfl, hs1, hb1⟩
              have hc3 : ∀ o, (w1.alloc o).cell? ⟨O, 1, none⟩ = some u9 := fun o => ((XO.out.below hb1 hOl).alloc o).cell 1
              have hc4 : w1.cell? ⟨O, 1, none⟩ = some u9 := (XO.out.below hb1 hOl).cell 1
              go_simp
              refine hK.out _ _ (by exact OnS.below HS8.out hb1 HBW.out) (fun hHeld => ?_)
              clear hK K
              try simp only [Act.put, List.setIfInBounds_toArray, List.set_cons_zero, List.set_cons_succ, List.getElem_toArray, List.getElem_cons_succ, List.getElem_cons_zero]
              refine wpAnyH_ready (rs := [9]) (by kernel_rfl) (by simp) ?_
              refine AllReadyH.cons rfl (fun K hK => ?_) AllReadyH.nil
              · go_simp
                refine hK.out _ _ (by exact hHeld.alloc _) (fun hHeld => ?_)
                clear hK K
                try simp only [Act.put, List.setIfInBounds_toArray, List.set_cons_zero, List.set_cons_succ, List.getElem_toArray, List.getElem_cons_succ, List.getElem_cons_zero]
                refine wpAnyH_ready (rs := [10]) (by kernel_rfl) (by simp) ?_
                refine AllReadyH.cons rfl (fun K hK => ?_) AllReadyH.nil
                · refine step_append_lies _ rfl _ _ 27 rfl (O + 1) 29 i0 _ 2 40 Try.underlying27 hi0 hz0 hz1 hz2 rfl (by decide) u9 (onL ls (l.take k)).length xs rfl (by exact (XW.out.below hb1).own.alloc _) ⟨w1.heap.size, 0, none⟩ 1 1 [.string (onT ls l[k]).name, .slice a1 (onT ls l[k]).args.length c1] rfl rfl (cell_two_new _ _ _ _) (HN1.out a1 c1) (by decide) HL1.out.1 HL1.out.2 (by have := hb1.size; simp; omega) _ rfl ?_
                  intro g cap w3 hown3 hgrow3 hat3 hlt3
                  have hB3 := hide (((XO.out.below hb1 hOl).alloc _).grown hgrow3 (XW.out.ne (Nat.lt_succ_self _)))
                  have hc5 : w3.cell? ⟨O, 1, none⟩ = some u9 := hB3.out.cell 1
                  have hf5 := hB3.out.frozen 1
                  have HFIN := hide (on_step (c := c) (n := l.length) (a := some ⟨b, o, none⟩) hO hY XW.out XE.out XT.out XR.out XO.out hb1 ⟨a1, c1, rfl, hs1⟩ hown3 hgrow3 hat3)
                  refine hK.out _ _ (by exact OnS.grown hHeld hgrow3 (fun j hj => XW.out.ne (by omega)) hXb trivial) (fun hHeld => ?_)
                  clear hK K
                  try simp only [Act.put, List.setIfInBounds_toArray, List.set_cons_zero, List.set_cons_succ, List.getElem_toArray, List.getElem_cons_succ, List.getElem_cons_zero]
                  refine wpAnyH_take (i := 11) (v := ?_) rfl (by kernel_rfl) (by kernel_rfl) (by kernel_rfl) (fun _ _ _ h => h) (Or.inl ⟨by rfl, ?_⟩) (by assumption) ?_
                  rotate_left
                  · intro w' hSw
                    go_simp <;> with_reducible rfl
                  try simp only [Act.put, List.setIfInBounds_toArray, List.set_cons_zero, List.set_cons_succ, List.getElem_toArray, List.getElem_cons_succ, List.getElem_cons_zero]
                  refine wpAnyH_ready (rs := [12]) (by kernel_rfl) (by simp) ?_
                  refine AllReadyH.cons rfl (fun K hK => ?_) AllReadyH.nil
                  · go_simp
                    refine hK.out _ _ (by exact OnS.set hHeld _ trivial (by omega) (by omega)) (fun hHeld => ?_)
                    clear hK K
                    try simp only [Act.put, List.setIfInBounds_toArray, List.set_cons_zero, List.set_cons_succ, List.getElem_toArray, List.getElem_cons_succ, List.getElem_cons_zero]
                    refine wpAnyH_done (by kernel_rfl) ?_ _
                    clear hc3 hc4 hc5 hf5 hown3 hgrow3 hat3 hlt3 hB3 hHeld
                    go_wp2_with fail
                    go_roundw
                    case rel =>
                      refine ⟨k + 1, .slice (some ⟨g, 0, none⟩) ((onL ls (l.take k)).length + 1) cap, by omega, by go_num, ?_⟩
                      rw [onL_take ls l k hlt]
                      exact HFIN.out
                    case measure => simp [intOf]; omega
          · go_simp
            go_at_call 53
            refine IHQ.out.mono ?_
            rintro e w1 ⟨a1, c1, rfl, hs1, hb1⟩
            have hc3 : ∀ o, (w1.alloc o).cell? ⟨O, 1, none⟩ = some u9 := fun o => ((XO.out.below hb1 hOl).alloc o).cell 1
            have hc4 : w1.cell? ⟨O, 1, none⟩ = some u9 := (XO.out.below hb1 hOl).cell 1
            go_simp
            refine hK.out _ _ (by exact OnS.below HS8.out hb1 HBW.out) (fun hHeld => ?_)
            clear hK K
            try simp only [Act.put, List.setIfInBounds_toArray, List.set_cons_zero, List.set_cons_succ, List.getElem_toArray, List.getElem_cons_succ, List.getElem_cons_zero]
            refine wpAnyH_ready (rs := [1, 9]) (by kernel_rfl) (by simp) ?_
            refine AllReadyH.cons rfl (fun K hK => ?_) (AllReadyH.cons rfl (fun K hK => ?_) AllReadyH.nil)
            · go_simp
              refine hK.out _ _ (by exact hHeld) (fun hHeld => ?_)
              clear hK K
              try simp only [Act.put, List.setIfInBounds_toArray, List.set_cons_zero, List.set_cons_succ, List.getElem_toArray, List.getElem_cons_succ, List.getElem_cons_zero]
              refine wpAnyH_ready (rs := [9]) (by kernel_rfl) (by simp) ?_
              refine AllReadyH.cons rfl (fun K hK => ?_) AllReadyH.nil
              · go_simp
                refine hK.out _ _ (by exact hHeld.alloc _) (fun hHeld => ?_)
                clear hK K
                try simp only [Act.put, List.setIfInBounds_toArray, List.set_cons_zero, List.set_cons_succ, List.getElem_toArray, List.getElem_cons_succ, List.getElem_cons_zero]
                refine wpAnyH_ready (rs := [10]) (by kernel_rfl) (by simp) ?_
                refine AllReadyH.cons rfl (fun K hK => ?_) AllReadyH.nil
                · refine step_append_lies _ rfl _ _ 27 rfl (O + 1) 29 i0 _ 2 40 Try.underlying27 hi0 hz0 hz1 hz2 rfl (by decide) u9 (onL ls (l.take k)).length xs rfl (by exact (XW.out.below hb1).own.alloc _) ⟨w1.heap.size, 0, none⟩ 1 1 [.string (onT ls l[k]).name, .slice a1 (onT ls l[k]).args.length c1] rfl rfl (cell_two_new _ _ _ _) (HN1.out a1 c1) (by decide) HL1.out.1 HL1.out.2 (by have := hb1.size; simp; omega) _ rfl ?_
                  intro g cap w3 hown3 hgrow3 hat3 hlt3
                  have hB3 := hide (((XO.out.below hb1 hOl).alloc _).grown hgrow3 (XW.out.ne (Nat.lt_succ_self _)))
                  have hc5 : w3.cell? ⟨O, 1, none⟩ = some u9 := hB3.out.cell 1
                  have hf5 := hB3.out.frozen 1
                  have HFIN := hide (on_step (c := c) (n := l.length) (a := some ⟨b, o, none⟩) hO hY XW.out XE.out XT.out XR.out XO.out hb1 ⟨a1, c1, rfl, hs1⟩ hown3 hgrow3 hat3)
                  refine hK.out _ _ (by exact OnS.grown hHeld hgrow3 (fun j hj => XW.out.ne (by omega)) hXb trivial) (fun hHeld => ?_)
                  clear hK K
                  try simp only [Act.put, List.setIfInBounds_toArray, List.set_cons_zero, List.set_cons_succ, List.getElem_toArray, List.getElem_cons_succ, List.getElem_cons_zero]
                  refine wpAnyH_take (i := 11) (v := ?_) rfl (by kernel_rfl) (by kernel_rfl) (by kernel_rfl) (fun _ _ _ h => h) (Or.inl ⟨by rfl, ?_⟩) (by assumption) ?_
                  rotate_left
                  · intro w' hSw
                    go_simp <;> with_reducible rfl
                  try simp only [Act.put, List.setIfInBounds_toArray, List.set_cons_zero, List.set_cons_succ, List.getElem_toArray, List.getElem_cons_succ, List.getElem_cons_zero]
                  refine wpAnyH_ready (rs := [12]) (by kernel_rfl) (by simp) ?_
                  refine AllReadyH.cons rfl (fun K hK => ?_) AllReadyH.nil
                  · go_simp
                    refine hK.out _ _ (by exact OnS.set hHeld _ trivial (by omega) (by omega)) (fun hHeld => ?_)
                    clear hK K
                    try simp only [Act.put, List.setIfInBounds_toArray, List.set_cons_zero, List.set_cons_succ, List.getElem_toArray, List.getElem_cons_succ, List.getElem_cons_zero]
                    refine wpAnyH_done (by kernel_rfl) ?_ _
                    clear hc3 hc4 hc5 hf5 hown3 hgrow3 hat3 hlt3 hB3 hHeld
                    go_wp2_with fail
                    go_roundw
                    case rel =>
                      refine ⟨k + 1, .slice (some ⟨g, 0, none⟩) ((onL ls (l.take k)).length + 1) cap, by omega, by go_num, ?_⟩
                      rw [onL_take ls l k hlt]
                      exact HFIN.out
                    case measure => simp [intOf]; omega
            · go_simp
              refine hK.out _ _ (by exact hHeld.alloc _) (fun hHeld => ?_)
              clear hK K
              try simp only [Act.put, List.setIfInBounds_toArray, List.set_cons_zero, List.set_cons_succ, List.getElem_toArray, List.getElem_cons_succ, List.getElem_cons_zero]
              refine wpAnyH_ready (rs := [1]) (by kernel_rfl) (by simp) ?_
              refine AllReadyH.cons rfl (fun K hK => ?_) AllReadyH.nil
              · go_simp
                refine hK.out _ _ (by exact hHeld) (fun hHeld => ?_)
                clear hK K
                try simp only [Act.put, List.setIfInBounds_toArray, List.set_cons_zero, List.set_cons_succ, List.getElem_toArray, List.getElem_cons_succ, List.getElem_cons_zero]
                refine wpAnyH_ready (rs := [10]) (by kernel_rfl) (by simp) ?_
                refine AllReadyH.cons rfl (fun K hK => ?_) AllReadyH.nil
                · refine step_append_lies _ rfl _ _ 27 rfl (O + 1) 29 i0 _ 2 40 Try.underlying27 hi0 hz0 hz1 hz2 rfl (by decide) u9 (onL ls (l.take k)).length xs rfl (by exact (XW.out.below hb1).own.alloc _) ⟨w1.heap.size, 0, none⟩ 1 1 [.string (onT ls l[k]).name, .slice a1 (onT ls l[k]).args.length c1] rfl rfl (cell_two_new _ _ _ _) (HN1.out a1 c1) (by decide) HL1.out.1 HL1.out.2 (by have := hb1.size; simp; omega) _ rfl ?_
                  intro g cap w3 hown3 hgrow3 hat3 hlt3
                  have hB3 := hide (((XO.out.below hb1 hOl).alloc _).grown hgrow3 (XW.out.ne (Nat.lt_succ_self _)))
                  have hc5 : w3.cell? ⟨O, 1, none⟩ = some u9 := hB3.out.cell 1
                  have hf5 := hB3.out.frozen 1
                  have HFIN := hide (on_step (c := c) (n := l.length) (a := some ⟨b, o, none⟩) hO hY XW.out XE.out XT.out XR.out XO.out hb1 ⟨a1, c1, rfl, hs1⟩ hown3 hgrow3 hat3)
                  refine hK.out _ _ (by exact OnS.grown hHeld hgrow3 (fun j hj => XW.out.ne (by omega)) hXb trivial) (fun hHeld => ?_)
                  clear hK K
                  try simp only [Act.put, List.setIfInBounds_toArray, List.set_cons_zero, List.set_cons_succ, List.getElem_toArray, List.getElem_cons_succ, List.getElem_cons_zero]
                  refine wpAnyH_take (i := 11) (v := ?_) rfl (by kernel_rfl) (by kernel_rfl) (by kernel_rfl) (fun _ _ _ h => h) (Or.inl ⟨by rfl, ?_⟩) (by assumption) ?_
                  rotate_left
                  · intro w' hSw
                    go_simp <;> with_reducible rfl
                  try simp only [Act.put, List.setIfInBounds_toArray, List.set_cons_zero, List.set_cons_succ, List.getElem_toArray, List.getElem_cons_succ, List.getElem_cons_zero]
                  refine wpAnyH_ready (rs := [12]) (by kernel_rfl) (by simp) ?_
                  refine AllReadyH.cons rfl (fun K hK => ?_) AllReadyH.nil
                  · go_simp
                    refine hK.out _ _ (by exact OnS.set hHeld _ trivial (by omega) (by omega)) (fun hHeld => ?_)
                    clear hK K
                    try simp only [Act.put, List.setIfInBounds_toArray, List.set_cons_zero, List.set_cons_succ, List.getElem_toArray, List.getElem_cons_succ, List.getElem_cons_zero]
                    refine wpAnyH_done (by kernel_rfl) ?_ _
                    clear hc3 hc4 hc5 hf5 hown3 hgrow3 hat3 hlt3 hB3 hHeld
                    go_wp2_with fail
                    go_roundw
                    case rel =>
                      refine ⟨k + 1, .slice (some ⟨g, 0, none⟩) ((onL ls (l.take k)).length + 1) cap, by omega, by go_num, ?_⟩
                      rw [onL_take ls l k hlt]
                      exact HFIN.out
                    case measure => simp [intOf]; omega
        · have htk : l.take k = l := List.take_of_length_le (by omega)
          rw [htk] at XW
          obtain ⟨a9, c9, hu9, hsl9⟩ := XW.out.sl
          subst hu9
          have S9 := hide hsl9
          have r0 : wr.cell? ⟨w.heap.size + 1, 0, none⟩ = some (.string ⟨#[]⟩) := XR.out.cell 0
          have r1 : wr.cell? ⟨w.heap.size + 1, 1, none⟩ = some (.slice none 0 0) := XR.out.cell 1
          have rf := XR.out.frozen
          clear hsl9 htk
          go_wp2_with fail
          refine bodyPost_ret (v := .agg #[.string s, .slice a9 (onL ls l).length c9]) (by simp [results, Try.results53, go_sem, World.cell?_setCell_same, World.cell?_setCell_other, r0, r1]) rfl ?_
          rw [HD.out]
          refine ⟨a9, c9, rfl, (S9.out.kept fun b hb => ?_).mono fun b hb _ => hb.imp id (fun h => by omega), (XE.out.setCell (by simp) _).setCell (by simp) _⟩
          have hbne : b ≠ w.heap.size + 1 := by
            rcases hb with h | h
            · have := h.2; omega
            · omega
          rw [Below.heap_setCell _ _ _ _ (by simpa using hbne), Below.heap_setCell _ _ _ _ (by simpa using hbne)]
#print axioms on_any
end Go.Proofs.Ytpjdkdebjkpmmab

/- Walks: a term with bindings in it, if it isn't too great; whether bindings may be. -/
namespace Go.Proofs.Ytpjdkdebjkpmmab
open Go.RowKit
set_option linter.unusedSimpArgs false
set_option linter.unusedVariables false
set_option maxRecDepth 8000

def OnAll (w : World) (X : Nat → Prop) (t : Tm) (e : Ending) (w' : World) : Prop :=
  Below w.heap.size w w' ∧ ((2000 < sizeL [t] ∧ e = .returned (.tuple #[.agg #[.string ⟨#[]⟩, .slice none 0 0], .bool false])) ∨ (sizeL [t] ≤ 2000 ∧ ∃ a c, e = .returned (.tuple #[.agg #[.string t.name, .slice a t.args.length c], .bool true]) ∧ Sl w' (fun b => (X b ∧ b < w.heap.size) ∨ w.heap.size ≤ b) a t.args))

set_option maxHeartbeats 1000000 in
theorem onAll_any (ls : List Bd) (t : Tm) (u v : Value) (w : World) (X : Nat → Prop) (hu : BV w X u ls) (hv : TV w X v t) (hsm : sizeL [t] ≤ 1000000) :
    Calls Try.prog 22 #[u, v] w fun e w' => OnAll w X (onT ls t) e w' := by
  obtain ⟨a, c, rfl, hs⟩ := hv
  have HU := hide (hu.mono (Y := fun b => X b ∧ b < w.heap.size) fun b h1 h2 => ⟨h1, h2⟩)
  have HS := hide (hs.mono (Y := fun b => X b ∧ b < w.heap.size) fun b h1 h2 => ⟨h1, h2⟩)
  clear hu hs
  go_enter Try.func22, Try.ntmps22
  go_wp2_with fail
  refine (grown_any ls t u _ 2000 _ (fun b => X b ∧ b < w.heap.size) (by exact (HU.out.alloc _).alloc _) (by exact ⟨a, c, rfl, (HS.out.later ((Below.refl _ _).alloc (Nat.le_refl _) _)).later ((Below.refl _ _).alloc (Nat.le_refl _) _)⟩) (by decide) (by decide)).mono ?_
  rintro e w1 ⟨rfl, hb1⟩
  have T1 := hide (((Blk.new w #[.string t.name, .slice a t.args.length c] 29).alloc (.cells #[.string ⟨#[]⟩, .slice none 0 0] 29)).below hb1 (by simp; omega))
  have R1 : Hid (Blk w1 (w.heap.size + 1) #[.string ⟨#[]⟩, .slice none 0 0] 29) := by
    have h := (Blk.new (w.alloc (.cells #[.string t.name, .slice a t.args.length c] 29)) #[.string ⟨#[]⟩, .slice none 0 0] 29).below hb1 (by simp)
    unfold Hid
    simpa using h
  have B1 := hide ((((Below.refl w.heap.size w).alloc (Nat.le_refl _) (.cells #[.string t.name, .slice a t.args.length c] 29)).alloc (by simp) (.cells #[.string ⟨#[]⟩, .slice none 0 0] 29)).trans (hb1.mono (by simp; omega)))
  clear hb1
  have t0 : w1.cell? ⟨w.heap.size, 0, none⟩ = some (.string t.name) := T1.out.cell 0
  have t1 : w1.cell? ⟨w.heap.size, 1, none⟩ = some (.slice a t.args.length c) := T1.out.cell 1
  have r0 : w1.cell? ⟨w.heap.size + 1, 0, none⟩ = some (.string ⟨#[]⟩) := R1.out.cell 0
  have r1 : w1.cell? ⟨w.heap.size + 1, 1, none⟩ = some (.slice none 0 0) := R1.out.cell 1
  have rf := R1.out.frozen
  by_cases hg : 2000 < sizeL [onT ls t]
  · have hmin : min (sizeL [onT ls t] : Int) (2000 + 1) = 2001 := by omega
    rw [hmin]
    go_wp2_with fail
    refine bodyPost_ret (v := .tuple #[.agg #[.string ⟨#[]⟩, .slice none 0 0], .bool false]) (by simp [results, Try.results22, go_sem, World.cell?_setCell_same, World.cell?_setCell_other, r0, r1]) rfl ?_
    exact ⟨(B1.out.setCell (by simp) _).setCell (by simp) _, Or.inl ⟨hg, rfl⟩⟩
  · have hmin : min (sizeL [onT ls t] : Int) (2000 + 1) = sizeL [onT ls t] := by omega
    rw [hmin]
    have hle : ¬ (2000 : Int) < (sizeL [onT ls t] : Int) := by omega
    clear hmin
    go_wp2_with fail
    refine (on_any ls t u _ _ (fun b => X b ∧ b < w.heap.size) (by exact HU.out.later B1.out) (by exact ⟨a, c, rfl, HS.out.later B1.out⟩) hsm).mono ?_
    rintro e w2 ⟨a2, c2, rfl, hs2, hb2⟩
    have R2 := hide (R1.out.below hb2 R1.out.lt)
    have B2 := hide (B1.out.trans (hb2.mono B1.out.size))
    have S2 := hide (hs2.mono (Y := fun b => (X b ∧ b < w.heap.size) ∨ w.heap.size + 2 ≤ b) fun b hb _ => hb.imp (fun h => h.1) (fun h => by have := R1.out.lt; omega))
    clear hb2 hs2 r0 r1 rf t0 t1
    have r0 : w2.cell? ⟨w.heap.size + 1, 0, none⟩ = some (.string ⟨#[]⟩) := R2.out.cell 0
    have r1 : w2.cell? ⟨w.heap.size + 1, 1, none⟩ = some (.slice none 0 0) := R2.out.cell 1
    have rf := R2.out.frozen
    go_wp2_with fail
    refine bodyPost_ret (v := .tuple #[.agg #[.string (onT ls t).name, .slice a2 (onT ls t).args.length c2], .bool true]) (by simp [results, Try.results22, go_sem, World.cell?_setCell_same, World.cell?_setCell_other, r0, r1]) rfl ?_
    refine ⟨(B2.out.setCell (by simp) _).setCell (by simp) _, Or.inr ⟨by omega, a2, c2, rfl, (S2.out.kept fun b hb => ?_).mono fun b hb _ => hb.imp id (fun h => by omega)⟩⟩
    have hbne : b ≠ w.heap.size + 1 := by
      rcases hb with h | h
      · have := h.2; omega
      · omega
    rw [Below.heap_setCell _ _ _ _ (by simpa using hbne), Below.heap_setCell _ _ _ _ (by simpa using hbne)]

#print axioms onAll_any
end Go.Proofs.Ytpjdkdebjkpmmab

/- Walks: whether bindings may be, as the document says. -/
namespace Go.Proofs.Ytpjdkdebjkpmmab
open Go.RowKit
set_option linter.unusedSimpArgs false
set_option linter.unusedVariables false
set_option maxRecDepth 8000

def BmInv (ls : List Bd) (w : World) (v : Value) (wr : World) : Prop := ∃ k : Nat, v = .int .i64 (k : Int) ∧ k ≤ ls.length ∧ bmT ls k = 0 ∧ Below w.heap.size w wr

theorem Below.drewN' {B : Nat} {a w : World} (h : Below B a w) (n : Nat) : Below B a (w.drewN n) := ⟨h.os, h.tape, h.output, h.size, h.block⟩

set_option maxHeartbeats 2000000 in
theorem bindsMay_any (ls : List Bd) (u : Value) (w : World) (X : Nat → Prop) (hu : BV w X u ls) :
    Calls Try.prog 32 #[u] w fun e w' => e = .returned (.int .i64 (bindsE ls)) ∧ Below w.heap.size w w' := by
  have HU := hide hu
  obtain ⟨a, c, rfl, hl, hu2⟩ := hu
  clear hu2
  go_enter Try.func32, Try.ntmps32
  by_cases h40 : 40 < ls.length
  · go_wp2_with fail
    go_ret
    exact ⟨ret_int (by unfold bindsE; rw [if_pos h40]), Below.refl _ _⟩
  · go_wp2_with fail
    go_loopw [3] (fun v wr => BmInv ls w v wr) (fun v wr => ls.length - (intOf v).toNat)
    case atStart => exact ⟨0, rfl, Nat.zero_le _, rfl, Below.refl _ _⟩
    case round =>
      obtain ⟨k, rfl, hk, hT, hb⟩ := hrel
      have HB := hide hb
      have HT := hide hT
      clear hT
      by_cases hlt : k < ls.length
      · obtain ⟨b, o, a', c', rfl, d0, d1, d2, hs⟩ := (HU.out.later hb).get k hlt
        have hlt2 : (k : Int) < (ls.length : Int) := by omega
        have HX := hide hs
        clear hb hs
        cases hn : nameB ls[k].nm with
        | false =>
          have HK := hide (bmK_name hlt (by rw [hn]; rfl))
          have HN := hide hn
          have HV := hide (rfl : varB ls[k].nm = varB ls[k].nm)
          clear hn
          generalize ls[k] = d at *
          go_wp2_with (first | (go_at_call 60; refine (isNameR_any _ _).mono ?_; rintro e w' ⟨rfl, rfl⟩; rw [HN.out]) | (go_at_call 54; refine (isVarR_any _ _).mono ?_; rintro e w' ⟨rfl, rfl⟩; rw [HV.out]))
          go_ret
          exact ⟨ret_int (bmT_err hlt h40 HT.out HK.out (by decide)).symm, HB.out⟩
        | true =>
          have HN := hide hn
          clear hn
          cases hv : varB ls[k].nm with
          | false =>
            have HK := hide (bmK_name hlt (by rw [HN.out, hv]; rfl))
            have HV := hide hv
            clear hv
            generalize ls[k] = d at *
            go_wp2_with (first | (go_at_call 60; refine (isNameR_any _ _).mono ?_; rintro e w' ⟨rfl, rfl⟩; rw [HN.out]) | (go_at_call 54; refine (isVarR_any _ _).mono ?_; rintro e w' ⟨rfl, rfl⟩; rw [HV.out]))
            go_ret
            exact ⟨ret_int (bmT_err hlt h40 HT.out HK.out (by decide)).symm, HB.out⟩
          | true =>
            have HV := hide hv
            clear hv
            by_cases hk0 : 0 < k
            · obtain ⟨j, rfl⟩ : ∃ j, k = j + 1 := ⟨k - 1, by omega⟩
              obtain ⟨b2, o2, a2, c2, e2, p0, p1, p2, hs2⟩ := (HU.out.later HB.out).get j (by omega)
              clear hs2
              simp at e2
              obtain ⟨rfl, rfl⟩ := e2
              have hj0 : (0 : Int) ≤ (j : Int) := by omega
              have hj1 : (j : Int) < (ls.length : Int) := by omega
              have hw1 : IntKind.i64.wrap ((j : Int) + 1 - 1) = (j : Int) := by rw [IntKind.wrap_i64]; omega
              have hw2 : IntKind.i64.wrap (j : Int) = (j : Int) := by rw [IntKind.wrap_i64]; omega
              cases hle : leB ls[j + 1].nm ls[j].nm with
              | true =>
                have HK := hide (bmK_order hlt (by rw [HN.out, HV.out]; rfl) hle)
                have hle2 : (Op.bytesLess ls[j + 1].nm.toList ls[j].nm.toList || ls[j + 1].nm.toList == ls[j].nm.toList) = true := hle
                clear hle
                generalize ls[j + 1] = d at *
                generalize ls[j] = d' at *
                go_wp2_with (first | (go_at_call 60; refine (isNameR_any _ _).mono ?_; rintro e w' ⟨rfl, rfl⟩; rw [HN.out]) | (go_at_call 54; refine (isVarR_any _ _).mono ?_; rintro e w' ⟨rfl, rfl⟩; rw [HV.out]))
                go_quiet (fail)
                go_wp2_with fail
                go_ret
                exact ⟨ret_int (bmT_err hlt h40 HT.out HK.out (by decide)).symm, below_drewN HB.out _⟩
              | false =>
                have HK := hide (bmK_may hlt (by rw [HN.out, HV.out]; rfl) hle)
                have hle2 : (Op.bytesLess ls[j + 1].nm.toList ls[j].nm.toList || ls[j + 1].nm.toList == ls[j].nm.toList) = false := hle
                clear hle
                generalize ls[j + 1] = d at *
                generalize ls[j] = d' at *
                go_wp2_with (first | (go_at_call 60; refine (isNameR_any _ _).mono ?_; rintro e w' ⟨rfl, rfl⟩; rw [HN.out]) | (go_at_call 54; refine (isVarR_any _ _).mono ?_; rintro e w' ⟨rfl, rfl⟩; rw [HV.out]))
                go_quiet (fail)
                go_wp2_with fail
                refine (termMay_any d.t _ _ X (by exact ⟨a', c', rfl, HX.out.kept fun _ _ => rfl⟩)).mono ?_
                rintro e w5 ⟨rfl, hb5⟩
                have HB5 := hide ((below_drewN HB.out _).trans (hb5.mono HB.out.size))
                clear hb5
                by_cases hm : mayE d.t = 0
                · have HM := hide hm
                  rw [hm]
                  clear hm
                  go_wp2_with fail
                  go_roundw
                  case rel => exact ⟨j + 1 + 1, by go_num, by omega, bmT_next HT.out (HK.out.trans HM.out), HB5.out⟩
                  case measure => simp [intOf]; omega
                · have hm2 : (mayE d.t == 0) = false := by simpa using hm
                  have HM := hide hm
                  clear hm
                  go_wp2_with fail
                  go_ret
                  exact ⟨ret_int (bmT_err hlt h40 HT.out HK.out HM.out).symm, HB5.out⟩
            · have hk00 : k = 0 := by omega
              subst hk00
              have HK := hide (bmK_first hlt (by rw [HN.out, HV.out]; rfl))
              have hkz : ¬ (0 : Int) < ((0 : Nat) : Int) := by simp
              simp only [Nat.zero_mul, Nat.add_zero] at d0 d1 d2
              generalize ls[0] = d at *
              go_wp2_with (first | (go_at_call 60; refine (isNameR_any _ _).mono ?_; rintro e w' ⟨rfl, rfl⟩; rw [HN.out]) | (go_at_call 54; refine (isVarR_any _ _).mono ?_; rintro e w' ⟨rfl, rfl⟩; rw [HV.out]))
              go_quiet (fail)
              go_wp2_with fail
              refine (termMay_any d.t _ _ X (by exact ⟨a', c', rfl, HX.out.kept fun _ _ => rfl⟩)).mono ?_
              rintro e w5 ⟨rfl, hb5⟩
              have HB5 := hide ((below_drewN HB.out _).trans (hb5.mono HB.out.size))
              clear hb5
              by_cases hm : mayE d.t = 0
              · have HM := hide hm
                rw [hm]
                clear hm
                go_wp2_with fail
                go_roundw
                case rel => exact ⟨1, by go_num, by omega, bmT_next HT.out (HK.out.trans HM.out), HB5.out⟩
                case measure => simp [intOf]; omega
              · have hm2 : (mayE d.t == 0) = false := by simpa using hm
                have HM := hide hm
                clear hm
                go_wp2_with fail
                go_ret
                exact ⟨ret_int (bmT_err hlt h40 HT.out HK.out HM.out).symm, HB5.out⟩
      · have hkl : k = ls.length := by omega
        go_wp2_with fail
        go_ret
        exact ⟨ret_int (by unfold bindsE; rw [if_neg h40, ← hkl]; exact HT.out.symm), HB.out⟩
#print axioms bindsMay_any
end Go.Proofs.Ytpjdkdebjkpmmab

/- Walks: bindings sorted, as the document says. -/
namespace Go.Proofs.Ytpjdkdebjkpmmab
open Go.RowKit
set_option linter.unusedSimpArgs false
set_option linter.unusedVariables false
set_option maxRecDepth 8000

theorem flat3_set (y : Bc) : ∀ (cs : List Bc) (i : Nat), i < cs.length → flat3 (cs.set i y) = (((flat3 cs).set (i * 3) (.string y.1.nm)).set (i * 3 + 1) (.string y.1.t.name)).set (i * 3 + 2) (.slice y.2.1 y.1.t.args.length y.2.2)
  | [], i, h => by simp at h
  | x :: r, 0, h => by simp [flat3, enc3]
  | x :: r, i + 1, h => by
    have ih := flat3_set y r i (by simpa using h)
    rw [List.set_cons_succ, flat3, flat3, ih]
    rw [show (i + 1) * 3 = i * 3 + 3 by omega, show i * 3 + 3 + 1 = (i * 3 + 1) + 3 by omega, show i * 3 + 3 + 2 = (i * 3 + 2) + 3 by omega]
    simp [enc3]
/-- The world with a binding stored in a row. -/
def put3 (w : World) (g i : Nat) (y : Bc) : World := (((w.setCell ⟨g, i * 3, none⟩ (.string y.1.nm)).setCell ⟨g, i * 3 + 1, none⟩ (.string y.1.t.name)).setCell ⟨g, i * 3 + 2, none⟩ (.slice y.2.1 y.1.t.args.length y.2.2))
theorem put3_block {w : World} {g i b : Nat} {y : Bc} (h : b ≠ g) : (put3 w g i y).heap[b]? = w.heap[b]? := by
  unfold put3
  rw [Below.heap_setCell _ _ _ _ (by simpa using h), Below.heap_setCell _ _ _ _ (by simpa using h), Below.heap_setCell _ _ _ _ (by simpa using h)]
theorem put3_size {w : World} {g i : Nat} {y : Bc} : (put3 w g i y).heap.size = w.heap.size := by simp [put3, World.setCell]
theorem put3_below {w0 w : World} {B g i : Nat} {y : Bc} (h : Below B w0 w) (hg : B ≤ g) : Below B w0 (put3 w g i y) := ((h.setCell (by exact hg) _).setCell (by exact hg) _).setCell (by exact hg) _
theorem Sl.put3 {w : World} {N g n cap i : Nat} {Y : Nat → Prop} {a : Option Addr} {l : List Tm} {y : Bc} (h : Sl w (fun b => Y b ∨ (N ≤ b ∧ some b ≠ (Value.slice (some ⟨g, 0, none⟩) n cap).ownBlock)) a l) (hY : ∀ b, Y b → b < N) (hg : N ≤ g) : Sl (put3 w g i y) (fun b => Y b ∨ (N ≤ b ∧ some b ≠ (Value.slice (some ⟨g, 0, none⟩) n cap).ownBlock)) a l :=
  h.kept fun b hb => put3_block (by
    rcases hb with hb | hb
    · have := hY b hb; omega
    · intro e; exact hb.2 (by simp [Value.ownBlock, e]))
theorem BRow.put {w : World} {N : Nat} {Y : Nat → Prop} {cs : List Bc} {g n cap : Nat} (h : BRow w N Y (.slice (some ⟨g, 0, none⟩) n cap) cs) (hY : ∀ b, Y b → b < N) (i : Nat) (hi : i < cs.length) (y : Bc) (hy : Sl w (fun b => Y b ∨ (N ≤ b ∧ some b ≠ (Value.slice (some ⟨g, 0, none⟩) n cap).ownBlock)) y.2.1 y.1.t.args) : BRow (put3 w g i y) N Y (.slice (some ⟨g, 0, none⟩) n cap) (cs.set i y) := by
  have hNg : N ≤ g := (h.own.lt g rfl).1
  refine ⟨?_, fun x hx => ?_⟩
  · rcases h.own.2 with ⟨e, _⟩ | ⟨g', cap', cur, e, hbase, hb, h1, h2, h3, h4⟩
    · cases e
    · simp at e
      obtain ⟨rfl, rfl, rfl⟩ := e
      have hB : Blk w g cur 55 := hb
      have hB' := ((hB.set (i * 3) (.string y.1.nm)).set (i * 3 + 1) (.string y.1.t.name)).set (i * 3 + 2) (.slice y.2.1 y.1.t.args.length y.2.2)
      refine ⟨flat3_length _, Or.inr ⟨g, cap, _, by simp, hbase, hB', by simpa using h1, h2, by simpa using h3, ?_⟩⟩
      rw [flat3_set y cs i hi, ← h4]
      simp [List.take_set]
  · rcases List.mem_or_eq_of_mem_set hx with h1 | h1
    · exact (h.row x h1).put3 hY hNg
    · rw [h1]; exact hy.put3 hY hNg
/-- Two of a row change places. -/
theorem BRow.swap {w : World} {N : Nat} {Y : Nat → Prop} {A B : List Bc} {x y : Bc} {g n cap : Nat} (h : BRow w N Y (.slice (some ⟨g, 0, none⟩) n cap) ((A ++ [y]) ++ x :: B)) (hY : ∀ b, Y b → b < N) : BRow (put3 (put3 w g (A.length + 1) y) g A.length x) N Y (.slice (some ⟨g, 0, none⟩) n cap) (A ++ x :: y :: B) := by
  have hNg : N ≤ g := (h.own.lt g rfl).1
  have h1 := h.put hY (A.length + 1) (by simp) y (h.row y (by simp))
  have h2 := h1.put hY A.length (by simp) x ((h.row x (by simp)).put3 hY hNg)
  have e : (((A ++ [y]) ++ x :: B).set (A.length + 1) y).set A.length x = A ++ x :: y :: B := by
    rw [List.set_append_right _ _ (by simp)]
    simp [List.set_append_right]
  rw [e] at h2
  exact h2

/-- None is ahead of one that stands ahead of it. -/
def Weak (l : List Bc) : Prop := l.Pairwise fun a b => ltB b.1.nm a.1.nm = false
theorem weak_ins {A B : List Bc} {x : Bc} (hw : Weak (A ++ B)) (hB : ∀ b ∈ B, ltB x.1.nm b.1.nm = true) (hA : ∀ a ∈ A, ltB x.1.nm a.1.nm = false) : Weak (A ++ x :: B) := by
  obtain ⟨h1, h2, h3⟩ := List.pairwise_append.1 hw
  refine List.pairwise_append.2 ⟨h1, List.pairwise_cons.2 ⟨fun b hb => ltB_asymm (hB b hb), h2⟩, fun a ha b hb => ?_⟩
  rcases List.mem_cons.1 hb with rfl | hb
  · exact hA a ha
  · exact h3 a ha b hb
theorem weak_last {A B : List Bc} {a x : Bc} (hw : Weak (A ++ [a] ++ B)) (h : ltB x.1.nm a.1.nm = false) : ∀ y ∈ A ++ [a], ltB x.1.nm y.1.nm = false := fun y hy => by
  rcases List.mem_append.1 hy with hy | hy
  · obtain ⟨h1, _⟩ := List.pairwise_append.1 hw
    exact ltB_ntrans h ((List.pairwise_append.1 h1).2.2 y hy a (by simp))
  · have e : y = a := by simpa using hy
    rw [e]; exact h

theorem BRow.atk {w : World} {N : Nat} {Y : Nat → Prop} {P Q : List Bc} {z : Bc} {g n cap : Nat} (h : BRow w N Y (.slice (some ⟨g, 0, none⟩) n cap) (P ++ z :: Q)) :
    w.cell? ⟨g, P.length * 3, none⟩ = some (.string z.1.nm) ∧ w.cell? ⟨g, P.length * 3 + 1, none⟩ = some (.string z.1.t.name) ∧ w.cell? ⟨g, P.length * 3 + 2, none⟩ = some (.slice z.2.1 z.1.t.args.length z.2.2) ∧ ∀ j, w.frozen? ⟨g, j, none⟩ = false := by
  obtain ⟨g', cap', e, _, _, hc⟩ := owned_val h.own (by simp only [List.length_append, List.length_cons]; omega)
  simp at e
  obtain ⟨rfl, _, rfl⟩ := e
  have hf : ∀ j, w.frozen? ⟨g, j, none⟩ = false := by
    rcases h.own.2 with ⟨e, _⟩ | ⟨g', cap', cur, e, _, hb, _⟩
    · cases e
    · simp at e
      obtain ⟨rfl, _, rfl⟩ := e
      intro j
      simp [World.frozen?, hb]
  have hg : ∀ j, j < 3 → (flat3 (P ++ z :: Q))[P.length * 3 + j]? = (enc3 z)[j]? := fun j hj => by
    rw [flat3_get _ P.length (by simp) j hj]
    simp
  exact ⟨hc _ _ (by have h0 := hg 0 (by decide); rw [Nat.add_zero] at h0; rw [h0]; rfl), hc _ _ (by rw [hg 1 (by decide)]; rfl), hc _ _ (by rw [hg 2 (by decide)]; rfl), hf⟩
theorem ins_perm {A B cs : List Bc} {x : Bc} {l : List Bd} (h : A ++ B = cs) (hp : (cs.map (·.1) ++ [x.1]).Perm l) : ((A ++ x :: B).map (·.1)).Perm l := by
  refine List.Perm.trans ?_ hp
  have h1 : (A ++ x :: B).Perm (cs ++ [x]) := by
    rw [← h]
    exact List.perm_middle.trans (List.perm_append_singleton x (A ++ B)).symm
  simpa using h1.map (·.1)

/-- What is known in the outer loop. -/
def SoInv (w : World) (Y : Nat → Prop) (ls : List Bd) (u v : Value) (wr : World) : Prop :=
  ∃ (k : Nat) (cs : List Bc), v = .int .i64 (k : Int) ∧ k ≤ ls.length ∧ BRow wr w.heap.size Y u cs ∧ (cs.map (·.1)).Perm (ls.take k) ∧ Weak cs ∧ Below w.heap.size w wr
/-- What is known in the inner loop. -/
def SiInv (w : World) (Y : Nat → Prop) (cs : List Bc) (x : Bc) (g cap : Nat) (v : Value) (wr : World) : Prop :=
  ∃ (A B : List Bc), v = .int .i64 (A.length : Int) ∧ A ++ B = cs ∧ (∀ b ∈ B, ltB x.1.nm b.1.nm = true) ∧ BRow wr w.heap.size Y (.slice (some ⟨g, 0, none⟩) (cs.length + 1) cap) (A ++ x :: B) ∧ Below w.heap.size w wr

set_option maxHeartbeats 2000000 in
theorem sorted_any (ls : List Bd) (u : Value) (w : World) (X : Nat → Prop) (hu : BV w X u ls) (hn : ls.length ≤ 1000000) :
    Calls Try.prog 44 #[u] w fun e w' => ∃ (v : Value) (cs : List Bc), e = .returned v ∧ BRow w' w.heap.size (fun b => X b ∧ b < w.heap.size) v cs ∧ (cs.map (·.1)).Perm ls ∧ Weak cs ∧ Below w.heap.size w w' := by
  have HU := hide (hu.mono (Y := fun b => X b ∧ b < w.heap.size) fun b h1 h2 => ⟨h1, h2⟩)
  obtain ⟨a, c, rfl, hl, hu2⟩ := hu
  clear hu2
  go_enter Try.func44, Try.ntmps44
  go_wp2_with fail
  go_loopw [3, 4] (fun u v wr => SoInv w (fun b => X b ∧ b < w.heap.size) ls u v wr) (fun u v wr => ls.length - (intOf v).toNat)
  case atStart => exact ⟨0, [], rfl, Nat.zero_le _, BRow.start _ _ _, by simp, List.Pairwise.nil, Below.refl _ _⟩
  case round =>
    obtain ⟨k, cs, rfl, hk, hrow, hperm, hweak, hb⟩ := hrel
    have HROW := hide hrow
    have HP := hide hperm
    have HW := hide hweak
    have HB := hide hb
    clear hrow hperm hweak
    by_cases hlt : k < ls.length
    · obtain ⟨b, o, a', c', rfl, d0, d1, d2, hs⟩ := (HU.out.later hb).get k hlt
      have hlt2 : (k : Int) < (ls.length : Int) := by omega
      have HS := hide hs
      have HP1 : Hid ((cs.map (·.1) ++ [ls[k]]).Perm (ls.take (k + 1))) := by
        unfold Hid
        rw [List.take_succ_eq_append_getElem hlt]
        exact HP.out.append_right _
      have hLC : cs.length ≤ 1000000 := by have := HP.out.length_eq; simp at this; omega
      clear hb hs
      generalize ls[k] = d at *
      obtain ⟨v2, w2, hrun, hB2, hg2⟩ := binds_append HROW.out HB.out.size (fun b h => h.2) (Below.refl wr.heap.size wr) (d, a', c') (HS.out.mono fun b h _ => Or.inl h) hLC wr.heap.size rfl
      obtain ⟨g, cap, rfl, hNg, hgl⟩ := hB2.own.form (by simp)
      have HRUN := hide hrun
      have HB2 := hide hB2
      have HBW : Hid (Below w.heap.size w w2) := (HB.out.alloc HB.out.size _).grown hg2 (by have := HB.out.size; simp; omega) (fun j hj => by have := (HROW.out.own.lt j hj).1; omega)
      have hlen2 : (cs ++ [(d, a', c')]).length = cs.length + 1 := by simp
      rw [hlen2] at HB2 HRUN
      clear hrun hB2 hg2
      have hgw : w.heap.size ≤ g := hNg
      go_wp2_with (at_builtin; refine wpList_append_eq rfl _ _ _ _ rfl rfl rfl HRUN.out ?_)
      go_loopw [5] (fun v wr => SiInv w (fun b => X b ∧ b < w.heap.size) cs (d, a', c') g cap v wr) (fun v wr => (intOf v).toNat)
      case atStart =>
        exact ⟨cs, [], by go_num, by simp, by simp, HB2.out, HBW.out⟩
      case round =>
        obtain ⟨A, B, rfl, hAB, hBx, hrow, hb⟩ := hrel
        have HROW3 := hide hrow
        have HB3 := hide hb
        have HBX := hide hBx
        have HAB := hide hAB
        have HLA : Hid (A.length + B.length = cs.length) := by have := congrArg List.length hAB; unfold Hid; simpa using this
        clear hBx hAB
        rcases List.eq_nil_or_concat A with rfl | ⟨A', y, hAe⟩
        · clear hrow hb
          go_wp2_with fail
          go_quiet (fail)
          go_wp2_with fail
          go_roundw
          case rel => exact ⟨k + 1, [] ++ (d, a', c') :: B, by go_num, by omega, HROW3.out.below (below_drewN (Below.refl _ _) _), ins_perm HAB.out HP1.out, weak_ins (by rw [HAB.out]; exact HW.out) HBX.out (by simp), below_drewN HB3.out _⟩
          case measure => simp [intOf]; omega
        · rw [List.concat_eq_append] at hAe
          subst hAe
          have hlen : (A' ++ [y]).length = A'.length + 1 := by simp
          have hm1 : A'.length + 1 < cs.length + 1 := by have := HLA.out; simp at this; omega
          have e1 : (A' ++ [y]) ++ (d, a', c') :: B = A' ++ y :: (d, a', c') :: B := by simp
          obtain ⟨x0, x1, x2, xf⟩ := hrow.atk
          rw [e1] at hrow
          obtain ⟨y0, y1, y2, _⟩ := hrow.atk
          simp only [List.length_append, List.length_cons, List.length_nil, Nat.zero_add] at x0 x1 x2 ⊢
          clear hrow hb hlen e1
          generalize hmA : A'.length = m at *
          have HMA := hide hmA
          clear hmA
          have hj0 : (0 : Int) ≤ (m : Int) := by omega
          have hw1 : IntKind.i64.wrap ((m : Int) + 1 - 1) = (m : Int) := by rw [IntKind.wrap_i64]; omega
          have hw2 : IntKind.i64.wrap (m : Int) = (m : Int) := by rw [IntKind.wrap_i64]; omega
          cases hlt3 : Op.bytesLess d.nm.toList y.1.nm.toList with
          | true =>
            have HLT := hide hlt3
            go_wp2_with fail
            go_quiet (fail)
            have HROW5 := hide (HROW3.out.below (below_drewN (Below.refl wr.heap.size wr) nq))
            have HB5 := hide (below_drewN HB3.out nq)
            have x0' : (wr.drewN nq).cell? ⟨g, (m + 1) * 3, none⟩ = some (.string d.nm) := x0
            have x1' : (wr.drewN nq).cell? ⟨g, (m + 1) * 3 + 1, none⟩ = some (.string d.t.name) := x1
            have x2' : (wr.drewN nq).cell? ⟨g, (m + 1) * 3 + 2, none⟩ = some (.slice a' d.t.args.length c') := x2
            have y0' : (wr.drewN nq).cell? ⟨g, m * 3, none⟩ = some (.string y.1.nm) := y0
            have y1' : (wr.drewN nq).cell? ⟨g, m * 3 + 1, none⟩ = some (.string y.1.t.name) := y1
            have y2' : (wr.drewN nq).cell? ⟨g, m * 3 + 2, none⟩ = some (.slice y.2.1 y.1.t.args.length y.2.2) := y2
            have xf' : ∀ j, (wr.drewN nq).frozen? ⟨g, j, none⟩ = false := xf
            have hg5 : g < (wr.drewN nq).heap.size := cell_lt x0'
            clear x0 x1 x2 y0 y1 y2 xf hlt3
            generalize wr.drewN nq = w5 at *
            go_wp2_with fail
            go_roundw
            case rel =>
              have hr := (HROW5.out.swap fun b h => h.2).below ((Below.refl _ _).alloc (Nat.le_refl _) (.cells #[.string d.nm, .string d.t.name, .slice a' d.t.args.length c'] 55))
              rw [HMA.out] at hr
              have hbb := (put3_below (i := m) (y := (d, a', c')) (put3_below (i := m + 1) (y := y) HB5.out hgw) hgw).alloc (by rw [put3_size, put3_size]; exact HB5.out.size) (.cells #[.string d.nm, .string d.t.name, .slice a' d.t.args.length c'] 55)
              simp only [put3] at hr hbb
              refine ⟨A', y :: B, by rw [HMA.out], by have := HAB.out; simpa using this, fun b hb => ?_, hr, hbb⟩
              rcases List.mem_cons.1 hb with rfl | hb
              · exact HLT.out
              · exact HBX.out b hb
            case measure => simp [intOf]
          | false =>
            have HLT := hide hlt3
            go_wp2_with fail
            go_quiet (fail)
            go_wp2_with fail
            go_roundw
            case rel => exact ⟨k + 1, (A' ++ [y]) ++ (d, a', c') :: B, by go_num, by omega, HROW3.out.below (below_drewN (Below.refl _ _) _), ins_perm HAB.out HP1.out, weak_ins (by rw [HAB.out]; exact HW.out) HBX.out (weak_last (by rw [HAB.out]; exact HW.out) HLT.out), below_drewN HB3.out _⟩
            case measure => simp [intOf]; omega
    · go_wp2_with fail
      go_ret
      exact ⟨u3, cs, rfl, HROW.out, by have h := HP.out; rwa [List.take_of_length_le (by omega)] at h, HW.out, HB.out⟩
#print axioms sorted_any
end Go.Proofs.Ytpjdkdebjkpmmab
