/- Plain: all the steps of a lambda term, as they are handed over; one who takes them all. -/
import Derived.Test.YtagidfoiemgfcaaGreatDoorZCTopChurchOwn
namespace Go.Proofs.YtagidfoiemgfcaaGreatDoor
open Go.RowKit Go.Shelf
set_option linter.unusedSimpArgs false
set_option linter.unusedVariables false
set_option maxRecDepth 8000

/-- What is handed over: a term, whether it is small; the step itself. -/
abbrev Hnd := Lm × Bool × Lm
/-- At an applied binder. -/
def hndC (l : List Lm) : Hnd := if 2000 < sizeM [conT l] then (⟨0, 0, []⟩, false, conT l) else (conT l, true, conT l)
def hndH (t : Lm) : List Hnd := if rdxT t = true then [hndC t.subs] else []
def wrpT (k x : Int) (l : List Lm) (i : Nat) (p : Hnd) : Hnd := (⟨k, x, l.set i p.1⟩, p.2.1, ⟨k, x, l.set i p.2.2⟩)
/-- Of the first q below a knot. -/
def hndR (f : Lm → List Hnd) (k x : Int) (l : List Lm) : Nat → List Hnd
  | 0 => []
  | q + 1 => hndR f k x l q ++ (match l[q]? with | some s => (f s).map (wrpT k x l q) | none => [])
def hndT : Nat → Lm → List Hnd
  | 0, _ => []
  | n + 1, ⟨k, x, l⟩ => hndH ⟨k, x, l⟩ ++ hndR (hndT n) k x l l.length
/-- The steps themselves. -/
def stsT (n : Nat) (t : Lm) : List Lm := (hndT n t).map fun p => p.2.2
theorem hndR_succ (f : Lm → List Hnd) (k x : Int) (l : List Lm) (q : Nat) (h : q < l.length) : hndR f k x l (q + 1) = hndR f k x l q ++ (f l[q]).map (wrpT k x l q) := by
  rw [hndR, List.getElem?_eq_getElem h]
theorem hndR_pre (f : Lm → List Hnd) (k x : Int) (l : List Lm) (q : Nat) : ∀ r, q ≤ r → ∃ rest, hndR f k x l r = hndR f k x l q ++ rest := by
  intro r h
  induction r with
  | zero => obtain rfl : q = 0 := by omega
            exact ⟨[], by simp⟩
  | succ r ih =>
    by_cases e : q = r + 1
    · subst e; exact ⟨[], by simp⟩
    · obtain ⟨rest, h1⟩ := ih (by omega)
      exact ⟨rest ++ _, by rw [hndR, h1, List.append_assoc]⟩
theorem hndR_mem {f : Lm → List Hnd} {k x : Int} {l : List Lm} {p : Hnd} : ∀ {r : Nat}, p ∈ hndR f k x l r → ∃ (q : Nat) (h : q < l.length) (p' : Hnd), p' ∈ f l[q] ∧ p = wrpT k x l q p'
  | 0, h => by simp [hndR] at h
  | r + 1, h => by
    rw [hndR] at h
    rcases List.mem_append.1 h with h | h
    · exact hndR_mem h
    · by_cases hr : r < l.length
      · rw [List.getElem?_eq_getElem hr] at h
        obtain ⟨p', h1, h2⟩ := List.mem_map.1 h
        exact ⟨r, hr, p', h1, h2.symm⟩
      · rw [List.getElem?_eq_none (by omega)] at h
        simp at h
theorem hndR_sub {f : Lm → List Hnd} {k x : Int} {l : List Lm} {q : Nat} (h : q < l.length) {p : Hnd} (hp : p ∈ f l[q]) : wrpT k x l q p ∈ hndR f k x l l.length := by
  obtain ⟨rest, e⟩ := hndR_pre f k x l (q + 1) l.length (by omega)
  rw [e, hndR_succ f k x l q h]
  exact List.mem_append_left _ (List.mem_append_right _ (List.mem_map.2 ⟨p, hp, rfl⟩))
/-- What is handed over is the step itself, where it is small; else the step is too great. -/
theorem hnd_ok (n : Nat) : ∀ (t : Lm) (p : Hnd), p ∈ hndT n t → (p.2.1 = true → p.1 = p.2.2) ∧ (p.2.1 = false → 2000 < sizeM [p.2.2]) := by
  induction n with
  | zero => intro t p h; simp [hndT] at h
  | succ n ih =>
    rintro ⟨k, x, l⟩ p h
    rw [hndT] at h
    rcases List.mem_append.1 h with h | h
    · unfold hndH at h
      split at h
      · obtain rfl : p = hndC l := by simpa using h
        unfold hndC
        split
        · rename_i h2; exact ⟨by simp, fun _ => h2⟩
        · exact ⟨fun _ => rfl, by simp⟩
      · simp at h
    · obtain ⟨q, hq, p', h1, rfl⟩ := hndR_mem h
      obtain ⟨a, b⟩ := ih _ _ h1
      refine ⟨fun e => ?_, fun e => ?_⟩
      · have := a e
        unfold wrpT
        simp only [this]
      · have h2 := b e
        have h3 := sizeM_set l q hq p'.2.2
        show 2000 < sizeM [⟨k, x, l.set q p'.2.2⟩]
        rw [sizeM_one]
        omega
/-- A step leaves a term as good as it was. -/
theorem hnd_err (m : Int) (n : Nat) : ∀ (t : Lm) (u : Int) (p : Hnd), 0 ≤ u → errM u m [t] = 0 → p ∈ hndT n t → errM u m [p.2.2] = 0 := by
  induction n with
  | zero => intro t u p _ _ h; simp [hndT] at h
  | succ n ih =>
    rintro ⟨k, x, l⟩ u p hu he h
    rw [hndT] at h
    rcases List.mem_append.1 h with h | h
    · unfold hndH at h
      split at h
      · rename_i hr
        obtain rfl : p = hndC l := by simpa using h
        obtain ⟨x', i, b, z, e, h1, h2⟩ := subs_two he hr
        cases e
        have e3 : (hndC [⟨2, i, [b]⟩, z]).2.2 = insT z 0 b := by unfold hndC; split <;> rfl
        rw [e3]
        exact err_insT hu h2 h1
      · simp at h
    · obtain ⟨q, hq, p', h1, rfl⟩ := hndR_mem h
      obtain ⟨h3, h4⟩ := err_one0.1 he
      have hd : 0 ≤ deepK u k := by unfold deepK; split <;> omega
      refine err_one0.2 ⟨by rw [List.length_set]; exact h3, err_all0.2 fun y hy => ?_⟩
      rcases List.mem_or_eq_of_mem_set hy with hy | rfl
      · exact err_all0.1 h4 y hy
      · exact ih _ _ _ hd (err_all0.1 h4 _ (List.getElem_mem hq)) h1
theorem hndR_len (f : Lm → List Hnd) (k x : Int) (l : List Lm) (hf : ∀ s ∈ l, (f s).length ≤ sizeM [s]) : ∀ r, r ≤ l.length → (hndR f k x l r).length ≤ sizeM (l.take r)
  | 0, _ => by simp [hndR]
  | r + 1, h => by
    have := hndR_len f k x l hf r (by omega)
    rw [hndR_succ f k x l r (by omega), List.length_append, List.length_map, sizeM_take l r (by omega)]
    have := hf l[r] (List.getElem_mem (by omega))
    omega
theorem hnd_len (n : Nat) : ∀ (t : Lm), (hndT n t).length ≤ sizeM [t] := by
  induction n with
  | zero => intro t; simp [hndT]
  | succ n ih =>
    rintro ⟨k, x, l⟩
    rw [hndT, List.length_append, sizeM_one]
    have h1 : (hndH ⟨k, x, l⟩).length ≤ 1 := by unfold hndH; split <;> simp
    have h2 := hndR_len (hndT n) k x l (fun s _ => ih s) l.length (Nat.le_refl _)
    rw [List.take_length] at h2
    omega

/-- What comes of one that he is handed. -/
def GoPost (J : Tk Hnd) (pre : List Hnd) (p : Hnd) (f : Nat → Prop) (W : World) (e : Ending) (W' : World) : Prop :=
  ∃ s, e = .returned (.bool s) ∧ ∃ f', J (pre ++ [p]) s f' W' ∧ ExQ f W W' ∧ ∀ b, f' b → f b ∨ W.heap.size ≤ b
/-- One who takes them all, or till one is too great. -/
def GoTk (y : Value) (J : Tk Hnd) (all : List Hnd) (N : Nat) : Prop :=
  (∃ T I Y : Nat, y = .func (.func 61) #[] #[.pointer (some ⟨T, 0, none⟩), .pointer (some ⟨I, 0, none⟩), .pointer (some ⟨Y, 0, none⟩)] ∧
    ∀ (pre : List Hnd) (p : Hnd) (v : Value) (Z f : Nat → Prop) (W : World), p ∈ all → pre.length < N → J pre true f W → MV W Z v p.1 → (∀ b, Z b → b < W.heap.size ∧ ¬ f b) → Calls Tryz.prog 61 #[v, .bool p.2.1, .pointer (some ⟨T, 0, none⟩), .pointer (some ⟨I, 0, none⟩), .pointer (some ⟨Y, 0, none⟩)] W (GoPost J pre p f W)) ∨
  (∃ lp : Nat, y = .func (.yield lp) #[] #[] ∧
    ∀ (pre : List Hnd) (p : Hnd) (v : Value) (Z f : Nat → Prop) (W : World), p ∈ all → pre.length < N → J pre true f W → MV W Z v p.1 → (∀ b, Z b → b < W.heap.size ∧ ¬ f b) → ∀ n, YieldAt Fence.wide n Tryz.prog lp #[v, .bool p.2.1] W (GoPost J pre p f W))
theorem GoTk.form {y : Value} {J : Tk Hnd} {all : List Hnd} {N : Nat} (h : GoTk y J all N) : ∃ fn p q, y = .func fn p q := by
  rcases h with ⟨_, _, _, h, _⟩ | ⟨_, h, _⟩
  · exact ⟨_, _, _, h⟩
  · exact ⟨_, _, _, h⟩
theorem TkOk.later {α : Type} {J : Tk α} {K : Nat → Prop} (h : TkOk J K) {pre : List α} {s : Bool} {f : Nat → Prop} {W W' : World} (hj : J pre s f W) (hb : Below W.heap.size W W') : J pre s f W' :=
  h.abide hj hb.size fun b hb' => hb.block b (h.inside hj b hb')
theorem SlM.exq {w w' : World} {Q X : Nat → Prop} {a : Option Addr} {l : List Lm} (h : SlM w X a l) (he : ExQ Q w w') (hX : ∀ b, X b → ¬ Q b) : SlM w' X a l :=
  ((h.mono (Y := fun b => X b ∧ b < w.heap.size) fun b h1 h2 => ⟨h1, h2⟩).kept fun b hb => he.block b hb.2 (hX b hb.1)).mono fun b hb _ => hb.1
/-- What the closure keeps, beside what the one who takes keeps. -/
def JC (J : Tk Hnd) (pre0 : List Hnd) (k xi : Int) (l : List Lm) (a : Option Addr) (c T I Y q : Nat) (y : Value) (X : Nat → Prop) : Tk Hnd := fun pre s f W =>
  J (pre0 ++ pre.map (wrpT k xi l q)) s f W ∧ BeS ⟨k, xi, l⟩ a c T I Y q y X W ∧ ¬ f T ∧ ¬ f I ∧ ¬ f Y
def KC (K : Nat → Prop) (T I Y : Nat) (b : Nat) : Prop := K b ∨ b = T ∨ b = I ∨ b = Y
theorem JC.ok {J : Tk Hnd} {K : Nat → Prop} (hJ : TkOk J K) {pre0 : List Hnd} {k xi : Int} {l : List Lm} {a : Option Addr} {c T I Y q : Nat} {y : Value} {X : Nat → Prop} (hX : ∀ b, X b → K b) : TkOk (JC J pre0 k xi l a c T I Y q y X) (KC K T I Y) where
  inside := by
    rintro pre s f W ⟨h1, h2, _⟩ b hb
    rcases hb with hb | hb | rfl | rfl | rfl
    · exact hJ.inside h1 b (Or.inl hb)
    · exact hJ.inside h1 b (Or.inr hb)
    · exact h2.bt.lt
    · exact h2.bi.lt
    · exact h2.by'.lt
  apart := by
    rintro pre s f W ⟨h1, h2, hT, hI, hY⟩ b hb
    rcases hb with hb | rfl | rfl | rfl
    · exact hJ.apart h1 b hb
    · exact hT
    · exact hI
    · exact hY
  abide := by
    rintro pre s f W W' ⟨h1, h2, hT, hI, hY⟩ hs hk
    refine ⟨hJ.abide h1 hs fun b hb => hk b (hb.imp id Or.inl), ⟨?_, ?_, ?_, ?_⟩, hT, hI, hY⟩
    · exact (hk T (Or.inr (Or.inr (Or.inl rfl)))).trans h2.bt
    · exact (hk I (Or.inr (Or.inr (Or.inr (Or.inl rfl))))).trans h2.bi
    · exact (hk Y (Or.inr (Or.inr (Or.inr (Or.inr rfl))))).trans h2.by'
    · exact h2.sl.kept fun b hb => hk b (Or.inr (Or.inl (hX b hb)))
/-- What the closure has handed on. -/
theorem JC.went {J : Tk Hnd} {all pre0 : List Hnd} {k xi : Int} {l : List Lm} {a : Option Addr} {c T I Y q : Nat} {y : Value} {X f g : Nat → Prop} {W W' : World} {s : Bool} (h : Went (JC J pre0 k xi l a c T I Y q y X) all [] f g W s W') : Went J (all.map (wrpT k xi l q)) pre0 f g W s W' := by
  obtain ⟨m, f', hm, hs, hj, he, hf⟩ := h
  refine ⟨m, f', by simpa using hm, fun h => by simpa using hs h, ?_, he, hf⟩
  have := hj.1
  rw [List.nil_append, List.map_take] at this
  exact this
theorem JC.post {J : Tk Hnd} {K : Nat → Prop} (hJ : TkOk J K) {pre0 pre : List Hnd} {p : Hnd} {k xi : Int} {l : List Lm} {a : Option Addr} {c T I Y q : Nat} {y : Value} {X f : Nat → Prop} (hX : ∀ b, X b → K b) {W W1 W' : World} {e : Ending} (h0 : JC J pre0 k xi l a c T I Y q y X pre true f W) (hb : Below W.heap.size W W1) (h : GoPost J (pre0 ++ pre.map (wrpT k xi l q)) (wrpT k xi l q p) f W1 e W') : GoPost (JC J pre0 k xi l a c T I Y q y X) pre p f W e W' := by
  obtain ⟨s, rfl, f', hj, he, hf⟩ := h
  obtain ⟨h1, h2, hT, hI, hY⟩ := h0
  have hz := hb.size
  have h2' := h2.later hb
  have lT := h2.bt.lt
  have lI := h2.bi.lt
  have lY := h2.by'.lt
  refine ⟨s, rfl, f', ⟨by rw [List.map_append, ← List.append_assoc]; exact hj, ⟨h2'.bt.exq he hT, h2'.bi.exq he hI, h2'.by'.exq he hY, h2'.sl.exq he fun b hb' => hJ.apart h1 b (hX b hb')⟩, fun h => ?_, fun h => ?_, fun h => ?_⟩, (ExQ.ofBelow hb).transN he fun b hb' _ => hb', fun b hb' => (hf b hb').imp id fun h => by omega⟩
  · rcases hf _ h with h | h
    · exact hT h
    · omega
  · rcases hf _ h with h | h
    · exact hI h
    · omega
  · rcases hf _ h with h | h
    · exact hY h
    · omega
end Go.Proofs.YtagidfoiemgfcaaGreatDoor
