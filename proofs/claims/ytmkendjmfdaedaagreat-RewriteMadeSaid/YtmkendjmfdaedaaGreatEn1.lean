import Derived.Test.YtmkendjmfdaedaaGreatW165a
namespace Go.Proofs.YtmkendjmfdaedaaGreat
open Go.RowKit
set_option linter.unusedSimpArgs false
set_option linter.unusedVariables false
def fstT (rs : List Pr) (x : Tm) : Option Tm := rs.findSome? fun r => fitT r x
theorem fstT_none {rs : List Pr} {x : Tm} : fstT rs x = none ↔ fitsB rs x = false := by
 unfold fstT fitsB
 rw [List.findSome?_eq_none_iff, List.any_eq_false]
 constructor
 ·intro h r hr
  have := h r hr
  unfold fitT at this
  unfold mtB
  cases hm : mtT r.l x [] with
  | none => simp
  | some g => rw [hm] at this; cases this
 ·intro h r hr
  have := h r hr
  unfold mtB at this
  unfold fitT
  cases hm : mtT r.l x [] with
  | none => rfl
  | some g => rw [hm] at this; simp at this
def nextT (rs : List Pr) (inner : Bool) (t : Tm) : Option Tm := (nextP rs inner t).bind fun p => (atT t p).bind fun x => (fstT rs x).map fun y => putT y p t
def endP (rs : List Pr) (inner : Bool) : Nat → Tm → Int × Tm × Nat
 | 0, t => match nextT rs inner t with
  | none => (0, t, 0)
  | some _ => (9, ⟨⟨#[]⟩, []⟩, 0)
 | m + 1, t => match nextT rs inner t with
  | none => (0, t, 0)
  | some t' => if 2000 < sizeL [t'] then (8, ⟨⟨#[]⟩, []⟩, 0) else
   match endP rs inner m t' with
   | (e, x, n) => if e = 0 then (0, x, n + 1) else (e, ⟨⟨#[]⟩, []⟩, 0)
theorem endP_none {rs : List Pr} {inner : Bool} {m : Nat} {t : Tm} (h : nextT rs inner t = none) : endP rs inner m t = (0, t, 0) := by
 cases m <;> simp [endP, h]
theorem endP_zero {rs : List Pr} {inner : Bool} {t t' : Tm} (h : nextT rs inner t = some t') : endP rs inner 0 t = (9, ⟨⟨#[]⟩, []⟩, 0) := by simp [endP, h]
theorem endP_full {rs : List Pr} {inner : Bool} {m : Nat} {t t' : Tm} (h : nextT rs inner t = some t') (hz : 2000 < sizeL [t']) : endP rs inner (m + 1) t = (8, ⟨⟨#[]⟩, []⟩, 0) := by
 rw [endP, h]
 simp only
 rw [if_pos hz]
def shiftN (k : Nat) (r : Int × Tm × Nat) : Int × Tm × Nat := if r.1 = 0 then (0, r.2.1, r.2.2 + k) else (r.1, ⟨⟨#[]⟩, []⟩, 0)
theorem endP_step {rs : List Pr} {inner : Bool} {m : Nat} {t t' : Tm} (h : nextT rs inner t = some t') (hz : sizeL [t'] ≤ 2000) : endP rs inner (m + 1) t = shiftN 1 (endP rs inner m t') := by
 rw [endP, h]
 simp only
 rw [if_neg (by omega)]
 rfl
theorem endP_form (rs : List Pr) (inner : Bool) : ∀ (m : Nat) (t : Tm), (endP rs inner m t).1 = 0 ∨ endP rs inner m t = (9, ⟨⟨#[]⟩, []⟩, 0) ∨ endP rs inner m t = (8, ⟨⟨#[]⟩, []⟩, 0)
 | m, t => by
  cases h : nextT rs inner t with
  | none => rw [endP_none h]; exact Or.inl rfl
  | some t' =>
   cases m with
   | zero => rw [endP_zero h]; exact Or.inr (Or.inl rfl)
   | succ m =>
    by_cases hz : 2000 < sizeL [t']
    ·rw [endP_full h hz]; exact Or.inr (Or.inr rfl)
    ·rw [endP_step h (by omega)]
     rcases endP_form rs inner m t' with h1 | h1 | h1
     ·unfold shiftN; rw [if_pos h1]; exact Or.inl rfl
     ·rw [h1]; exact Or.inr (Or.inl rfl)
     ·rw [h1]; exact Or.inr (Or.inr rfl)
theorem shiftN_zero {r : Int × Tm × Nat} (h : r.1 = 0 ∨ r = (9, ⟨⟨#[]⟩, []⟩, 0) ∨ r = (8, ⟨⟨#[]⟩, []⟩, 0)) : shiftN 0 r = r := by
 unfold shiftN
 rcases h with h | h | h
 ·rw [if_pos h]; obtain ⟨e, x, n⟩ := r; simp at h; subst h; rfl
 ·subst h; rfl
 ·subst h; rfl
theorem shiftN_add (a b : Nat) (r : Int × Tm × Nat) : shiftN a (shiftN b r) = shiftN (b + a) r := by
 unfold shiftN
 by_cases h : r.1 = 0
 ·simp [h, Nat.add_assoc]
 ·simp [h]
theorem shiftN_err (k : Nat) (e : Int) (h : e ≠ 0) : shiftN k (e, ⟨⟨#[]⟩, []⟩, 0) = (e, ⟨⟨#[]⟩, []⟩, 0) := by
 unfold shiftN
 rw [if_neg h]
def nxL (rs : List Pr) (inner : Bool) : Nat → List Tm → Option (List Int)
 | _, [] => none
 | j, t :: r => match nextP rs inner t with
  | some p => some ((j : Int) :: p)
  | none => nxL rs inner (j + 1) r
theorem atT_kid {s : ByteArray} {pre l : List Tm} {t : Tm} {p : List Int} : atT ⟨s, pre ++ t :: l⟩ ((pre.length : Int) :: p) = atT t p := by
 rw [atT]
 have h : 0 ≤ (pre.length : Int) ∧ ((pre.length : Int)).toNat < (pre ++ t :: l).length := by simp
 rw [dif_pos h]
 simp
theorem okP_kid {rs : List Pr} {inner : Bool} {s : ByteArray} {pre l : List Tm} {t : Tm} {p : List Int} : okP rs inner ⟨s, pre ++ t :: l⟩ ((pre.length : Int) :: p) = okP rs inner t p := by
 unfold okP
 rw [atT_kid]
theorem find_mapR {f : List Int → Bool} {g : List Int → List Int} : ∀ (l : List (List Int)), (l.map g).find? f = (l.find? (fun p => f (g p))).map g
 | [] => rfl
 | p :: l => by
  rw [List.map_cons, List.find?_cons, List.find?_cons]
  cases f (g p) with
  | true => rfl
  | false => exact find_mapR l
theorem findL_nx {rs : List Pr} {inner : Bool} {s : ByteArray} : ∀ (l pre : List Tm), (plcL pre.length l).find? (okP rs inner ⟨s, pre ++ l⟩) = nxL rs inner pre.length l
 | [], pre => by simp [plcL, nxL]
 | t :: r, pre => by
  rw [plcL_cons, List.find?_append, find_mapR]
  have e1 : (fun p => okP rs inner ⟨s, pre ++ t :: r⟩ ((pre.length : Int) :: p)) = okP rs inner t := funext fun p => okP_kid
  rw [e1]
  have e2 := findL_nx (rs := rs) (inner := inner) (s := s) r (pre ++ [t])
  rw [List.length_append] at e2
  simp only [List.length_singleton, List.append_assoc, List.singleton_append] at e2
  rw [e2]
  unfold nextP at *
  rw [nxL]
  unfold nextP
  cases (plcT t).find? (okP rs inner t) with
  | none => rfl
  | some p => rfl
theorem nextP_eq (rs : List Pr) (inner : Bool) (t : Tm) : nextP rs inner t = if okAt rs inner t = true then some [] else nxL rs inner 0 t.args := by
 obtain ⟨s, l⟩ := t
 have e := findL_nx (rs := rs) (inner := inner) (s := s) l []
 simp only [List.length_nil, List.nil_append] at e
 unfold nextP plcT
 rw [List.find?_cons]
 have e0 : okP rs inner ⟨s, l⟩ [] = okAt rs inner ⟨s, l⟩ := by simp [okP, atT]
 rw [e0, e]
 cases okAt rs inner ⟨s, l⟩ <;> rfl
def noFit (rs : List Pr) (l : List Tm) : Prop := ∀ y ∈ preL l, fitsB rs y = false
theorem preL_consR (t : Tm) (r : List Tm) : preL (t :: r) = t :: (preL t.args ++ preL r) := by
 obtain ⟨s, l⟩ := t
 simp [preL]
theorem noFit_cons {rs : List Pr} {t : Tm} {r : List Tm} : noFit rs (t :: r) ↔ fitsB rs t = false ∧ noFit rs t.args ∧ noFit rs r := by
 unfold noFit
 rw [preL_consR]
 constructor
 ·intro h
  exact ⟨h _ (by simp), fun y hy => h y (by simp [hy]), fun y hy => h y (by simp [hy])⟩
 ·rintro ⟨h1, h2, h3⟩ y hy
  simp only [List.mem_cons, List.mem_append] at hy
  rcases hy with rfl | hy | hy
  ·exact h1
  ·exact h2 y hy
  ·exact h3 y hy
theorem noFit_one {rs : List Pr} {t : Tm} : noFit rs [t] ↔ fitsB rs t = false ∧ noFit rs t.args := by
 rw [noFit_cons]
 constructor
 ·rintro ⟨h1, h2, _⟩; exact ⟨h1, h2⟩
 ·rintro ⟨h1, h2⟩; exact ⟨h1, h2, fun y hy => by simp [preL] at hy⟩
theorem noFit_mem {rs : List Pr} {l : List Tm} : noFit rs l ↔ ∀ t ∈ l, noFit rs [t] := by
 induction l with
 | nil => simp [noFit, preL]
 | cons t r ih =>
  rw [noFit_cons, ih]
  constructor
  ·rintro ⟨h1, h2, h3⟩ x hx
   rcases List.mem_cons.1 hx with rfl | hx
   ·exact noFit_one.2 ⟨h1, h2⟩
   ·exact h3 x hx
  ·intro h
   have h0 := noFit_one.1 (h t (by simp))
   exact ⟨h0.1, h0.2, fun x hx => h x (by simp [hx])⟩
theorem nxL_none {rs : List Pr} {inner : Bool} : ∀ (l : List Tm) (j : Nat), nxL rs inner j l = none ↔ ∀ t ∈ l, nextP rs inner t = none
 | [], j => by simp [nxL]
 | t :: r, j => by
  rw [nxL]
  cases h : nextP rs inner t with
  | some p => simp [h]
  | none => simp [h, nxL_none r (j + 1)]
theorem nextP_none (rs : List Pr) (inner : Bool) (t : Tm) : nextP rs inner t = none ↔ noFit rs [t] := by
 refine Tm.ind (P := fun t => nextP rs inner t = none ↔ noFit rs [t]) (fun s l ih => ?_) t
 have hl : nxL rs inner 0 l = none ↔ noFit rs l := by
  rw [nxL_none, noFit_mem]
  exact ⟨fun h t ht => (ih t ht).1 (h t ht), fun h t ht => (ih t ht).2 (h t ht)⟩
 rw [nextP_eq, noFit_one]
 simp only
 have hok : noFit rs l → okAt rs inner ⟨s, l⟩ = fitsB rs ⟨s, l⟩ := fun hn => by
  unfold okAt
  have e : (((preL [(⟨s, l⟩ : Tm)]).drop 1).all fun y => !fitsB rs y) = true := by
   rw [preL_consR]
   simp only [List.drop_succ_cons, List.drop_zero, List.all_eq_true, List.mem_append]
   rintro y (hy | hy)
   ·rw [hn y hy]; rfl
   ·simp [preL] at hy
  rw [e]
  simp
 constructor
 ·intro h
  by_cases h1 : okAt rs inner ⟨s, l⟩ = true
  ·rw [if_pos h1] at h; cases h
  ·rw [if_neg h1] at h
   have h2 := hl.1 h
   rw [hok h2] at h1
   exact ⟨by simpa using h1, h2⟩
 ·rintro ⟨h1, h2⟩
  rw [if_neg (by rw [hok h2, h1]; simp)]
  exact hl.2 h2
theorem nextP_at {rs : List Pr} {inner : Bool} {t : Tm} {p : List Int} (h : nextP rs inner t = some p) : ∃ x, atT t p = some x ∧ okAt rs inner x = true := by
 have h1 := List.find?_some h
 unfold okP at h1
 cases hx : atT t p with
 | none => rw [hx] at h1; cases h1
 | some x => rw [hx] at h1; exact ⟨x, rfl, h1⟩
theorem okAt_fits {rs : List Pr} {inner : Bool} {x : Tm} (h : okAt rs inner x = true) : fitsB rs x = true := by
 unfold okAt at h
 rw [Bool.and_eq_true] at h
 exact h.1
theorem nextT_some {rs : List Pr} {inner : Bool} {t : Tm} {p : List Int} (h : nextP rs inner t = some p) : ∃ x y, atT t p = some x ∧ fstT rs x = some y ∧ nextT rs inner t = some (putT y p t) := by
 obtain ⟨x, hx, hok⟩ := nextP_at h
 cases hf : fstT rs x with
 | none => rw [fstT_none, okAt_fits hok] at hf; cases hf
 | some y => exact ⟨x, y, hx, hf, by unfold nextT; rw [h]; simp [hx, hf]⟩
theorem nextT_none (rs : List Pr) (inner : Bool) (t : Tm) : nextT rs inner t = none ↔ noFit rs [t] := by
 rw [← nextP_none rs inner]
 constructor
 ·intro h
  cases hp : nextP rs inner t with
  | none => rfl
  | some p => obtain ⟨x, y, _, _, h2⟩ := nextT_some hp; rw [h2] at h; cases h
 ·intro h; unfold nextT; rw [h]; rfl
theorem nxL_first {rs : List Pr} {inner : Bool} {a : Tm} {post : List Tm} {p : List Int} (ha : nextP rs inner a = some p) : ∀ (pre : List Tm) (j : Nat), noFit rs pre → nxL rs inner j (pre ++ a :: post) = some (((j + pre.length : Nat) : Int) :: p)
 | [], j, _ => by simp [nxL, ha]
 | t :: r, j, h => by
  have h1 := noFit_mem.1 h
  rw [List.cons_append, nxL, (nextP_none rs inner t).2 (h1 t (by simp))]
  simp only
  rw [nxL_first ha r (j + 1) (noFit_mem.2 fun x hx => h1 x (by simp [hx]))]
  simp [Nat.add_assoc, Nat.add_comm 1]
theorem putT_kid {s : ByteArray} {pre post : List Tm} {a y : Tm} {p : List Int} : putT y ((pre.length : Int) :: p) ⟨s, pre ++ a :: post⟩ = ⟨s, pre ++ putT y p a :: post⟩ := by
 rw [putT]
 congr 1
 have key : ∀ (pre : List Tm) (j : Nat), putL (putT y p) ((j + pre.length : Nat) : Int) j (pre ++ a :: post) = pre ++ putT y p a :: post := by
  intro pre
  induction pre with
  | nil =>
   intro j
   simp only [List.nil_append, List.length_nil, Nat.add_zero]
   rw [putL]
   rw [if_pos rfl, putL_none _ _ _ _ (by omega)]
  | cons t r ih =>
   intro j
   rw [List.cons_append, putL, if_neg (by simp; omega), List.cons_append]
   congr 1
   have := ih (j + 1)
   rw [show j + 1 + r.length = j + (t :: r).length by simp; omega] at this
   exact this
 have := key pre 0
 rw [Nat.zero_add] at this
 exact this
theorem inner_kid {rs : List Pr} {s : ByteArray} {pre post : List Tm} {a a' : Tm} (hpre : noFit rs pre) (h : nextT rs true a = some a') : nextT rs true ⟨s, pre ++ a :: post⟩ = some ⟨s, pre ++ a' :: post⟩ := by
 cases hp : nextP rs true a with
 | none => unfold nextT at h; rw [hp] at h; cases h
 | some p =>
  obtain ⟨x, y, hx, hf, h2⟩ := nextT_some hp
  rw [h2] at h
  cases h
  have hno : okAt rs true ⟨s, pre ++ a :: post⟩ = false := by
   unfold okAt
   rw [Bool.and_eq_false_iff]
   right
   simp only [Bool.not_true, Bool.false_or]
   rw [Bool.eq_false_iff]
   intro hall
   rw [List.all_eq_true] at hall
   have h3 : noFit rs [a] := fun z hz => by
    have := hall z (by
     rw [preL_consR]
     simp only [List.drop_succ_cons, List.drop_zero, List.mem_append]
     left
     rw [preL_append]
     rw [preL_consR]
     rw [preL_consR] at hz
     simp only [List.mem_append, List.mem_cons] at hz ⊢
     rcases hz with rfl | hz | hz
     ·exact Or.inr (Or.inl rfl)
     ·exact Or.inr (Or.inr (Or.inl hz))
     ·simp [preL] at hz)
    simpa using this
   rw [(nextP_none rs true a).2 h3] at hp
   cases hp
  have hn : nextP rs true ⟨s, pre ++ a :: post⟩ = some ((pre.length : Int) :: p) := by
   rw [nextP_eq, if_neg (by rw [hno]; simp)]
   simp only
   rw [nxL_first hp pre 0 hpre, Nat.zero_add]
  unfold nextT
  rw [hn]
  simp only [Option.bind_some]
  rw [atT_kid, hx]
  simp only [Option.bind_some]
  rw [hf]
  simp only [Option.map_some]
  rw [putT_kid]
theorem inner_top {rs : List Pr} {s : ByteArray} {l : List Tm} (hl : noFit rs l) : nextT rs true ⟨s, l⟩ = fstT rs ⟨s, l⟩ := by
 cases hf : fstT rs ⟨s, l⟩ with
 | none =>
  rw [nextT_none, noFit_one]
  exact ⟨fstT_none.1 hf, hl⟩
 | some y =>
  have hfit : fitsB rs ⟨s, l⟩ = true := by
   cases h : fitsB rs ⟨s, l⟩ with
   | true => rfl
   | false => rw [fstT_none.2 h] at hf; cases hf
  have hok : okAt rs true ⟨s, l⟩ = true := by
   unfold okAt
   rw [hfit]
   simp only [Bool.not_true, Bool.false_or, Bool.true_and]
   rw [List.all_eq_true, preL_consR]
   simp only [List.drop_succ_cons, List.drop_zero, List.mem_append]
   rintro z (hz | hz)
   ·rw [hl z hz]; rfl
   ·simp [preL] at hz
  unfold nextT
  rw [nextP_eq, if_pos hok]
  simp [atT, hf, putT]
def CtxZ (rs : List Pr) (C : Tm → Tm) (k : Nat) : Prop := (∀ a a', nextT rs true a = some a' → nextT rs true (C a) = some (C a')) ∧ ∀ a, sizeL [C a] = sizeL [a] + k
theorem CtxZ.id (rs : List Pr) : CtxZ rs (fun a => a) 0 := ⟨fun _ _ h => h, fun _ => rfl⟩
theorem CtxZ.kid {rs : List Pr} {C : Tm → Tm} {k : Nat} (h : CtxZ rs C k) {s : ByteArray} {pre post : List Tm} (hpre : noFit rs pre) : CtxZ rs (fun a => C ⟨s, pre ++ a :: post⟩) (1 + sizeL pre + sizeL post + k) := by
 refine ⟨fun a a' ha => h.1 _ _ (inner_kid hpre ha), fun a => ?_⟩
 show sizeL [C ⟨s, pre ++ a :: post⟩] = _
 rw [h.2]
 have e : sizeL (pre ++ a :: post) = sizeL pre + (sizeL [a] + sizeL post) := by
  rw [sizeL_append]
  have := sizeL_append [a] post
  rw [← this]; rfl
 have : sizeL [(⟨s, pre ++ a :: post⟩ : Tm)] = 1 + sizeL (pre ++ a :: post) := by simp [sizeL]
 omega
end Go.Proofs.YtmkendjmfdaedaaGreat
