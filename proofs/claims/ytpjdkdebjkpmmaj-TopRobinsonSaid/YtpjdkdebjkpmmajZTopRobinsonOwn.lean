/- Several texts in one. -/
import Derived.Test.YtpjdkdebjkpmmajW10
import Derived.Test.YtpjdkdebjkpmmajBnd
import Derived.Test.YtpjdkdebjkpmmajSrt
import Derived.Test.YtpjdkdebjkpmmajW6
import Derived.Test.YtpjdkdebjkpmmajMapT
import Derived.Maps.RangeRun
import Derived.Test.YtpjdkdebjkpmmajW56
import Derived.Test.YtpjdkdebjkpmmajRows
import Derived.Test.YtpjdkdebjkpmmajW9
import Derived.Sort.Grow
import Derived.Test.YtpjdkdebjkpmmajBmE
import Derived.Shelf.GgSortFunc.InsertionK
import Derived.Test.YtpjdkdebjkpmmajSortL
import Derived.Laws.EntriesVeiled
import Derived.Test.YtpjdkdebjkpmmajPu0
import Derived.Test.YtpjdkdebjkpmmajW64
import Derived.Test.YtpjdkdebjkpmmajW17
import Derived.Test.YtpjdkdebjkpmmajW29
import Derived.Test.YtpjdkdebjkpmmajOnM
import Derived.Deep.RegionHeld3
/- Walks: whether two terms are the same. -/
namespace Go.Proofs.Ytpjdkdebjkpmmaj
open Go.RowKit
set_option linter.unusedSimpArgs false
set_option linter.unusedVariables false
set_option maxRecDepth 8000

def eqL : List Tm → List Tm → Bool
  | [], [] => true
  | ⟨s, a⟩ :: r, t :: ts => ((s.toList == t.name.toList) && ((a.length == t.args.length) && eqL a t.args)) && eqL r ts
  | _, _ => false
/-- Two terms are the same. -/
def sameB (a b : Tm) : Bool := (a.name.toList == b.name.toList) && ((a.args.length == b.args.length) && eqL a.args b.args)
theorem eqL_cons (x t : Tm) (r ts : List Tm) : eqL (x :: r) (t :: ts) = (sameB x t && eqL r ts) := by obtain ⟨s, a⟩ := x; simp only [eqL, sameB]
theorem eqL_append : ∀ (a b c d : List Tm), a.length = b.length → eqL (a ++ c) (b ++ d) = (eqL a b && eqL c d)
  | [], [], c, d, _ => by simp [eqL]
  | [], _ :: _, _, _, h => by simp at h
  | _ :: _, [], _, _, h => by simp at h
  | x :: r, t :: ts, c, d, h => by rw [List.cons_append, List.cons_append, eqL_cons, eqL_cons, eqL_append r ts c d (by simpa using h), Bool.and_assoc]
theorem eqL_take {l m : List Tm} {k : Nat} (h : k < l.length) (h2 : k < m.length) : eqL (l.take (k + 1)) (m.take (k + 1)) = (eqL (l.take k) (m.take k) && sameB l[k] m[k]) := by
  rw [List.take_succ_eq_append_getElem h, List.take_succ_eq_append_getElem h2, eqL_append _ _ _ _ (by simp; omega), eqL_cons]
  simp [eqL]
theorem eqL_no {l m : List Tm} {k : Nat} (h : k < l.length) (hlm : l.length = m.length) (h0 : sameB l[k] (m[k]'(by omega)) = false) : eqL l m = false := by
  have e1 : l = l.take (k + 1) ++ l.drop (k + 1) := (List.take_append_drop _ _).symm
  have e2 : m = m.take (k + 1) ++ m.drop (k + 1) := (List.take_append_drop _ _).symm
  rw [e1, e2, eqL_append _ _ _ _ (by simp; omega), eqL_take h (by omega), h0]
  simp

def SaInv (w : World) (l m : List Tm) (a a2 : Option Addr) (c c2 : Nat) (i : Value) (wr : World) : Prop :=
  ∃ (k : Nat), k ≤ l.length ∧ i = .int .i64 k ∧ eqL (l.take k) (m.take k) = true ∧ Below w.heap.size w wr ∧ wr.cell? ⟨w.heap.size, 1, none⟩ = some (.slice a l.length c) ∧ wr.cell? ⟨w.heap.size + 1, 1, none⟩ = some (.slice a2 l.length c2) ∧ w.heap.size + 2 ≤ wr.heap.size

set_option maxHeartbeats 2000000 in
theorem sameR_all (t : Tm) : ∀ (x : Tm) (v u : Value) (w : World) (X Y : Nat → Prop), TV w X v t → TV w Y u x →
    Calls Try.prog 17 #[v, u] w fun e w' => e = .returned (.bool (sameB t x)) ∧ Below w.heap.size w w' := by
  induction t using Tm.ind with
  | h s l ih =>
    intro x v u w X Y hv hu
    obtain ⟨s2, m⟩ := x
    have IH := hide ih
    clear ih
    obtain ⟨a, c, rfl, hs⟩ := hv
    obtain ⟨a2, c2, rfl, hs2⟩ := hu
    have hl := hs.1
    have hl2 := hs2.1
    dsimp only
    cases hn : (s.toList == s2.toList) with
    | false =>
      have HR : Hid (false = sameB ⟨s, l⟩ ⟨s2, m⟩) := by unfold Hid sameB; rw [hn]; rfl
      go_enter Try.func17, Try.ntmps17
      go_wp2_with fail
      go_ret
      exact ⟨ret_bool HR.out, below2 _ _⟩
    | true =>
      by_cases hm : l.length = m.length
      · have HR : Hid (eqL l m = sameB ⟨s, l⟩ ⟨s2, m⟩) := by unfold Hid sameB; simp [hn, hm]
        have HM := hide hm
        rw [← hm]
        clear hm
        go_enter Try.func17, Try.ntmps17
        go_wp2_with fail
        go_loopw [5] (fun i wr => SaInv w l m a a2 c c2 i wr) (fun i wr => l.length - (intOf i).toNat)
        case atStart => exact ⟨0, Nat.zero_le _, rfl, by simp [eqL], below2 _ _, by simp, by simp, by simp⟩
        case round =>
          obtain ⟨k, hk, rfl, hq, hb, hc1, hc2, hsz⟩ := hrel
          have HQ := hide hq
          clear hq
          by_cases hlt : k < l.length
          · obtain ⟨b, o, a', c', rfl, d0, d1, hx⟩ := hs.get hb (fun _ _ h => h) k hlt
            obtain ⟨b2, o2, a2', c2', rfl, e0, e1, hx2⟩ := hs2.get hb (fun _ _ h => h) k (by have := HM.out; omega)
            have hltm : k < m.length := by have := HM.out; omega
            have HX := hide hx
            have HX2 := hide hx2
            have HB := hide hb
            have HS0 := hide (And.intro hc1 (And.intro hc2 (And.intro d0 (And.intro d1 (And.intro e0 e1)))))
            have IHK := hide (fun (w' : World) => IH.out l[k] (List.getElem_mem hlt) m[k] (.agg #[.string l[k].name, .slice a' l[k].args.length c']) (.agg #[.string m[k].name, .slice a2' m[k].args.length c2']) w' X Y)
            have HT := hide (eqL_take hlt hltm)
            have HNO := hide (eqL_no hlt HM.out)
            clear hx hx2 hb
            generalize l[k] = y at *
            generalize m[k] = z at *
            go_wp2_with fail
            cases hsm : sameB y z with
            | true =>
              rw [hsm] at IHK HT
              go_region_held3 (fun w' => w'.cell? ⟨w.heap.size, 1, none⟩ = some (.slice (some ⟨b, o, none⟩) l.length c) ∧ w'.cell? ⟨w.heap.size + 1, 1, none⟩ = some (.slice (some ⟨b2, o2, none⟩) l.length c2) ∧ w'.cell? ⟨b, o + k * 2, none⟩ = some (.string y.name) ∧ w'.cell? ⟨b, o + k * 2 + 1, none⟩ = some (.slice a' y.args.length c') ∧ w'.cell? ⟨b2, o2 + k * 2, none⟩ = some (.string z.name) ∧ w'.cell? ⟨b2, o2 + k * 2 + 1, none⟩ = some (.slice a2' z.args.length c2')) (first | exact HS0.out | exact hS1 | go_keep)
                ((go_at_call 17; refine (IHK.out _ (by exact HX.out.later (below_drewN (Below.refl _ _) 1)) (by exact HX2.out.later (below_drewN (Below.refl _ _) 1))).mono ?_; rintro e w1 ⟨rfl, hb1⟩; have hS1 := same_cells (n := 1) hb1 HS0.out))
              go_wp2_with fail
              go_roundw
              case rel => exact ⟨k + 1, by omega, by go_num, by rw [HT.out, HQ.out]; rfl, (HB.out.trans (below_drewN (Below.refl _ _) 1)).trans (hb1.mono (by simp; omega)), hS1.1, hS1.2.1, by have := hb1.size; simp at this; omega⟩
              case measure => simp [intOf]; omega
            | false =>
              have HF : Hid (false = sameB ⟨s, l⟩ ⟨s2, m⟩) := by unfold Hid; rw [← HR.out, HNO.out hsm]
              rw [hsm] at IHK
              go_region_held3 (fun w' => w'.cell? ⟨w.heap.size, 1, none⟩ = some (.slice (some ⟨b, o, none⟩) l.length c) ∧ w'.cell? ⟨w.heap.size + 1, 1, none⟩ = some (.slice (some ⟨b2, o2, none⟩) l.length c2) ∧ w'.cell? ⟨b, o + k * 2, none⟩ = some (.string y.name) ∧ w'.cell? ⟨b, o + k * 2 + 1, none⟩ = some (.slice a' y.args.length c') ∧ w'.cell? ⟨b2, o2 + k * 2, none⟩ = some (.string z.name) ∧ w'.cell? ⟨b2, o2 + k * 2 + 1, none⟩ = some (.slice a2' z.args.length c2')) (first | exact HS0.out | exact hS1 | go_keep)
                ((go_at_call 17; refine (IHK.out _ (by exact HX.out.later (below_drewN (Below.refl _ _) 1)) (by exact HX2.out.later (below_drewN (Below.refl _ _) 1))).mono ?_; rintro e w1 ⟨rfl, hb1⟩; have hS1 := same_cells (n := 1) hb1 HS0.out))
              go_wp2_with fail
              go_ret
              exact ⟨ret_bool HF.out, (HB.out.trans (below_drewN (Below.refl _ _) 1)).trans (hb1.mono (by simp; omega))⟩
          · have HF : Hid (true = sameB ⟨s, l⟩ ⟨s2, m⟩) := by
              unfold Hid
              rw [← HR.out, ← HQ.out, List.take_of_length_le (by omega), List.take_of_length_le (by have := HM.out; omega)]
            go_wp2_with fail
            go_ret
            exact ⟨ret_bool HF.out, hb⟩
      · have HR : Hid (false = sameB ⟨s, l⟩ ⟨s2, m⟩) := by unfold Hid sameB; simp [hn, hm]
        have hm2 : ((l.length : Int) == (m.length : Int)) = false := beq_eq_false_iff_ne.2 (by omega)
        clear hm
        go_enter Try.func17, Try.ntmps17
        go_wp2_with fail
        go_ret
        exact ⟨ret_bool HR.out, below2 _ _⟩
#print axioms sameR_all
end Go.Proofs.Ytpjdkdebjkpmmaj

/- One term as a case of another one: plain. -/
namespace Go.Proofs.Ytpjdkdebjkpmmaj
open Go.RowKit
set_option linter.unusedSimpArgs false
set_option linter.unusedVariables false

/-- What stands for a pattern's variables, found knot by knot. -/
def mtL : List Tm → List Tm → List Bd → Option (List Bd)
  | [], _, h => some h
  | ⟨s, a⟩ :: r, ts, h => match ts with
    | [] => none
    | t :: ts' =>
      match (if varB s = true then (match forT h s with
          | some x => if sameB x t = true then some h else none
          | none => some (h ++ [⟨s, t⟩]))
        else if ((s.toList == t.name.toList) && (a.length == t.args.length)) = true then mtL a t.args h else none) with
      | some h' => mtL r ts' h'
      | none => none
def mtT (p t : Tm) (h : List Bd) : Option (List Bd) :=
  if varB p.name = true then (match forT h p.name with
      | some x => if sameB x t = true then some h else none
      | none => some (h ++ [⟨p.name, t⟩]))
    else if ((p.name.toList == t.name.toList) && (p.args.length == t.args.length)) = true then mtL p.args t.args h else none
theorem mtL_cons (p t : Tm) (r ts : List Tm) (h : List Bd) : mtL (p :: r) (t :: ts) h = (match mtT p t h with
      | some h' => mtL r ts h'
      | none => none) := by obtain ⟨s, a⟩ := p; simp only [mtL, mtT]
theorem mtL_append : ∀ (a b c d : List Tm) (h : List Bd), a.length = b.length → mtL (a ++ c) (b ++ d) h = (match mtL a b h with
      | some h' => mtL c d h'
      | none => none)
  | [], [], c, d, h, _ => by simp [mtL]
  | [], _ :: _, _, _, _, e => by simp at e
  | _ :: _, [], _, _, _, e => by simp at e
  | x :: r, t :: ts, c, d, h, e => by
    rw [List.cons_append, List.cons_append, mtL_cons, mtL_cons]
    cases mtT x t h with
    | none => rfl
    | some h' => exact mtL_append r ts c d h' (by simpa using e)
theorem mtL_take {l m : List Tm} {k : Nat} (h : k < l.length) (h2 : k < m.length) (hv : List Bd) : mtL (l.take (k + 1)) (m.take (k + 1)) hv = (match mtL (l.take k) (m.take k) hv with
      | some h' => mtT l[k] m[k] h'
      | none => none) := by
  rw [List.take_succ_eq_append_getElem h, List.take_succ_eq_append_getElem h2, mtL_append _ _ _ _ _ (by simp; omega)]
  cases mtL (l.take k) (m.take k) hv with
  | none => rfl
  | some h' =>
    show mtL [l[k]] [m[k]] h' = mtT l[k] m[k] h'
    rw [mtL_cons]
    cases mtT l[k] m[k] h' with
    | none => rfl
    | some h'' => simp [mtL]
theorem mtL_no {l m : List Tm} {k : Nat} {hv h' : List Bd} (h : k < l.length) (hlm : l.length = m.length) (h1 : mtL (l.take k) (m.take k) hv = some h') (h0 : mtT l[k] (m[k]'(by omega)) h' = none) : mtL l m hv = none := by
  have e1 : l = l.take (k + 1) ++ l.drop (k + 1) := (List.take_append_drop _ _).symm
  have e2 : m = m.take (k + 1) ++ m.drop (k + 1) := (List.take_append_drop _ _).symm
  rw [e1, e2, mtL_append _ _ _ _ _ (by simp; omega), mtL_take h (by omega), h1]
  simp only [h0]
theorem mtL_next {l m : List Tm} {k : Nat} {hv h' h'' : List Bd} (h : k < l.length) (h2 : k < m.length) (h1 : mtL (l.take k) (m.take k) hv = some h') (h0 : mtT l[k] m[k] h' = some h'') : mtL (l.take (k + 1)) (m.take (k + 1)) hv = some h'' := by
  rw [mtL_take h h2, h1]
  exact h0
theorem mtT_deep {s s2 : ByteArray} {l m : List Tm} {h : List Bd} (hv : varB s = false) (hn : (s.toList == s2.toList) = true) (hl : l.length = m.length) : mtT ⟨s, l⟩ ⟨s2, m⟩ h = mtL l m h := by
  simp [mtT, hv, hn, hl]
theorem mtT_off {s s2 : ByteArray} {l m : List Tm} {h : List Bd} (hv : varB s = false) (hn : ((s.toList == s2.toList) && (l.length == m.length)) = false) : mtT ⟨s, l⟩ ⟨s2, m⟩ h = none := by
  unfold mtT
  rw [if_neg (by rw [hv]; simp), if_neg (by simp only [hn]; simp)]
theorem mtT_new {s : ByteArray} {l : List Tm} {t : Tm} {h : List Bd} (hv : varB s = true) (hf : forT h s = none) : mtT ⟨s, l⟩ t h = some (h ++ [⟨s, t⟩]) := by simp [mtT, hv, hf]
theorem mtT_old {s : ByteArray} {l : List Tm} {t x : Tm} {h : List Bd} (hv : varB s = true) (hf : forT h s = some x) : mtT ⟨s, l⟩ t h = if sameB x t = true then some h else none := by simp [mtT, hv, hf]

/-- No name twice, and not more than there are knots; the terms are knots of the other one. -/
theorem forT_none {h : List Bd} {s : ByteArray} (hf : forT h s = none) : ∀ d ∈ h, d.nm ≠ s := by
  induction h with
  | nil => intro d hd; cases hd
  | cons a r ih =>
    intro d hd
    rw [forT] at hf
    split at hf
    · cases hf
    · rename_i hne
      rcases List.mem_cons.1 hd with rfl | hd
      · exact hne
      · exact ih hf d hd
theorem mtT_apart_one {p t : Tm} {h h' : List Bd} (ih : ∀ ts g g', mtL p.args ts g = some g' → ApartB g → ApartB g' ∧ g'.length ≤ g.length + sizeL p.args) (he : mtT p t h = some h') (ha : ApartB h) : ApartB h' ∧ h'.length ≤ h.length + (1 + sizeL p.args) := by
  unfold mtT at he
  split at he
  · split at he
    · split at he
      · cases he; exact ⟨ha, by omega⟩
      · cases he
    · rename_i hf
      cases he
      refine ⟨List.pairwise_append.2 ⟨ha, by simp, fun a h1 b h2 => ?_⟩, by simp⟩
      have e : b = ⟨p.name, t⟩ := by simpa using h2
      rw [e]
      exact forT_none hf a h1
  · split at he
    · obtain ⟨h1, h2⟩ := ih _ _ _ he ha
      exact ⟨h1, by omega⟩
    · cases he
theorem mtL_apart : ∀ (l ts : List Tm) (h h' : List Bd), mtL l ts h = some h' → ApartB h → ApartB h' ∧ h'.length ≤ h.length + sizeL l := by
  intro l
  induction l using Tm.indL with
  | h0 => intro ts h h' he ha; simp [mtL] at he; subst he; exact ⟨ha, by simp⟩
  | h s l r ihl ihr =>
    intro ts h h' he ha
    cases ts with
    | nil => simp [mtL] at he
    | cons t ts =>
      rw [mtL_cons] at he
      cases hm : mtT ⟨s, l⟩ t h with
      | none => rw [hm] at he; cases he
      | some g =>
        rw [hm] at he
        obtain ⟨h1, h2⟩ := mtT_apart_one (p := ⟨s, l⟩) (fun ts g g' h3 h4 => ihl ts g g' h3 h4) hm ha
        obtain ⟨h3, h4⟩ := ihr ts g h' he h1
        refine ⟨h3, ?_⟩
        simp only [sizeL]
        simp only at h2
        omega
theorem mtT_apart {p t : Tm} {h h' : List Bd} (he : mtT p t h = some h') (ha : ApartB h) : ApartB h' ∧ h'.length ≤ h.length + sizeL [p] := by
  obtain ⟨h1, h2⟩ := mtT_apart_one (fun ts g g' h3 h4 => mtL_apart p.args ts g g' h3 h4) he ha
  refine ⟨h1, ?_⟩
  obtain ⟨s, a⟩ := p
  simp [sizeL] at h2 ⊢
  omega
#print axioms mtT_apart
end Go.Proofs.Ytpjdkdebjkpmmaj

/- One term has another one's symbols wherever that has some: plain. -/
namespace Go.Proofs.Ytpjdkdebjkpmmaj
open Go.RowKit
set_option linter.unusedSimpArgs false
set_option linter.unusedVariables false

/-- Symbols, and how many there are below, are the pattern's, wherever the pattern has one. -/
def shL : List Tm → List Tm → Bool
  | [], _ => true
  | ⟨s, a⟩ :: r, ts => match ts with
    | [] => false
    | t :: ts' => (varB s || ((s.toList == t.name.toList) && (a.length == t.args.length) && shL a t.args)) && shL r ts'
def shT (p t : Tm) : Bool := varB p.name || ((p.name.toList == t.name.toList) && (p.args.length == t.args.length) && shL p.args t.args)
theorem shL_cons (p t : Tm) (r ts : List Tm) : shL (p :: r) (t :: ts) = (shT p t && shL r ts) := by obtain ⟨s, a⟩ := p; simp only [shL, shT]
theorem shT_deep {s s2 : ByteArray} {l m : List Tm} (hv : varB s = false) : shT ⟨s, l⟩ ⟨s2, m⟩ = ((s.toList == s2.toList) && (l.length == m.length) && shL l m) := by simp [shT, hv]
theorem shT_var {s : ByteArray} {l : List Tm} {t : Tm} (hv : varB s = true) : shT ⟨s, l⟩ t = true := by simp [shT, hv]
theorem shL_iff : ∀ (l m : List Tm), l.length = m.length → (shL l m = true ↔ ∀ k (h : k < l.length) (h2 : k < m.length), shT l[k] m[k] = true)
  | [], m, _ => by simp [shL]
  | _ :: _, [], e => by simp at e
  | p :: r, t :: ts, e => by
    have ih := shL_iff r ts (by simpa using e)
    rw [shL_cons, Bool.and_eq_true, ih]
    refine ⟨fun h k h1 h2 => ?_, fun h => ⟨h 0 (by simp) (by simp), fun k h1 h2 => h (k + 1) (by simpa using h1) (by simpa using h2)⟩⟩
    cases k with
    | zero => exact h.1
    | succ k => exact h.2 k (by simpa using h1) (by simpa using h2)
theorem shL_no {l m : List Tm} {k : Nat} (hlm : l.length = m.length) (h : k < l.length) (h2 : k < m.length) (h0 : shT l[k] m[k] = false) : shL l m = false := by
  cases hs : shL l m with
  | false => rfl
  | true => rw [(shL_iff l m hlm).1 hs k h h2] at h0; cases h0
/-- Where they aren't, nothing makes one the other. -/
theorem mtL_unshaped : ∀ (l m : List Tm) (h : List Bd), l.length = m.length → shL l m = false → mtL l m h = none := by
  intro l
  induction l using Tm.indL with
  | h0 => intro m h _ hs; simp [shL] at hs
  | h s a r iha ihr =>
    intro m h hlm hs
    cases m with
    | nil => simp at hlm
    | cons t ts =>
      rw [shL_cons] at hs
      rw [mtL_cons]
      cases h1 : shT ⟨s, a⟩ t with
      | true =>
        rw [h1, Bool.true_and] at hs
        cases mtT ⟨s, a⟩ t h with
        | none => rfl
        | some h' => exact ihr ts h' (by simpa using hlm) hs
      | false =>
        obtain ⟨s2, m2⟩ := t
        have hv : varB s = false := by
          cases hv : varB s with
          | false => rfl
          | true => rw [shT_var hv] at h1; cases h1
        rw [shT_deep hv] at h1
        have e : mtT ⟨s, a⟩ ⟨s2, m2⟩ h = none := by
          cases hn : ((s.toList == s2.toList) && (a.length == m2.length)) with
          | false => exact mtT_off hv hn
          | true =>
            rw [hn, Bool.true_and] at h1
            rw [Bool.and_eq_true] at hn
            have hl : a.length = m2.length := by simpa using hn.2
            rw [mtT_deep hv hn.1 hl]
            exact iha m2 h hl h1
        rw [e]
theorem mtT_unshaped {p t : Tm} (h : List Bd) (hs : shT p t = false) : mtT p t h = none := by
  have := mtL_unshaped [p] [t] h rfl (by rw [shL_cons, hs]; rfl)
  rw [mtL_cons] at this
  cases hm : mtT p t h with
  | none => rfl
  | some h' => rw [hm] at this; simp [mtL] at this
#print axioms mtT_unshaped
end Go.Proofs.Ytpjdkdebjkpmmaj

/- Walks: whether two terms are the same, as the program asks. -/
namespace Go.Proofs.Ytpjdkdebjkpmmaj
open Go.RowKit
set_option linter.unusedSimpArgs false
set_option linter.unusedVariables false
set_option maxRecDepth 8000

set_option maxHeartbeats 2000000 in
theorem sameK_all (t : Tm) : ∀ (x : Tm) (v u : Value) (w : World) (X Y : Nat → Prop), TV w X v t → TV w Y u x →
    Calls Try.prog 56 #[v, u] w fun e w' => e = .returned (.bool (sameB t x)) ∧ Below w.heap.size w w' := by
  induction t using Tm.ind with
  | h s l ih =>
    intro x v u w X Y hv hu
    obtain ⟨s2, m⟩ := x
    have IH := hide ih
    clear ih
    obtain ⟨a, c, rfl, hs⟩ := hv
    obtain ⟨a2, c2, rfl, hs2⟩ := hu
    have hl := hs.1
    have hl2 := hs2.1
    dsimp only
    cases hn : (s.toList == s2.toList) with
    | false =>
      have HR : Hid (false = sameB ⟨s, l⟩ ⟨s2, m⟩) := by unfold Hid sameB; rw [hn]; rfl
      go_enter Try.func56, Try.ntmps56
      go_wp2_with fail
      go_ret
      exact ⟨ret_bool HR.out, below2 _ _⟩
    | true =>
      by_cases hm : l.length = m.length
      · have HR : Hid (eqL l m = sameB ⟨s, l⟩ ⟨s2, m⟩) := by unfold Hid sameB; simp [hn, hm]
        have HM := hide hm
        rw [← hm]
        clear hm
        go_enter Try.func56, Try.ntmps56
        go_wp2_with fail
        go_loopw [23] (fun i wr => SaInv w l m a a2 c c2 i wr) (fun i wr => l.length - (intOf i).toNat)
        case atStart => exact ⟨0, Nat.zero_le _, rfl, by simp [eqL], below2 _ _, by simp, by simp, by simp⟩
        case round =>
          obtain ⟨k, hk, rfl, hq, hb, hc1, hc2, hsz⟩ := hrel
          have HQ := hide hq
          clear hq
          by_cases hlt : k < l.length
          · obtain ⟨b, o, a', c', rfl, d0, d1, hx⟩ := hs.get hb (fun _ _ h => h) k hlt
            obtain ⟨b2, o2, a2', c2', rfl, e0, e1, hx2⟩ := hs2.get hb (fun _ _ h => h) k (by have := HM.out; omega)
            have hltm : k < m.length := by have := HM.out; omega
            have HX := hide hx
            have HX2 := hide hx2
            have HB := hide hb
            have HS0 := hide (And.intro hc1 (And.intro hc2 (And.intro d0 (And.intro d1 (And.intro e0 e1)))))
            have IHK := hide (fun (w' : World) => IH.out l[k] (List.getElem_mem hlt) m[k] (.agg #[.string l[k].name, .slice a' l[k].args.length c']) (.agg #[.string m[k].name, .slice a2' m[k].args.length c2']) w' X Y)
            have HT := hide (eqL_take hlt hltm)
            have HNO := hide (eqL_no hlt HM.out)
            clear hx hx2 hb
            generalize l[k] = y at *
            generalize m[k] = z at *
            go_wp2_with fail
            cases hsm : sameB y z with
            | true =>
              rw [hsm] at IHK HT
              go_region_held3 (fun w' => w'.cell? ⟨w.heap.size, 1, none⟩ = some (.slice (some ⟨b, o, none⟩) l.length c) ∧ w'.cell? ⟨w.heap.size + 1, 1, none⟩ = some (.slice (some ⟨b2, o2, none⟩) l.length c2) ∧ w'.cell? ⟨b, o + k * 2, none⟩ = some (.string y.name) ∧ w'.cell? ⟨b, o + k * 2 + 1, none⟩ = some (.slice a' y.args.length c') ∧ w'.cell? ⟨b2, o2 + k * 2, none⟩ = some (.string z.name) ∧ w'.cell? ⟨b2, o2 + k * 2 + 1, none⟩ = some (.slice a2' z.args.length c2')) (first | exact HS0.out | exact hS1 | go_keep)
                ((go_at_call 56; refine (IHK.out _ (by exact HX.out.later (below_drewN (Below.refl _ _) 1)) (by exact HX2.out.later (below_drewN (Below.refl _ _) 1))).mono ?_; rintro e w1 ⟨rfl, hb1⟩; have hS1 := same_cells (n := 1) hb1 HS0.out))
              go_wp2_with fail
              go_roundw
              case rel => exact ⟨k + 1, by omega, by go_num, by rw [HT.out, HQ.out]; rfl, (HB.out.trans (below_drewN (Below.refl _ _) 1)).trans (hb1.mono (by simp; omega)), hS1.1, hS1.2.1, by have := hb1.size; simp at this; omega⟩
              case measure => simp [intOf]; omega
            | false =>
              have HF : Hid (false = sameB ⟨s, l⟩ ⟨s2, m⟩) := by unfold Hid; rw [← HR.out, HNO.out hsm]
              rw [hsm] at IHK
              go_region_held3 (fun w' => w'.cell? ⟨w.heap.size, 1, none⟩ = some (.slice (some ⟨b, o, none⟩) l.length c) ∧ w'.cell? ⟨w.heap.size + 1, 1, none⟩ = some (.slice (some ⟨b2, o2, none⟩) l.length c2) ∧ w'.cell? ⟨b, o + k * 2, none⟩ = some (.string y.name) ∧ w'.cell? ⟨b, o + k * 2 + 1, none⟩ = some (.slice a' y.args.length c') ∧ w'.cell? ⟨b2, o2 + k * 2, none⟩ = some (.string z.name) ∧ w'.cell? ⟨b2, o2 + k * 2 + 1, none⟩ = some (.slice a2' z.args.length c2')) (first | exact HS0.out | exact hS1 | go_keep)
                ((go_at_call 56; refine (IHK.out _ (by exact HX.out.later (below_drewN (Below.refl _ _) 1)) (by exact HX2.out.later (below_drewN (Below.refl _ _) 1))).mono ?_; rintro e w1 ⟨rfl, hb1⟩; have hS1 := same_cells (n := 1) hb1 HS0.out))
              go_wp2_with fail
              go_ret
              exact ⟨ret_bool HF.out, (HB.out.trans (below_drewN (Below.refl _ _) 1)).trans (hb1.mono (by simp; omega))⟩
          · have HF : Hid (true = sameB ⟨s, l⟩ ⟨s2, m⟩) := by
              unfold Hid
              rw [← HR.out, ← HQ.out, List.take_of_length_le (by omega), List.take_of_length_le (by have := HM.out; omega)]
            go_wp2_with fail
            go_ret
            exact ⟨ret_bool HF.out, hb⟩
      · have HR : Hid (false = sameB ⟨s, l⟩ ⟨s2, m⟩) := by unfold Hid sameB; simp [hn, hm]
        have hm2 : ((l.length : Int) == (m.length : Int)) = false := beq_eq_false_iff_ne.2 (by omega)
        clear hm
        go_enter Try.func56, Try.ntmps56
        go_wp2_with fail
        go_ret
        exact ⟨ret_bool HR.out, below2 _ _⟩
#print axioms sameK_all
end Go.Proofs.Ytpjdkdebjkpmmaj

/- Maps by texts: a loop over one, and what is struck in it. -/
namespace Go.Proofs.Ytpjdkdebjkpmmaj
open Go.RowKit
open Go.ChangeMaps (setBlock)
set_option linter.unusedSimpArgs false
set_option linter.unusedVariables false

/-- A loop over the map at b, its iterator at r: the map's entries, and those that are still to come. -/
def RangeAt (w : World) (b r : Nat) (L rem : List (ByteArray × Value)) : Prop :=
  ∃ es clk since seen c0, w.heap[b]? = some (.map es clk) ∧ es.toList.map (fun e => (e.key, e.val)) = L.map (fun p => (Value.string p.1, p.2)) ∧ Stamps es clk ∧
    w.heap[r]? = some (.mapIter (some b) since seen c0) ∧ (∀ x ∈ es.toList, x.born < since) ∧ since ≤ c0 ∧ since ≤ clk ∧
    (leftOf es seen).toList.map (fun e => (e.key, e.val)) = rem.map (fun p => (Value.string p.1, p.2))

/-- How many are still to come. -/
def leftAt (w : World) (b r : Nat) : Nat :=
  match w.heap[b]?, w.heap[r]? with
  | some (.map es _), some (.mapIter _ _ seen _) => (leftOf es seen).size
  | _, _ => 0

theorem RangeAt.left {w : World} {b r : Nat} {L rem : List (ByteArray × Value)} (h : RangeAt w b r L rem) : leftAt w b r = rem.length := by
  obtain ⟨es, clk, since, seen, c0, hb, _, _, hr, _, _, _, hl⟩ := h
  have := congrArg List.length hl
  simp only [List.length_map, Array.length_toList] at this
  simp only [leftAt, hb, hr]
  exact this
theorem RangeAt.map {w : World} {b r : Nat} {L rem : List (ByteArray × Value)} (h : RangeAt w b r L rem) : MapAt w b L := by
  obtain ⟨es, clk, since, seen, c0, hb, he, hs, _⟩ := h
  exact ⟨es, clk, hb, he, hs⟩
theorem RangeAt.ne {w : World} {b r : Nat} {L rem : List (ByteArray × Value)} (h : RangeAt w b r L rem) : r ≠ b := by
  obtain ⟨es, clk, since, seen, c0, hb, he, hs, hr, _⟩ := h
  intro e
  rw [e, hb] at hr
  cases hr
theorem RangeAt.lt {w : World} {b r : Nat} {L rem : List (ByteArray × Value)} (h : RangeAt w b r L rem) : r < w.heap.size := by
  obtain ⟨es, clk, since, seen, c0, hb, he, hs, hr, _⟩ := h
  exact (Array.getElem?_eq_some_iff.1 hr).1
theorem RangeAt.kept {w w' : World} {b r : Nat} {L rem : List (ByteArray × Value)} (h : RangeAt w b r L rem) (hb' : w'.heap[b]? = w.heap[b]?) (hr' : w'.heap[r]? = w.heap[r]?) : RangeAt w' b r L rem := by
  obtain ⟨es, clk, since, seen, c0, hb, he, hs, hr, rest⟩ := h
  exact ⟨es, clk, since, seen, c0, hb'.trans hb, he, hs, hr'.trans hr, rest⟩
theorem RangeAt.below {w w' : World} {b r B : Nat} {L rem : List (ByteArray × Value)} (h : RangeAt w b r L rem) (hb : Below B w w') (h1 : b < B) (h2 : r < B) : RangeAt w' b r L rem := h.kept (hb.block b h1) (hb.block r h2)

theorem MapAt.range {P : Program} {w : World} {T kt et : TypeId} {b : Nat} {L : List (ByteArray × Value)} (h : MapAt w b L) (hm : P.underlying T = some (.map kt et)) :
    ∃ o, (Instr.range T (.map (some b))).run P w = .ok (.pointer (some ⟨w.heap.size, 0, none⟩)) (w.alloc o) ∧ RangeAt (w.alloc o) b w.heap.size L L := by
  have hlt := h.lt
  obtain ⟨es, clk, hb, he, hs⟩ := h
  refine ⟨_, run_range_map w T kt et b es clk hm hb, es, clk, clk, #[], clk, (Below.heap_alloc _ _ _ hlt).trans hb, he, hs, heap_alloc_new w _, hs.1, Nat.le_refl _, Nat.le_refl _, ?_⟩
  rw [← he]
  congr 1
  simp [leftOf]

theorem kv_inj {l : List MapEntry} {L : List (ByteArray × Value)} (h : l.map (fun e => (e.key, e.val)) = L.map (fun p => (Value.string p.1, p.2))) {e : MapEntry} (he : e ∈ l) : ∃ p ∈ L, e.key = .string p.1 ∧ e.val = p.2 := by
  have : (e.key, e.val) ∈ L.map (fun p => (Value.string p.1, p.2)) := by rw [← h]; exact List.mem_map.2 ⟨e, he, rfl⟩
  obtain ⟨p, hp, e2⟩ := List.mem_map.1 this
  simp only [Prod.mk.injEq] at e2
  exact ⟨p, hp, e2.1.symm, e2.2.symm⟩

/-- One goes out of those that were left. -/
theorem left_out (seen : Array Nat) (e : MapEntry) : ∀ (l : List MapEntry) (R : List (ByteArray × Value)), (l.map (·.born)).Nodup → e ∈ l → seen.contains e.born = false → (l.filter fun x => !seen.contains x.born).map (fun e => (e.key, e.val)) = R.map (fun p => (Value.string p.1, p.2)) →
    ∃ p R', e.key = .string p.1 ∧ e.val = p.2 ∧ R.Perm (p :: R') ∧ (l.filter fun x => !(seen.push e.born).contains x.born).map (fun e => (e.key, e.val)) = R'.map (fun p => (Value.string p.1, p.2))
  | [], R, _, he, _, _ => by cases he
  | a :: l, R, hn, he, hs, hR => by
    simp only [List.map_cons, List.nodup_cons] at hn
    obtain ⟨hn1, hn2⟩ := hn
    by_cases ha : a.born = e.born
    · have hae : e = a := by
        rcases List.mem_cons.1 he with h | h
        · exact h
        · exact absurd (List.mem_map.2 ⟨e, h, ha.symm⟩) hn1
      subst hae
      have hs' : (!seen.contains e.born) = true := by rw [hs]; rfl
      rw [List.filter_cons_of_pos (by simpa using hs')] at hR
      match R, hR with
      | p :: R', hR =>
        simp only [List.map_cons, List.cons.injEq, Prod.mk.injEq] at hR
        refine ⟨p, R', hR.1.1, hR.1.2, List.Perm.refl _, ?_⟩
        rw [List.filter_cons_of_neg (by simp), ← hR.2]
        congr 1
        refine List.filter_congr fun x hx => ?_
        have hne : x.born ≠ e.born := fun h => hn1 (List.mem_map.2 ⟨x, hx, h⟩)
        simp [hne]
    · have he' : e ∈ l := by
        rcases List.mem_cons.1 he with h | h
        · exact absurd (by rw [h]) ha
        · exact h
      by_cases hsa : seen.contains a.born = true
      · rw [List.filter_cons_of_neg (by simpa using hsa)] at hR
        obtain ⟨p, R', h1, h2, h3, h4⟩ := left_out seen e l R hn2 he' hs hR
        refine ⟨p, R', h1, h2, h3, ?_⟩
        rw [List.filter_cons_of_neg (by simp at hsa ⊢; exact fun h => absurd hsa h), h4]
      · have hsa' : seen.contains a.born = false := by simpa using hsa
        rw [List.filter_cons_of_pos (by simpa using hsa')] at hR
        match R, hR with
        | q :: R0, hR =>
          simp only [List.map_cons, List.cons.injEq] at hR
          obtain ⟨p, R', h1, h2, h3, h4⟩ := left_out seen e l R0 hn2 he' hs hR.2
          refine ⟨p, q :: R', h1, h2, (List.Perm.cons q h3).trans (List.Perm.swap p q R'), ?_⟩
          rw [List.filter_cons_of_pos (by simp at hsa' ⊢; exact ⟨hsa', ha⟩), List.map_cons, List.map_cons, h4, hR.1]

theorem RangeAt.next {P : Program} {w : World} {b r : Nat} {L rem : List (ByteArray × Value)} (h : RangeAt w b r L rem) (ty : TypeId) :
    (rem = [] ∧ (Instr.next (.pointer (some ⟨r, 0, none⟩)) false ty).run P w = .ok (.tuple #[.bool false]) w) ∨
    ∃ p rem' w', rem.Perm (p :: rem') ∧ (Instr.next (.pointer (some ⟨r, 0, none⟩)) false ty).run P w = .ok (.tuple #[.bool true, .string p.1, p.2]) w' ∧ RangeAt w' b r L rem' ∧
      w'.heap.size = w.heap.size ∧ w'.os = w.os ∧ w'.tape = w.tape ∧ w'.output = w.output ∧ (∀ j, j ≠ r → w'.heap[j]? = w.heap[j]?) ∧ (Instr.entry (.pointer (some ⟨r, 0, none⟩))).run P w' = .ok (.tuple #[.string p.1, p.2]) w' := by
  have hne := h.ne
  obtain ⟨es, clk, since, seen, c0, hb, he, hs, hr, hold, hsc, hsk, hl⟩ := h
  rcases run_next_at (P := P) w ty r b since c0 seen es clk hr hb hold hsc with ⟨h0, hrun⟩ | ⟨e, hem, w1, hal, hrun⟩
  · refine Or.inl ⟨?_, hrun⟩
    have := congrArg List.length hl
    simp only [List.length_map, Array.length_toList, h0] at this
    exact List.length_eq_zero_iff.1 this.symm
  · obtain ⟨hm1, hm2⟩ := mem_left hem
    have hl' : (es.toList.filter fun x => !seen.contains x.born).map (fun e => (e.key, e.val)) = rem.map (fun p => (Value.string p.1, p.2)) := by
      rw [← hl]; unfold leftOf; rw [Array.toList_filter]
    obtain ⟨p, rem', hk, hv, hperm, hrem⟩ := left_out seen e es.toList rem hs.2 hm1 hm2 hl'
    have hr1 : w1.heap[r]? = some (.mapIter (some b) since seen c0) := by rcases hal with rfl | rfl <;> exact hr
    have hb1 : w1.heap[b]? = some (.map es clk) := by rcases hal with rfl | rfl <;> exact hb
    have hset := MapKept.heap_set (o' := .mapIter (some b) since (seen.push e.born) clk) hr1
    have hb' : (setBlock w1 r (.mapIter (some b) since (seen.push e.born) clk)).heap[b]? = some (.map es clk) := (hset.2 b (fun e1 => hne e1.symm)).trans hb1
    rw [hk, hv] at hrun
    refine Or.inr ⟨p, rem', _, hperm, hrun, ⟨es, clk, since, seen.push e.born, clk, hb', he, hs, hset.1, hold, hsk, hsk, ?_⟩, ?_, ?_, ?_, ?_, ?_, ?_⟩
    · rw [← hrem]; unfold leftOf; rw [Array.toList_filter]
    · rcases hal with rfl | rfl <;> simp [setBlock]
    · rcases hal with rfl | rfl <;> rfl
    · rcases hal with rfl | rfl <;> rfl
    · rcases hal with rfl | rfl <;> rfl
    · intro j hj
      have := hset.2 j hj
      rcases hal with rfl | rfl <;> exact this
    · have := run_entry_at (P := P) _ r b since seen es clk e hset.1 hb' hm1 hs.2
      rw [hk, hv] at this
      exact this

/-- What is left when a key is struck. -/
def delP : List (ByteArray × Value) → ByteArray → List (ByteArray × Value)
  | [], _ => []
  | p :: r, n => if p.1 = n then r else p :: delP r n
theorem findNow_del (n : ByteArray) (q : MapEntry → Bool) : ∀ (l : List MapEntry) (L : List (ByteArray × Value)) (i : Nat), l.map (fun e => (e.key, e.val)) = L.map (fun p => (Value.string p.1, p.2)) → (∀ e ∈ l, e.key = .string n → q e = false) →
    (mapGet L n = none → delP L n = L) ∧ (∀ v, mapGet L n = some v → ∃ j, Instr.findNow .string (.string n) l i = some (some (i + j, v)) ∧ j < l.length ∧ (l.eraseIdx j).map (fun e => (e.key, e.val)) = (delP L n).map (fun p => (Value.string p.1, p.2)) ∧ (l.eraseIdx j).filter q = l.filter q)
  | [], [], i, h, _ => ⟨fun _ => rfl, fun v hv => by simp [mapGet] at hv⟩
  | [], p :: L, i, h, _ => by simp at h
  | e :: l, [], i, h, _ => by simp at h
  | e :: l, p :: L, i, h, hq => by
    simp only [List.map_cons, List.cons.injEq, Prod.mk.injEq] at h
    obtain ⟨⟨hk, he⟩, ht⟩ := h
    obtain ⟨ih1, ih2⟩ := findNow_del n q l L (i + 1) ht fun e he => hq e (by simp [he])
    by_cases hn : p.1 = n
    · have hs : Instr.sameNow .string (.string n) e.key = some true := by
        rw [hk, hn]
        show some (n == n) = some true
        rw [show (n == n) = true from (MapKept.bytes_beq _ _).2 rfl]
      refine ⟨fun h => by simp [mapGet, hn] at h, fun v hv => ?_⟩
      simp only [mapGet, hn, if_true, Option.some.injEq] at hv
      refine ⟨0, by simp [Instr.findNow, hs, he, hv], by simp, ?_, ?_⟩
      · simp [delP, hn, ht]
      · rw [List.eraseIdx_cons_zero, List.filter_cons_of_neg (by rw [hq e (by simp) (by rw [hk, hn])]; simp)]
    · have hs : Instr.sameNow .string (.string n) e.key = some false := by
        rw [hk]
        show some (n == p.1) = some false
        have hb : (n == p.1) = false := by
          cases hh : (n == p.1) with
          | false => rfl
          | true => exact absurd ((MapKept.bytes_beq _ _).1 hh).symm hn
        rw [hb]
      refine ⟨fun h => ?_, fun v hv => ?_⟩
      · rw [mapGet, if_neg hn] at h
        rw [delP, if_neg hn, ih1 h]
      · rw [mapGet, if_neg hn] at hv
        obtain ⟨j, h1, h2, h3, h4⟩ := ih2 v hv
        refine ⟨j + 1, by simp [Instr.findNow, hs, h1]; omega, by simpa using h2, ?_, ?_⟩
        · rw [delP, if_neg hn]; simp [h3, hk, he]
        · rw [List.eraseIdx_cons_succ]
          cases hqe : q e with
          | true => rw [List.filter_cons_of_pos hqe, List.filter_cons_of_pos hqe, h4]
          | false => rw [List.filter_cons_of_neg (by simp [hqe]), List.filter_cons_of_neg (by simp [hqe]), h4]

theorem RangeAt.drop {P : Program} {w : World} {T kt et ty : TypeId} {b r : Nat} {L rem : List (ByteArray × Value)} (h : RangeAt w b r L rem) (hm : P.underlying T = some (.map kt et)) (hk : P.underlying kt = some .string) (n : ByteArray) (hr0 : ∀ p ∈ rem, p.1 ≠ n) (v : Value) (hv : mapGet L n = some v) :
    ∃ w', (Builtin.delete_ #[T, kt] ty #[.map (some b), .string n]).run P w = .ok (.tuple #[]) w' ∧ RangeAt w' b r (delP L n) rem ∧ w'.heap.size = w.heap.size ∧ w'.os = w.os ∧ w'.tape = w.tape ∧ w'.output = w.output ∧ (∀ j, j ≠ b → w'.heap[j]? = w.heap[j]?) := by
  have hne := h.ne
  obtain ⟨es, clk, since, seen, c0, hb, he, hs, hr, hold, hsc, hsk, hl⟩ := h
  have hl' : (es.toList.filter fun x => !seen.contains x.born).map (fun e => (e.key, e.val)) = rem.map (fun p => (Value.string p.1, p.2)) := by
    rw [← hl]; unfold leftOf; rw [Array.toList_filter]
  have hq : ∀ e ∈ es.toList, e.key = .string n → (!seen.contains e.born) = false := fun e hee hke => by
    cases hc : seen.contains e.born with
    | true => rfl
    | false =>
      obtain ⟨p, hp, h1, _⟩ := kv_inj hl' (List.mem_filter.2 ⟨hee, by rw [hc]; rfl⟩)
      rw [hke] at h1
      exact absurd (Value.string.inj h1).symm (hr0 p hp)
  obtain ⟨j, h1, h2, h3, h4⟩ := (findNow_del n (fun x => !seen.contains x.born) es.toList L 0 he hq).2 v hv
  rw [Nat.zero_add] at h1
  have hc : ∀ b, (Instr.checkKey b 10000 kt (.string n)).run P w = .ok () w := fun b => MapKept.run_checkKey (k := .string n) hk (by simp [MapKept.IsKey]) b 9999
  have hsub : (es.eraseIdxIfInBounds j).toList = es.toList.eraseIdx j := by
    unfold Array.eraseIdxIfInBounds
    rw [dif_pos (by simpa using h2)]
    simp
  have hmem : ∀ x ∈ (es.eraseIdxIfInBounds j).toList, x ∈ es.toList := fun x hx => by rw [hsub] at hx; exact (List.eraseIdx_sublist _ _).subset hx
  refine ⟨setBlock w b (.map (es.eraseIdxIfInBounds j) clk), ?_, ⟨es.eraseIdxIfInBounds j, clk, since, seen, c0, (MapKept.heap_set hb).1, by rw [hsub]; exact h3, ⟨fun x hx => hs.1 x (hmem x hx), ?_⟩, ((MapKept.heap_set hb).2 r hne).trans hr, fun x hx => hold x (hmem x hx), hsc, hsk, ?_⟩, by simp [setBlock], rfl, rfl, rfl, fun i hi => (MapKept.heap_set hb).2 i hi⟩
  · simp [Builtin.delete_, run_underlying hm, MapKept.run_getObj_map hb, hc, MapKept.run_findKey hk h1, MapKept.run_setObj_map _ hb, Result.andThen, setBlock]
  · rw [hsub]
    exact hs.2.sublist ((List.eraseIdx_sublist _ _).map _)
  · unfold leftOf
    rw [Array.toList_filter, hsub, h4]
    exact hl'
#print axioms RangeAt.next
#print axioms RangeAt.drop
end Go.Proofs.Ytpjdkdebjkpmmaj

/- Walks: what stands for a pattern's variables, in a map. -/
namespace Go.Proofs.Ytpjdkdebjkpmmaj
open Go.RowKit
set_option linter.unusedSimpArgs false
set_option linter.unusedVariables false
set_option maxRecDepth 8000

/-- The map at q holds these bindings, whose terms lie in memory that Y lets. -/
def FtM (w : World) (q : Nat) (Y : Nat → Prop) (Z : List Bc) : Prop := MapAt w q (Z.map toP) ∧ ∀ x ∈ Z, Sl w Y x.2.1 x.1.t.args
/-- What a round leaves: what is old stays, but for the map. -/
def FtPost (w : World) (q : Nat) (Y : Nat → Prop) (r : Option (List Bd)) (e : Ending) (w' : World) : Prop :=
  w.grownBy w' (some q) ∧ ((r = none ∧ e = .returned (.bool false)) ∨ ∃ (h' : List Bd) (Z' : List Bc), r = some h' ∧ e = .returned (.bool true) ∧ Z'.map (·.1) = h' ∧ FtM w' q Y Z')
theorem FtM.kept {w w' : World} {q : Nat} {Y : Nat → Prop} {Z : List Bc} (h : FtM w q Y Z) (hY : ∀ b, Y b → b < w.heap.size) (hk : ∀ b, b < w.heap.size → w'.heap[b]? = w.heap[b]?) : FtM w' q Y Z :=
  ⟨h.1.kept (hk q h.1.lt), fun x hx => (h.2 x hx).kept fun b hb => hk b (hY b hb)⟩
theorem FtM.below {w w' : World} {q : Nat} {Y : Nat → Prop} {Z : List Bc} (h : FtM w q Y Z) (hY : ∀ b, Y b → b < w.heap.size) (hb : Below w.heap.size w w') : FtM w' q Y Z := h.kept hY fun b hb' => hb.block b hb'
theorem mapGet_forT {Z : List Bc} {n : ByteArray} : (forT (Z.map (·.1)) n = none → mapGet (Z.map toP) n = none) ∧ (∀ t, forT (Z.map (·.1)) n = some t → ∃ x ∈ Z, x.1.t = t ∧ mapGet (Z.map toP) n = some (.agg #[.string t.name, .slice x.2.1 t.args.length x.2.2])) := by
  induction Z with
  | nil => exact ⟨fun _ => rfl, fun t h => by simp [forT] at h⟩
  | cons y r ih =>
    simp only [List.map_cons]
    by_cases hn : y.1.nm = n
    · refine ⟨fun h => by simp [forT, hn] at h, fun t h => ?_⟩
      rw [forT, if_pos hn] at h
      cases h
      exact ⟨y, by simp, rfl, by simp [mapGet, toP, hn]⟩
    · refine ⟨fun h => ?_, fun t h => ?_⟩
      · rw [forT, if_neg hn] at h
        rw [mapGet, if_neg (by simpa [toP] using hn)]
        exact ih.1 h
      · rw [forT, if_neg hn] at h
        obtain ⟨x, hx, h1, h2⟩ := ih.2 t h
        exact ⟨x, by simp [hx], h1, by rw [mapGet, if_neg (by simpa [toP] using hn)]; exact h2⟩

def FlInv (w2 : World) (q : Nat) (Y : Nat → Prop) (l m : List Tm) (h : List Bd) (i : Value) (wr : World) : Prop :=
  ∃ (k : Nat) (Z' : List Bc), k ≤ l.length ∧ i = .int .i64 (k : Int) ∧ mtL (l.take k) (m.take k) h = some (Z'.map (·.1)) ∧ FtM wr q Y Z' ∧ w2.grownBy wr (some q)

theorem grown2_below {w w' w'' : World} {row : Option Nat} (h : w.grownBy w' row) (hb : Below w'.heap.size w' w'') : w.grownBy w'' row :=
  h.andThen (row' := none) ⟨hb.os, hb.tape, hb.output, hb.size, fun j hj _ => hb.block j hj⟩ (by simp)

set_option maxHeartbeats 1000000 in
theorem fits_any (S F q : Nat) (Y : Nat → Prop) (p : Tm) : ∀ (t : Tm) (Z : List Bc) (pv tv : Value) (w : World), TV w Y pv p → TV w Y tv t → Blk w S #[.map (some q)] 67 → Blk w F #[.func (.func 54) #[] #[.pointer (some ⟨S, 0, none⟩), .pointer (some ⟨F, 0, none⟩)]] 41 → FtM w q Y Z → (∀ b, Y b → b < w.heap.size ∧ b ≠ q) → shT p t = true →
    Calls Try.prog 54 #[pv, tv, .pointer (some ⟨S, 0, none⟩), .pointer (some ⟨F, 0, none⟩)] w fun e w' => FtPost w q Y (mtT p t (Z.map (·.1))) e w' := by
  induction p using Tm.ind with
  | h s l ih =>
    intro t Z pv tv w hp ht hS hF hM hY hsh
    obtain ⟨s2, m⟩ := t
    obtain ⟨a, c, rfl, hs⟩ := hp
    obtain ⟨a2, c2, rfl, hs2⟩ := ht
    have IH := hide ih
    have HS := hide hs
    have HS2 := hide hs2
    have HSB := hide hS
    have HFB := hide hF
    have HM := hide hM
    have HY := hide hY
    have hl := hs.1
    have hl2 := hs2.1
    have hql := hM.1.lt
    have hSq : S ≠ q := fun e => by
      obtain ⟨es, clk, h1, _⟩ := hM.1
      subst e
      unfold Blk at hS
      rw [h1] at hS; cases hS
    have hFq : F ≠ q := fun e => by
      obtain ⟨es, clk, h1, _⟩ := hM.1
      subst e
      unfold Blk at hF
      rw [h1] at hF; cases hF
    have hSl := hS.lt
    have hFl := hF.lt
    clear ih hs hs2 hS hF hM hY
    dsimp only
    have HB2 : Hid (Below w.heap.size w ((w.alloc (.cells #[.string s, .slice a l.length c] 25)).alloc (.cells #[.string s2, .slice a2 m.length c2] 25))) := below2 _ _
    have PA := hide ((Blk.new w #[.string s, .slice a l.length c] 25).alloc (.cells #[.string s2, .slice a2 m.length c2] 25))
    have PB : Hid (Blk ((w.alloc (.cells #[.string s, .slice a l.length c] 25)).alloc (.cells #[.string s2, .slice a2 m.length c2] 25)) (w.heap.size + 1) #[.string s2, .slice a2 m.length c2] 25) := by
      have h := Blk.new (w.alloc (.cells #[.string s, .slice a l.length c] 25)) #[.string s2, .slice a2 m.length c2] 25
      unfold Hid
      simpa using h
    have hz2 : ((w.alloc (.cells #[.string s, .slice a l.length c] 25)).alloc (.cells #[.string s2, .slice a2 m.length c2] 25)).heap.size = w.heap.size + 2 := by simp
    have HG2 : Hid (w.grownBy ((w.alloc (.cells #[.string s, .slice a l.length c] 25)).alloc (.cells #[.string s2, .slice a2 m.length c2] 25)) (some q)) := (World.grownBy_alloc w _ _).andThen (World.grownBy_alloc _ _ none) (by simp)
    have hz : ∀ w', (zeroValue 25).run Try.prog w' = .ok (.agg #[.string ⟨#[]⟩, .slice none 0 0]) w' := fun w' => Try.zeroValue25 w'
    cases hvb : varB s with
    | true =>
      have HVB := hide hvb
      clear hvb
      have HM2 := hide (HM.out.below (fun b hb => (HY.out b hb).1) HB2.out)
      have HS22 := hide (HS2.out.later HB2.out)
      have s0 : ((w.alloc (.cells #[.string s, .slice a l.length c] 25)).alloc (.cells #[.string s2, .slice a2 m.length c2] 25)).cell? ⟨S, 0, none⟩ = some (.map (some q)) := (HSB.out.below HB2.out hSl).cell 0
      have a0 := PA.out.cell 0
      have b0 := PB.out.cell 0
      have b1 := PB.out.cell 1
      cases hf : forT (Z.map (·.1)) s with
      | some x =>
        obtain ⟨y, hy, rfl, hg⟩ := mapGet_forT.2 x hf
        have HR := hide (mtT_old (l := l) (t := ⟨s2, m⟩) HVB.out hf)
        have HSY := hide (HM2.out.2 y hy)
        have hlk : (Instr.lookup 67 (.map (some q)) (.string s) true).run Try.prog ((w.alloc (.cells #[.string s, .slice a l.length c] 25)).alloc (.cells #[.string s2, .slice a2 m.length c2] 25)) = .ok (.tuple #[.agg #[.string y.1.t.name, .slice y.2.1 y.1.t.args.length y.2.2], .bool true]) ((w.alloc (.cells #[.string s, .slice a l.length c] 25)).alloc (.cells #[.string s2, .slice a2 m.length c2] 25)) := by
          rw [run_look (P := Try.prog) Try.underlying67 Try.underlying9 (hz _) HM2.out.1 s, hg]; rfl
        clear hf hg hy
        have b0' : ∀ o, (((w.alloc (.cells #[.string s, .slice a l.length c] 25)).alloc (.cells #[.string s2, .slice a2 m.length c2] 25)).alloc o).cell? ⟨w.heap.size + 1, 0, none⟩ = some (.string s2) := fun o => (PB.out.alloc o).cell 0
        have b1' : ∀ o, (((w.alloc (.cells #[.string s, .slice a l.length c] 25)).alloc (.cells #[.string s2, .slice a2 m.length c2] 25)).alloc o).cell? ⟨w.heap.size + 1, 1, none⟩ = some (.slice a2 m.length c2) := fun o => (PB.out.alloc o).cell 1
        have SK : Hid (Calls Try.prog 56 #[.agg #[.string y.1.t.name, .slice y.2.1 y.1.t.args.length y.2.2], .agg #[.string s2, .slice a2 m.length c2]] (((w.alloc (.cells #[.string s, .slice a l.length c] 25)).alloc (.cells #[.string s2, .slice a2 m.length c2] 25)).alloc (.cells #[.string y.1.t.name, .slice y.2.1 y.1.t.args.length y.2.2] 25)) fun e w' => e = .returned (.bool (sameB y.1.t ⟨s2, m⟩)) ∧ Below ((w.alloc (.cells #[.string s, .slice a l.length c] 25)).alloc (.cells #[.string s2, .slice a2 m.length c2] 25)).heap.size ((w.alloc (.cells #[.string s, .slice a l.length c] 25)).alloc (.cells #[.string s2, .slice a2 m.length c2] 25)) w') := by
          refine (sameK_all y.1.t ⟨s2, m⟩ _ _ _ Y Y ⟨_, _, rfl, HSY.out.later ((Below.refl _ _).alloc (Nat.le_refl _) _)⟩ ⟨_, _, rfl, HS22.out.later ((Below.refl _ _).alloc (Nat.le_refl _) _)⟩).mono ?_
          rintro e w5 ⟨rfl, hb5⟩
          exact ⟨rfl, ((Below.refl _ _).alloc (Nat.le_refl _) _).trans (hb5.mono (by simp))⟩
        go_enter Try.func54, Try.ntmps54
        go_wp2_with (go_at_call 55; refine (isVariable_all _ _).mono ?_; rintro e w' ⟨rfl, rfl⟩; rw [HVB.out])
        refine SK.out.mono ?_
        rintro e w5 ⟨rfl, hb5⟩
        have HG5 := hide (grown2_below HG2.out hb5)
        have HM5 := hide (HM2.out.below (fun b hb => by have := (HY.out b hb).1; omega) hb5)
        clear hb5 b0' b1' hlk
        go_wp2_with fail
        go_ret
        refine ⟨HG5.out, ?_⟩
        rw [HR.out]
        cases hsm : sameB y.1.t ⟨s2, m⟩ with
        | true => exact Or.inr ⟨_, Z, by rw [if_pos rfl], rfl, rfl, HM5.out⟩
        | false => exact Or.inl ⟨by rw [if_neg (by simp)], rfl⟩
      | none =>
        have hg := mapGet_forT.1 hf
        have HR := hide (mtT_new (l := l) (t := ⟨s2, m⟩) HVB.out hf)
        have hlk : (Instr.lookup 67 (.map (some q)) (.string s) true).run Try.prog ((w.alloc (.cells #[.string s, .slice a l.length c] 25)).alloc (.cells #[.string s2, .slice a2 m.length c2] 25)) = .ok (.tuple #[.agg #[.string ⟨#[]⟩, .slice none 0 0], .bool false]) ((w.alloc (.cells #[.string s, .slice a l.length c] 25)).alloc (.cells #[.string s2, .slice a2 m.length c2] 25)) := by
          rw [run_look (P := Try.prog) Try.underlying67 Try.underlying9 (hz _) HM2.out.1 s, hg]; rfl
        have hbA : Below ((w.alloc (.cells #[.string s, .slice a l.length c] 25)).alloc (.cells #[.string s2, .slice a2 m.length c2] 25)).heap.size ((w.alloc (.cells #[.string s, .slice a l.length c] 25)).alloc (.cells #[.string s2, .slice a2 m.length c2] 25)) (((w.alloc (.cells #[.string s, .slice a l.length c] 25)).alloc (.cells #[.string s2, .slice a2 m.length c2] 25)).alloc (.cells #[.string ⟨#[]⟩, .slice none 0 0] 25)) := (Below.refl _ _).alloc (Nat.le_refl _) _
        have HM3 := hide (HM2.out.below (fun b hb => by have := (HY.out b hb).1; omega) hbA)
        have HG3 := hide (grown2_below HG2.out hbA)
        have HB3 := hide (HB2.out.trans (hbA.mono HB2.out.size))
        have s0' : (((w.alloc (.cells #[.string s, .slice a l.length c] 25)).alloc (.cells #[.string s2, .slice a2 m.length c2] 25)).alloc (.cells #[.string ⟨#[]⟩, .slice none 0 0] 25)).cell? ⟨S, 0, none⟩ = some (.map (some q)) := (HSB.out.below HB3.out hSl).cell 0
        have a0' : (((w.alloc (.cells #[.string s, .slice a l.length c] 25)).alloc (.cells #[.string s2, .slice a2 m.length c2] 25)).alloc (.cells #[.string ⟨#[]⟩, .slice none 0 0] 25)).cell? ⟨w.heap.size, 0, none⟩ = some (.string s) := (PA.out.alloc _).cell 0
        have b0' : (((w.alloc (.cells #[.string s, .slice a l.length c] 25)).alloc (.cells #[.string s2, .slice a2 m.length c2] 25)).alloc (.cells #[.string ⟨#[]⟩, .slice none 0 0] 25)).cell? ⟨w.heap.size + 1, 0, none⟩ = some (.string s2) := (PB.out.alloc _).cell 0
        have b1' : (((w.alloc (.cells #[.string s, .slice a l.length c] 25)).alloc (.cells #[.string s2, .slice a2 m.length c2] 25)).alloc (.cells #[.string ⟨#[]⟩, .slice none 0 0] 25)).cell? ⟨w.heap.size + 1, 1, none⟩ = some (.slice a2 m.length c2) := (PB.out.alloc _).cell 1
        obtain ⟨w8, hrun, hM8, hz8, ho8, ht8, hu8, hk8⟩ := run_put (P := Try.prog) Try.underlying67 Try.underlying9 HM3.out.1 s (.agg #[.string s2, .slice a2 m.length c2]) hg
        have HM8 : Hid (FtM w8 q Y (Z ++ [(⟨s, ⟨s2, m⟩⟩, a2, c2)])) := ⟨by rw [List.map_append]; exact hM8, fun x hx => by
          rcases List.mem_append.1 hx with hx | hx
          · exact (HM3.out.2 x hx).kept fun b hb => hk8 b (HY.out b hb).2
          · have e : x = (⟨s, ⟨s2, m⟩⟩, a2, c2) := by simpa using hx
            subst e
            exact (HS2.out.later HB3.out).kept fun b hb => hk8 b (HY.out b hb).2⟩
        have HG8 : Hid (w.grownBy w8 (some q)) := ⟨ho8.trans HG3.out.os, ht8.trans HG3.out.tape, hu8.trans HG3.out.output, by rw [hz8]; exact HG3.out.size, fun j hj hne => (hk8 j (fun e => hne (by rw [e]))).trans (HG3.out.block j hj hne)⟩
        clear hf hg hbA hM8 hz8 ho8 ht8 hu8 hk8
        go_enter Try.func54, Try.ntmps54
        go_wp2_with (go_at_call 55; refine (isVariable_all _ _).mono ?_; rintro e w' ⟨rfl, rfl⟩; rw [HVB.out])
        go_ret
        refine ⟨HG8.out, ?_⟩
        rw [HR.out]
        exact Or.inr ⟨_, _, rfl, rfl, by simp, HM8.out⟩
    | false =>
      have HVB := hide hvb
      clear hvb
      rw [shT_deep HVB.out, Bool.and_eq_true, Bool.and_eq_true] at hsh
      obtain ⟨⟨hn, hm⟩, hsh⟩ := hsh
      have hm : l.length = m.length := by simpa using hm
      have HSH := hide ((shL_iff l m hm).1 hsh)
      clear hsh
      have HR := hide (mtT_deep (h := Z.map (·.1)) HVB.out hn hm)
      have HLM := hide hm
      rw [← hm] at HG2 HB2 PA PB hz2 hl2 ⊢
      clear hm
      go_enter Try.func54, Try.ntmps54
      go_wp2_with (go_at_call 55; refine (isVariable_all _ _).mono ?_; rintro e w' ⟨rfl, rfl⟩; rw [HVB.out])
      generalize (w.alloc (.cells #[.string s, .slice a l.length c] 25)).alloc (.cells #[.string s2, .slice a2 l.length c2] 25) = w2 at *
      go_loopw [36] (fun i wr => FlInv w2 q Y l m (Z.map (·.1)) i wr) (fun i wr => l.length - (intOf i).toNat)
      case atStart => exact ⟨0, Z, Nat.zero_le _, rfl, by simp [mtL], HM.out.below (fun b hb => (HY.out b hb).1) HB2.out, ⟨rfl, rfl, rfl, Nat.le_refl _, fun _ _ _ => rfl⟩⟩
      case round =>
        obtain ⟨k, Z', hk, rfl, hT, hMk, hg⟩ := hrel
        have HT := hide hT
        have HMK := hide hMk
        have HGK := hide hg
        have hwr : w.heap.size + 2 ≤ wr.heap.size := by have := hg.size; omega
        have PAK : Hid (Blk wr w.heap.size #[.string s, .slice a l.length c] 25) := (hg.block w.heap.size (by omega) (by simp; omega)).trans PA.out
        have PBK : Hid (Blk wr (w.heap.size + 1) #[.string s2, .slice a2 l.length c2] 25) := (hg.block (w.heap.size + 1) (by omega) (by simp; omega)).trans PB.out
        have FBK : Hid (Blk wr F #[.func (.func 54) #[] #[.pointer (some ⟨S, 0, none⟩), .pointer (some ⟨F, 0, none⟩)]] 41) := (hg.block F (by omega) (by simpa using hFq)).trans (HFB.out.below HB2.out hFl)
        have SBK : Hid (Blk wr S #[.map (some q)] 67) := (hg.block S (by omega) (by simpa using hSq)).trans (HSB.out.below HB2.out hSl)
        have HSK : Hid (Sl wr Y a l) := (HS.out.later HB2.out).kept fun b hb => by
          have h1 := HY.out b hb
          exact hg.block b (by omega) (by simpa using h1.2)
        have HSK2 : Hid (Sl wr Y a2 m) := (HS2.out.later HB2.out).kept fun b hb => by
          have h1 := HY.out b hb
          exact hg.block b (by omega) (by simpa using h1.2)
        have f0 : wr.cell? ⟨F, 0, none⟩ = some (.func (.func 54) #[] #[.pointer (some ⟨S, 0, none⟩), .pointer (some ⟨F, 0, none⟩)]) := FBK.out.cell 0
        have a1 : wr.cell? ⟨w.heap.size, 1, none⟩ = some (.slice a l.length c) := PAK.out.cell 1
        clear hT hMk hg
        by_cases hlt' : k < l.length
        · have hlt2 : (k : Int) < (l.length : Int) := by omega
          have hltm : k < m.length := by have := HLM.out; omega
          obtain ⟨b, o, a', c', rfl, d0, d1, hx⟩ := HSK.out.get (Below.refl _ _) (fun _ _ h => h) k hlt'
          obtain ⟨b2, o2, a2', c2', rfl, e0, e1, hx2⟩ := HSK2.out.get (Below.refl _ _) (fun _ _ h => h) k hltm
          have HX := hide hx
          have HX2 := hide hx2
          have b1 : wr.cell? ⟨w.heap.size + 1, 1, none⟩ = some (.slice (some ⟨b2, o2, none⟩) l.length c2) := PBK.out.cell 1
          have HS0 := hide (And.intro f0 (And.intro a1 (And.intro b1 (And.intro d0 (And.intro d1 (And.intro e0 e1))))))
          have hbY : b < w.heap.size ∧ b ≠ q := by
            obtain ⟨_, h1⟩ := HSK.out
            rcases h1 with h1 | ⟨b', o', e', h1⟩
            · rw [h1] at hlt'; simp at hlt'
            · cases e'; exact HY.out _ (lies_get _ _ _ h1 k hlt').1
          have hb2Y : b2 < w.heap.size ∧ b2 ≠ q := by
            obtain ⟨_, h1⟩ := HSK2.out
            rcases h1 with h1 | ⟨b', o', e', h1⟩
            · rw [h1] at hltm; simp at hltm
            · cases e'; exact HY.out _ (lies_get _ _ _ h1 k hltm).1
          have IHK := hide (IH.out l[k] (List.getElem_mem hlt') m[k] Z' (.agg #[.string l[k].name, .slice a' l[k].args.length c']) (.agg #[.string m[k].name, .slice a2' m[k].args.length c2']) wr.drew (by exact HX.out.later (below_drewN (Below.refl _ _) 1)) (by exact HX2.out.later (below_drewN (Below.refl _ _) 1)) (by exact SBK.out) (by exact FBK.out) (by exact HMK.out.below (fun b hb => by have := (HY.out b hb).1; omega) (below_drewN (Below.refl _ _) 1)) (fun b hb => by have := HY.out b hb; exact ⟨by simp; omega, this.2⟩) (HSH.out k hlt' hltm))
          have SEV : Hid (∀ w1, wr.drew.grownBy w1 (some q) → w1.cell? ⟨F, 0, none⟩ = some (.func (.func 54) #[] #[.pointer (some ⟨S, 0, none⟩), .pointer (some ⟨F, 0, none⟩)]) ∧ w1.cell? ⟨w.heap.size, 1, none⟩ = some (.slice (some ⟨b, o, none⟩) l.length c) ∧ w1.cell? ⟨w.heap.size + 1, 1, none⟩ = some (.slice (some ⟨b2, o2, none⟩) l.length c2) ∧ w1.cell? ⟨b, o + k * 2, none⟩ = some (.string l[k].name) ∧ w1.cell? ⟨b, o + k * 2 + 1, none⟩ = some (.slice a' l[k].args.length c') ∧ w1.cell? ⟨b2, o2 + k * 2, none⟩ = some (.string m[k].name) ∧ w1.cell? ⟨b2, o2 + k * 2 + 1, none⟩ = some (.slice a2' m[k].args.length c2')) := fun w1 hg1 => by
            have kp : ∀ b o, b < wr.heap.size → b ≠ q → w1.cell? ⟨b, o, none⟩ = wr.cell? ⟨b, o, none⟩ := fun b o hb hne => hg1.cell_far ⟨b, o, none⟩ (by simpa using hb) (by simpa using hne)
            have h := HS0.out
            exact ⟨(kp _ _ (by omega) hFq).trans h.1, (kp _ _ (by omega) (by omega)).trans h.2.1, (kp _ _ (by omega) (by omega)).trans h.2.2.1, (kp _ _ (by omega) hbY.2).trans h.2.2.2.1, (kp _ _ (by omega) hbY.2).trans h.2.2.2.2.1, (kp _ _ (by omega) hb2Y.2).trans h.2.2.2.2.2.1, (kp _ _ (by omega) hb2Y.2).trans h.2.2.2.2.2.2⟩
          have HNO := hide (fun h0 => mtL_no hlt' HLM.out HT.out h0)
          have HNX := hide (fun h'' (h0 : mtT l[k] m[k] (Z'.map (·.1)) = some h'') => mtL_next hlt' hltm HT.out h0)
          have HGO : Hid (∀ w1, wr.drew.grownBy w1 (some q) → w2.grownBy w1 (some q)) := fun w1 hg1 => (grown2_below HGK.out (below_drewN (Below.refl _ _) 1)).andThen hg1 (fun j hj => Or.inr hj)
          clear hx hx2 hbY hb2Y
          generalize l[k] = y at *
          generalize m[k] = z at *
          go_wp2_with fail
          cases hr : mtT y z (Z'.map (·.1)) with
          | none =>
            have IHN : Hid (Calls Try.prog 54 #[.agg #[.string y.name, .slice a' y.args.length c'], .agg #[.string z.name, .slice a2' z.args.length c2'], .pointer (some ⟨S, 0, none⟩), .pointer (some ⟨F, 0, none⟩)] wr.drew fun e w' => e = .returned (.bool false) ∧ wr.drew.grownBy w' (some q)) := by
              refine IHK.out.mono ?_
              rintro e w1 ⟨hg1, ⟨_, rfl⟩ | ⟨h', Z1, h0, _⟩⟩
              · exact ⟨rfl, hg1⟩
              · rw [hr] at h0; cases h0
            have HF : Hid (mtT ⟨s, l⟩ ⟨s2, m⟩ (Z.map (·.1)) = none) := by unfold Hid; rw [HR.out, HNO.out hr]
            go_region_held3 (fun w' => w'.cell? ⟨F, 0, none⟩ = some (.func (.func 54) #[] #[.pointer (some ⟨S, 0, none⟩), .pointer (some ⟨F, 0, none⟩)]) ∧ w'.cell? ⟨w.heap.size, 1, none⟩ = some (.slice (some ⟨b, o, none⟩) l.length c) ∧ w'.cell? ⟨w.heap.size + 1, 1, none⟩ = some (.slice (some ⟨b2, o2, none⟩) l.length c2) ∧ w'.cell? ⟨b, o + k * 2, none⟩ = some (.string y.name) ∧ w'.cell? ⟨b, o + k * 2 + 1, none⟩ = some (.slice a' y.args.length c') ∧ w'.cell? ⟨b2, o2 + k * 2, none⟩ = some (.string z.name) ∧ w'.cell? ⟨b2, o2 + k * 2 + 1, none⟩ = some (.slice a2' z.args.length c2')) (first | exact HS0.out | exact hS1 | go_keep)
              ((go_at_call 54; refine IHN.out.mono ?_; rintro e w1 ⟨rfl, hg1⟩; have hS1 := SEV.out w1 hg1))
            have HG1 := hide (HGO.out w1 hg1)
            clear hg1 hS1
            go_wp2_with fail
            go_ret
            exact ⟨HG2.out.andThen HG1.out (fun j hj => Or.inr hj), Or.inl ⟨HF.out, rfl⟩⟩
          | some h' =>
            have IHS : Hid (Calls Try.prog 54 #[.agg #[.string y.name, .slice a' y.args.length c'], .agg #[.string z.name, .slice a2' z.args.length c2'], .pointer (some ⟨S, 0, none⟩), .pointer (some ⟨F, 0, none⟩)] wr.drew fun e w' => e = .returned (.bool true) ∧ wr.drew.grownBy w' (some q) ∧ ∃ Z1 : List Bc, Z1.map (·.1) = h' ∧ FtM w' q Y Z1) := by
              refine IHK.out.mono ?_
              rintro e w1 ⟨hg1, ⟨h0, _⟩ | ⟨h'', Z1, h0, rfl, h2, h3⟩⟩
              · rw [hr] at h0; cases h0
              · rw [hr] at h0
                cases h0
                exact ⟨rfl, hg1, Z1, h2, h3⟩
            have HN := hide (HNX.out h' hr)
            go_region_held3 (fun w' => w'.cell? ⟨F, 0, none⟩ = some (.func (.func 54) #[] #[.pointer (some ⟨S, 0, none⟩), .pointer (some ⟨F, 0, none⟩)]) ∧ w'.cell? ⟨w.heap.size, 1, none⟩ = some (.slice (some ⟨b, o, none⟩) l.length c) ∧ w'.cell? ⟨w.heap.size + 1, 1, none⟩ = some (.slice (some ⟨b2, o2, none⟩) l.length c2) ∧ w'.cell? ⟨b, o + k * 2, none⟩ = some (.string y.name) ∧ w'.cell? ⟨b, o + k * 2 + 1, none⟩ = some (.slice a' y.args.length c') ∧ w'.cell? ⟨b2, o2 + k * 2, none⟩ = some (.string z.name) ∧ w'.cell? ⟨b2, o2 + k * 2 + 1, none⟩ = some (.slice a2' z.args.length c2')) (first | exact HS0.out | exact hS1 | go_keep)
              ((go_at_call 54; refine IHS.out.mono ?_; rintro e w1 ⟨rfl, hg1, Z1, hc1, hm1⟩; have hS1 := SEV.out w1 hg1))
            have HG1 := hide (HGO.out w1 hg1)
            have HC1 := hide hc1
            have HM1 := hide hm1
            clear hg1 hS1 hc1 hm1
            go_wp2_with fail
            go_roundw
            case rel => exact ⟨k + 1, Z1, by omega, by go_num, by rw [HC1.out]; exact HN.out, HM1.out, HG1.out⟩
            case measure => simp [intOf]; omega
        · have HF : Hid (mtT ⟨s, l⟩ ⟨s2, m⟩ (Z.map (·.1)) = some (Z'.map (·.1))) := by
            unfold Hid
            rw [HR.out, ← HT.out, List.take_of_length_le (by omega), List.take_of_length_le (by have := HLM.out; omega)]
          have HGF := hide (HG2.out.andThen HGK.out (fun j hj => Or.inr hj))
          go_wp2_with fail
          go_ret
          exact ⟨HGF.out, Or.inr ⟨_, Z', HF.out, rfl, rfl, HMK.out⟩⟩
#print axioms fits_any
end Go.Proofs.Ytpjdkdebjkpmmaj

/- Walks: has a term another one's symbols, wherever that has some? -/
namespace Go.Proofs.Ytpjdkdebjkpmmaj
open Go.RowKit
set_option linter.unusedSimpArgs false
set_option linter.unusedVariables false
set_option maxRecDepth 8000

/-- A term lies where a pointer points. -/
def PtT (w : World) (X : Nat → Prop) (b o : Nat) (t : Tm) : Prop := ∃ a c, w.cell? ⟨b, o, none⟩ = some (.string t.name) ∧ w.cell? ⟨b, o + 1, none⟩ = some (.slice a t.args.length c) ∧ Sl w X a t.args ∧ b < w.heap.size
theorem PtT.later {w w' : World} {X : Nat → Prop} {b o : Nat} {t : Tm} (h : PtT w X b o t) (hb : Below w.heap.size w w') : PtT w' X b o t := by
  obtain ⟨a, c, h1, h2, h3, h4⟩ := h
  exact ⟨a, c, (hb.cell (p := ⟨b, o, none⟩) h4).trans h1, (hb.cell (p := ⟨b, o + 1, none⟩) h4).trans h2, h3.later hb, Nat.lt_of_lt_of_le h4 hb.size⟩
theorem PtT.lt {w : World} {X : Nat → Prop} {b o : Nat} {t : Tm} (h : PtT w X b o t) : b < w.heap.size := by
  obtain ⟨a, c, h1, h2, h3, h4⟩ := h
  exact h4
theorem PtT.sub {w : World} {X : Nat → Prop} {b o : Nat} {t : Tm} (h : PtT w X b o t) : ∃ a c, w.cell? ⟨b, o + 1, none⟩ = some (.slice a t.args.length c) ∧ ∀ k (hk : k < t.args.length), ∃ b' o', a = some ⟨b', o', none⟩ ∧ PtT w X b' (o' + k * 2) t.args[k] := by
  obtain ⟨a, c, h1, h2, h3, h4⟩ := h
  refine ⟨a, c, h2, fun k hk => ?_⟩
  obtain ⟨b', o', a', c', rfl, d0, d1, hx⟩ := h3.get (Below.refl _ _) (fun _ _ h => h) k hk
  obtain ⟨a2, c2, e2, hx⟩ := hx
  cases e2
  exact ⟨b', o', rfl, a', c', d0, d1, hx, cell_lt d0⟩

def ShInv (w : World) (l m : List Tm) (i : Value) (wr : World) : Prop :=
  ∃ k : Nat, k ≤ l.length ∧ i = .int .i64 (k : Int) ∧ (∀ j (h : j < l.length) (h2 : j < m.length), j < k → shT l[j] m[j] = true) ∧ Below w.heap.size w wr

set_option maxHeartbeats 1000000 in
theorem isShaped_any (X : Nat → Prop) (p : Tm) : ∀ (t : Tm) (b o b2 o2 : Nat) (w : World), PtT w X b o p → PtT w X b2 o2 t →
    Calls Try.prog 53 #[.pointer (some ⟨b, o, none⟩), .pointer (some ⟨b2, o2, none⟩)] w fun e w' => e = .returned (.bool (shT p t)) ∧ Below w.heap.size w w' := by
  induction p using Tm.ind with
  | h s l ih =>
    intro t b o b2 o2 w hp ht
    obtain ⟨s2, m⟩ := t
    have IH := hide ih
    have HP := hide hp
    have HT := hide ht
    obtain ⟨a, c, p0, p1, hs, hbl⟩ := hp
    obtain ⟨a2, c2, t0, t1, hs2, hbl2⟩ := ht
    dsimp only at p0 p1 hs t0 t1 hs2 ⊢
    have hl := hs.1
    have hl2 := hs2.1
    clear ih hs hs2
    cases hvb : varB s with
    | true =>
      have HR := hide (shT_var (l := l) (t := ⟨s2, m⟩) hvb)
      go_enter Try.func53, Try.ntmps53
      go_wp2_with (go_at_call 55; refine (isVariable_all _ _).mono ?_; rintro e w ⟨rfl, rfl⟩; rw [hvb])
      refine bodyPost_ret (v := .bool true) (by simp [results, Try.results53, go_sem]) rfl ?_
      exact ⟨by rw [HR.out], Below.refl _ _⟩
    | false =>
      have HVB := hide hvb
      cases hn : (s.toList == s2.toList) with
      | false =>
        have HR : Hid (shT ⟨s, l⟩ ⟨s2, m⟩ = false) := by unfold Hid; rw [shT_deep hvb, hn]; rfl
        go_enter Try.func53, Try.ntmps53
        have HS0 := hide (And.intro p0 (And.intro p1 (And.intro t0 t1)))
        go_wp2_with (go_at_call 55; refine (isVariable_all _ _).mono ?_; rintro e w ⟨rfl, rfl⟩; rw [hvb])
        refine wp_region_held_drew (S := fun w' => w'.cell? ⟨b, o, none⟩ = some (.string s) ∧ w'.cell? ⟨b, o + 1, none⟩ = some (.slice a l.length c) ∧ w'.cell? ⟨b2, o2, none⟩ = some (.string s2) ∧ w'.cell? ⟨b2, o2 + 1, none⟩ = some (.slice a2 m.length c2)) (by kernel_rfl) HS0.out (fun hHeld => ?_)
        refine wpAnyH_take (i := 0) (v := ?_) rfl (by kernel_rfl) (by kernel_rfl) (by kernel_rfl) (fun _ _ _ h => h) (Or.inl ⟨by rfl, ?_⟩) (by assumption) ?_
        rotate_left
        · intro w' hSw
          obtain ⟨k1, k2, k3, k4⟩ := hSw
          go_simp <;> with_reducible rfl
        try simp only [Act.put, List.setIfInBounds_toArray, List.set_cons_zero, List.set_cons_succ, List.getElem_toArray, List.getElem_cons_succ, List.getElem_cons_zero]
        refine wpAnyH_take (i := 1) (v := ?_) rfl (by kernel_rfl) (by kernel_rfl) (by kernel_rfl) (fun _ _ _ h => h) (Or.inl ⟨by rfl, ?_⟩) (by assumption) ?_
        rotate_left
        · intro w' hSw
          obtain ⟨k1, k2, k3, k4⟩ := hSw
          go_simp <;> with_reducible rfl
        try simp only [Act.put, List.setIfInBounds_toArray, List.set_cons_zero, List.set_cons_succ, List.getElem_toArray, List.getElem_cons_succ, List.getElem_cons_zero]
        refine wpAnyH_take (i := 2) (v := ?_) rfl (by kernel_rfl) (by kernel_rfl) (by kernel_rfl) (fun _ _ _ h => h) (Or.inl ⟨by rfl, ?_⟩) (by assumption) ?_
        rotate_left
        · intro w' hSw
          obtain ⟨k1, k2, k3, k4⟩ := hSw
          go_simp <;> with_reducible rfl
        try simp only [Act.put, List.setIfInBounds_toArray, List.set_cons_zero, List.set_cons_succ, List.getElem_toArray, List.getElem_cons_succ, List.getElem_cons_zero]
        refine wpAnyH_take (i := 3) (v := ?_) rfl (by kernel_rfl) (by kernel_rfl) (by kernel_rfl) (fun _ _ _ h => h) (Or.inl ⟨by rfl, ?_⟩) (by assumption) ?_
        rotate_left
        · intro w' hSw
          obtain ⟨k1, k2, k3, k4⟩ := hSw
          go_simp <;> with_reducible rfl
        try simp only [Act.put, List.setIfInBounds_toArray, List.set_cons_zero, List.set_cons_succ, List.getElem_toArray, List.getElem_cons_succ, List.getElem_cons_zero]
        refine wpAnyH_take (i := 4) (v := ?_) rfl (by kernel_rfl) (by kernel_rfl) (by kernel_rfl) (fun _ _ _ h => h) (Or.inl ⟨by rfl, ?_⟩) (by assumption) ?_
        rotate_left
        · intro w' hSw
          obtain ⟨k1, k2, k3, k4⟩ := hSw
          go_simp <;> with_reducible rfl
        try simp only [Act.put, List.setIfInBounds_toArray, List.set_cons_zero, List.set_cons_succ, List.getElem_toArray, List.getElem_cons_succ, List.getElem_cons_zero]
        refine wpAnyH_take (i := 5) (v := ?_) rfl (by kernel_rfl) (by kernel_rfl) (by kernel_rfl) (fun _ _ _ h => h) (Or.inl ⟨by rfl, ?_⟩) (by assumption) ?_
        rotate_left
        · intro w' hSw
          obtain ⟨k1, k2, k3, k4⟩ := hSw
          go_simp <;> with_reducible rfl
        try simp only [Act.put, List.setIfInBounds_toArray, List.set_cons_zero, List.set_cons_succ, List.getElem_toArray, List.getElem_cons_succ, List.getElem_cons_zero]
        refine wpAnyH_take (i := 6) (v := ?_) rfl (by kernel_rfl) (by kernel_rfl) (by kernel_rfl) (fun _ _ _ h => h) (Or.inl ⟨by rfl, ?_⟩) (by assumption) ?_
        rotate_left
        · intro w' hSw
          obtain ⟨k1, k2, k3, k4⟩ := hSw
          go_simp <;> with_reducible rfl
        try simp only [Act.put, List.setIfInBounds_toArray, List.set_cons_zero, List.set_cons_succ, List.getElem_toArray, List.getElem_cons_succ, List.getElem_cons_zero]
        refine wpAnyH_take (i := 7) (v := ?_) rfl (by kernel_rfl) (by kernel_rfl) (by kernel_rfl) (fun _ _ _ h => h) (Or.inl ⟨by rfl, ?_⟩) (by assumption) ?_
        rotate_left
        · intro w' hSw
          obtain ⟨k1, k2, k3, k4⟩ := hSw
          go_simp <;> with_reducible rfl
        try simp only [Act.put, List.setIfInBounds_toArray, List.set_cons_zero, List.set_cons_succ, List.getElem_toArray, List.getElem_cons_succ, List.getElem_cons_zero]
        refine wpAnyH_take (i := 8) (v := ?_) rfl (by kernel_rfl) (by kernel_rfl) (by kernel_rfl) (fun _ _ _ h => h) (Or.inl ⟨by rfl, ?_⟩) (by assumption) ?_
        rotate_left
        · intro w' hSw
          obtain ⟨k1, k2, k3, k4⟩ := hSw
          go_simp <;> with_reducible rfl
        try simp only [Act.put, List.setIfInBounds_toArray, List.set_cons_zero, List.set_cons_succ, List.getElem_toArray, List.getElem_cons_succ, List.getElem_cons_zero]
        refine wpAnyH_take (i := 9) (v := ?_) rfl (by kernel_rfl) (by kernel_rfl) (by kernel_rfl) (fun _ _ _ h => h) (Or.inl ⟨by rfl, ?_⟩) (by assumption) ?_
        rotate_left
        · intro w' hSw
          obtain ⟨k1, k2, k3, k4⟩ := hSw
          go_simp <;> with_reducible rfl
        try simp only [Act.put, List.setIfInBounds_toArray, List.set_cons_zero, List.set_cons_succ, List.getElem_toArray, List.getElem_cons_succ, List.getElem_cons_zero]
        refine wpAnyH_take (i := 10) (v := undef) rfl (by kernel_rfl) (by kernel_rfl) (by kernel_rfl) (fun _ _ _ h => h) (Or.inr ⟨by rfl, rfl⟩) (by assumption) ?_
        try simp only [Act.put, List.setIfInBounds_toArray, List.set_cons_zero, List.set_cons_succ, List.getElem_toArray, List.getElem_cons_succ, List.getElem_cons_zero]
        refine wpAnyH_take (i := 11) (v := undef) rfl (by kernel_rfl) (by kernel_rfl) (by kernel_rfl) (fun _ _ _ h => h) (Or.inr ⟨by rfl, rfl⟩) (by assumption) ?_
        try simp only [Act.put, List.setIfInBounds_toArray, List.set_cons_zero, List.set_cons_succ, List.getElem_toArray, List.getElem_cons_succ, List.getElem_cons_zero]
        refine wpAnyH_take (i := 12) (v := undef) rfl (by kernel_rfl) (by kernel_rfl) (by kernel_rfl) (fun _ _ _ h => h) (Or.inr ⟨by rfl, rfl⟩) (by assumption) ?_
        try simp only [Act.put, List.setIfInBounds_toArray, List.set_cons_zero, List.set_cons_succ, List.getElem_toArray, List.getElem_cons_succ, List.getElem_cons_zero]
        refine wpAnyH_take (i := 13) (v := undef) rfl (by kernel_rfl) (by kernel_rfl) (by kernel_rfl) (fun _ _ _ h => h) (Or.inr ⟨by rfl, rfl⟩) (by assumption) ?_
        try simp only [Act.put, List.setIfInBounds_toArray, List.set_cons_zero, List.set_cons_succ, List.getElem_toArray, List.getElem_cons_succ, List.getElem_cons_zero]
        refine wpAnyH_take (i := 14) (v := undef) rfl (by kernel_rfl) (by kernel_rfl) (by kernel_rfl) (fun _ _ _ h => h) (Or.inr ⟨by rfl, rfl⟩) (by assumption) ?_
        try simp only [Act.put, List.setIfInBounds_toArray, List.set_cons_zero, List.set_cons_succ, List.getElem_toArray, List.getElem_cons_succ, List.getElem_cons_zero]
        refine wpAnyH_take (i := 15) (v := undef) rfl (by kernel_rfl) (by kernel_rfl) (by kernel_rfl) (fun _ _ _ h => h) (Or.inr ⟨by rfl, rfl⟩) (by assumption) ?_
        try simp only [Act.put, List.setIfInBounds_toArray, List.set_cons_zero, List.set_cons_succ, List.getElem_toArray, List.getElem_cons_succ, List.getElem_cons_zero]
        refine wpAnyH_take (i := 16) (v := undef) rfl (by kernel_rfl) (by kernel_rfl) (by kernel_rfl) (fun _ _ _ h => h) (Or.inr ⟨by rfl, rfl⟩) (by assumption) ?_
        try simp only [Act.put, List.setIfInBounds_toArray, List.set_cons_zero, List.set_cons_succ, List.getElem_toArray, List.getElem_cons_succ, List.getElem_cons_zero]
        refine wpAnyH_take (i := 17) (v := undef) rfl (by kernel_rfl) (by kernel_rfl) (by kernel_rfl) (fun _ _ _ h => h) (Or.inr ⟨by rfl, rfl⟩) (by assumption) ?_
        try simp only [Act.put, List.setIfInBounds_toArray, List.set_cons_zero, List.set_cons_succ, List.getElem_toArray, List.getElem_cons_succ, List.getElem_cons_zero]
        refine wpAnyH_take (i := 18) (v := undef) rfl (by kernel_rfl) (by kernel_rfl) (by kernel_rfl) (fun _ _ _ h => h) (Or.inr ⟨by rfl, rfl⟩) (by assumption) ?_
        try simp only [Act.put, List.setIfInBounds_toArray, List.set_cons_zero, List.set_cons_succ, List.getElem_toArray, List.getElem_cons_succ, List.getElem_cons_zero]
        refine wpAnyH_take (i := 19) (v := undef) rfl (by kernel_rfl) (by kernel_rfl) (by kernel_rfl) (fun _ _ _ h => h) (Or.inr ⟨by rfl, rfl⟩) (by assumption) ?_
        try simp only [Act.put, List.setIfInBounds_toArray, List.set_cons_zero, List.set_cons_succ, List.getElem_toArray, List.getElem_cons_succ, List.getElem_cons_zero]
        refine wpAnyH_take (i := 20) (v := undef) rfl (by kernel_rfl) (by kernel_rfl) (by kernel_rfl) (fun _ _ _ h => h) (Or.inr ⟨by rfl, rfl⟩) (by assumption) ?_
        try simp only [Act.put, List.setIfInBounds_toArray, List.set_cons_zero, List.set_cons_succ, List.getElem_toArray, List.getElem_cons_succ, List.getElem_cons_zero]
        refine wpAnyH_take (i := 21) (v := ?_) rfl (by kernel_rfl) (by kernel_rfl) (by kernel_rfl) (fun _ _ _ h => h) (Or.inl ⟨by rfl, ?_⟩) (by assumption) ?_
        rotate_left
        · intro w' hSw
          obtain ⟨k1, k2, k3, k4⟩ := hSw
          go_simp <;> with_reducible rfl
        try simp only [Act.put, List.setIfInBounds_toArray, List.set_cons_zero, List.set_cons_succ, List.getElem_toArray, List.getElem_cons_succ, List.getElem_cons_zero]
        refine wpAnyH_done (by kernel_rfl) ?_ _
        go_wp2_with fail
        refine bodyPost_ret (v := .bool false) (by simp [results, Try.results53, go_sem]) rfl ?_
        exact ⟨by rw [HR.out], (Below.refl _ _).drew⟩
      | true =>
        by_cases hm : l.length = m.length
        case neg =>
          have HR : Hid (shT ⟨s, l⟩ ⟨s2, m⟩ = false) := by unfold Hid; rw [shT_deep hvb, hn]; simp [hm]
          have hm2 : ((l.length : Int) == (m.length : Int)) = false := beq_eq_false_iff_ne.2 (by omega)
          have hm3 : ((l.length : Int) != (m.length : Int)) = true := by simp [bne, hm2]
          clear hm
          go_enter Try.func53, Try.ntmps53
          have HS0 := hide (And.intro p0 (And.intro p1 (And.intro t0 t1)))
          go_wp2_with (go_at_call 55; refine (isVariable_all _ _).mono ?_; rintro e w ⟨rfl, rfl⟩; rw [hvb])
          go_region_held3 (fun w' => w'.cell? ⟨b, o, none⟩ = some (.string s) ∧ w'.cell? ⟨b, o + 1, none⟩ = some (.slice a l.length c) ∧ w'.cell? ⟨b2, o2, none⟩ = some (.string s2) ∧ w'.cell? ⟨b2, o2 + 1, none⟩ = some (.slice a2 m.length c2)) (first | exact HS0.out | go_keep) (fail)
          go_wp2_with fail
          refine bodyPost_ret (v := .bool false) (by simp [results, Try.results53, go_sem]) rfl ?_
          exact ⟨by rw [HR.out], (Below.refl _ _).drew⟩
        case pos =>
          have HR : Hid (shT ⟨s, l⟩ ⟨s2, m⟩ = shL l m) := by unfold Hid; rw [shT_deep hvb, hn]; simp [hm]
          have HLM := hide hm
          rw [← hm] at t1 hl2
          clear hm
          go_enter Try.func53, Try.ntmps53
          have HS0 := hide (And.intro p0 (And.intro p1 (And.intro t0 t1)))
          go_wp2_with (go_at_call 55; refine (isVariable_all _ _).mono ?_; rintro e w ⟨rfl, rfl⟩; rw [hvb])
          go_region_held3 (fun w' => w'.cell? ⟨b, o, none⟩ = some (.string s) ∧ w'.cell? ⟨b, o + 1, none⟩ = some (.slice a l.length c) ∧ w'.cell? ⟨b2, o2, none⟩ = some (.string s2) ∧ w'.cell? ⟨b2, o2 + 1, none⟩ = some (.slice a2 l.length c2)) (first | exact HS0.out | go_keep) (fail)
          go_wp2_with fail
          go_loopw [38] (fun i wr => ShInv w l m i wr) (fun i wr => l.length - (intOf i).toNat)
          case atStart => exact ⟨0, Nat.zero_le _, rfl, fun j _ _ h => absurd h (by omega), (Below.refl _ _).drew⟩
          case round =>
            obtain ⟨k, hk, rfl, hT, hB⟩ := hrel
            have HTK := hide hT
            have HB := hide hB
            have HPK := hide (HP.out.later hB)
            have HTT := hide (HT.out.later hB)
            clear hT hB
            by_cases hlt : k < l.length
            · have hltm : k < m.length := by have := HLM.out; omega
              obtain ⟨a', c', q1, hsub⟩ := HPK.out.sub
              obtain ⟨b', o', rfl, hx⟩ := hsub k hlt
              obtain ⟨a2', c2', r1, hsub2⟩ := HTT.out.sub
              obtain ⟨b2', o2', rfl, hx2⟩ := hsub2 k hltm
              dsimp only at q1 r1 hx hx2
              rw [← HLM.out] at r1
              have hk2 : (k : Int) < (l.length : Int) := by omega
              have HS1 := hide (And.intro q1 r1)
              have HI : Hid (Calls Try.prog 53 #[.pointer (some ⟨b', o' + k * 2, none⟩), .pointer (some ⟨b2', o2' + k * 2, none⟩)] wr.drew fun e w' => e = .returned (.bool (shT l[k] m[k])) ∧ Below wr.drew.heap.size wr.drew w') := IH.out l[k] (List.getElem_mem hlt) m[k] b' (o' + k * 2) b2' (o2' + k * 2) wr.drew (hx.later ((Below.refl _ _).drew)) (hx2.later ((Below.refl _ _).drew))
              have HNO := hide (fun h0 => shL_no HLM.out hlt hltm h0)
              have HNX : Hid (shT l[k] m[k] = true → ∀ j (h : j < l.length) (h2 : j < m.length), j < k + 1 → shT l[j] m[j] = true) := fun h0 j h h2 hj => by
                by_cases e : j = k
                · subst e; exact h0
                · exact HTK.out j h h2 (by omega)
              have hkp : ∀ w5, Below wr.drew.heap.size wr.drew w5 → w5.cell? ⟨b, o + 1, none⟩ = some (.slice (some ⟨b', o', none⟩) l.length c') ∧ w5.cell? ⟨b2, o2 + 1, none⟩ = some (.slice (some ⟨b2', o2', none⟩) l.length c2') := fun w5 h5 => ⟨(h5.cell (p := ⟨b, o + 1, none⟩) (HPK.out.lt)).trans HS1.out.1, (h5.cell (p := ⟨b2, o2 + 1, none⟩) (HTT.out.lt)).trans HS1.out.2⟩
              have HKP := hide hkp
              clear hsub hsub2 hx hx2 hkp
              generalize shT l[k] m[k] = y at *
              go_wp2_with fail
              go_region_held3 (fun w' => w'.cell? ⟨b, o + 1, none⟩ = some (.slice (some ⟨b', o', none⟩) l.length c') ∧ w'.cell? ⟨b2, o2 + 1, none⟩ = some (.slice (some ⟨b2', o2', none⟩) l.length c2')) (first | exact HS1.out | exact hS5 | go_keep)
                ((go_at_call 53; refine HI.out.mono ?_; rintro e w5 ⟨rfl, hb5⟩; have hS5 := HKP.out w5 hb5))
              have HB5 := hide (HB.out.trans (((Below.refl _ _).drew.trans hb5).mono HB.out.size))
              clear hb5 hS5
              cases y with
              | false =>
                have HF := hide (HR.out.trans (HNO.out rfl))
                go_wp2_with fail
                refine bodyPost_ret (v := .bool false) (by simp [results, Try.results53, go_sem]) rfl ?_
                exact ⟨by rw [HF.out], HB5.out⟩
              | true =>
                go_wp2_with fail
                go_roundw
                case rel => exact ⟨k + 1, by omega, by go_num, HNX.out rfl, HB5.out⟩
                case measure => simp [intOf]; omega
            · have HF : Hid (shT ⟨s, l⟩ ⟨s2, m⟩ = true) := by
                unfold Hid
                rw [HR.out, shL_iff l m HLM.out]
                exact fun j h h2 => HTK.out j h h2 (by omega)
              go_wp2_with fail
              refine bodyPost_ret (v := .bool true) (by simp [results, Try.results53, go_sem]) rfl ?_
              exact ⟨by rw [HF.out], HB.out⟩
#print axioms isShaped_any
end Go.Proofs.Ytpjdkdebjkpmmaj

/- Walks: what stands for a variable, as the document says. -/
namespace Go.Proofs.Ytpjdkdebjkpmmaj
open Go.RowKit
set_option linter.unusedSimpArgs false
set_option linter.unusedVariables false
set_option maxRecDepth 8000

def ForPost (w : World) (X : Nat → Prop) (l : List Bd) (n : ByteArray) (e : Ending) (w' : World) : Prop :=
  Below w.heap.size w w' ∧ ((∃ t a c, forT l n = some t ∧ e = .returned (.tuple #[.agg #[.string t.name, .slice a t.args.length c], .bool true]) ∧ Sl w' X a t.args) ∨ (forT l n = none ∧ e = .returned (.tuple #[.agg #[.string ⟨#[]⟩, .slice none 0 0], .bool false])))

def FoInv (l : List Bd) (n : ByteArray) (w0 : World) (v : Value) (wr : World) : Prop := ∃ k : Nat, k ≤ l.length ∧ v = .int .i64 (k : Int) ∧ forT (l.take k) n = none ∧ wr = w0

set_option maxHeartbeats 1000000 in
theorem for_any (l : List Bd) (n : ByteArray) (v : Value) (w : World) (X0 : Nat → Prop) (hv0 : BV w X0 v l) :
    Calls Try.prog 52 #[v, .string n] w fun e w' => ForPost w (fun b => X0 b ∧ b < w.heap.size) l n e w' := by
  have HV := hide (hv0.mono (Y := fun b => X0 b ∧ b < w.heap.size) fun b h1 h2 => ⟨h1, h2⟩)
  obtain ⟨a, c, rfl, hl, hv⟩ := hv0
  clear hv
  go_enter Try.func52, Try.ntmps52
  go_wp2_with fail
  have R0 := hide (Blk.new w #[.string ⟨#[]⟩, .slice none 0 0] 25)
  have B0 := hide ((Below.refl w.heap.size w).alloc (Nat.le_refl _) (.cells #[.string ⟨#[]⟩, .slice none 0 0] 25))
  have V0 := hide (HV.out.alloc (.cells #[.string ⟨#[]⟩, .slice none 0 0] 25))
  generalize w.alloc (.cells #[.string ⟨#[]⟩, .slice none 0 0] 25) = w0 at *
  go_loopw [6] (fun v wr => FoInv l n w0 v wr) (fun v wr => l.length - (intOf v).toNat)
  case atStart => exact ⟨0, Nat.zero_le _, rfl, rfl, rfl⟩
  case round =>
    obtain ⟨k, hk, rfl, hno, rfl⟩ := hrel
    have HNO := hide hno
    clear hno
    have r0 : wr.cell? ⟨w.heap.size, 0, none⟩ = some (.string ⟨#[]⟩) := R0.out.cell 0
    have r1 : wr.cell? ⟨w.heap.size, 1, none⟩ = some (.slice none 0 0) := R0.out.cell 1
    have rf := R0.out.frozen
    by_cases hlt : k < l.length
    · obtain ⟨b, o, a', c', rfl, d0, d1, d2, hs⟩ := V0.out.get k hlt
      have hlt2 : (k : Int) < (l.length : Int) := by omega
      have HT := hide (forT_take hlt HNO.out)
      have HS := hide hs
      clear hs
      generalize l[k] = d at *
      by_cases he : d.nm = n
      · have heq := bytes_yes he
        have HF := hide (HT.out.1 he)
        clear he
        go_wp2_with fail
        refine bodyPost_ret (v := .tuple #[.agg #[.string d.t.name, .slice a' d.t.args.length c'], .bool true]) (by simp [results, Try.results52, go_sem, World.cell?_setCell_same, World.cell?_setCell_other, r0, r1]) rfl ?_
        refine ⟨(B0.out.setCell (by simp) _).setCell (by simp) _, Or.inl ⟨d.t, a', c', HF.out, rfl, HS.out.kept fun b hb => ?_⟩⟩
        rw [Below.heap_setCell _ _ _ _ (by simp; omega), Below.heap_setCell _ _ _ _ (by simp; omega)]
      · have heq := bytes_no he
        have HF := hide (HT.out.2 he)
        clear he
        go_wp2_with fail
        go_roundw
        case rel => exact ⟨k + 1, by omega, by go_num, HF.out, by trivial⟩
        case measure => simp [intOf]; omega
    · have htk : l.take k = l := List.take_of_length_le (by omega)
      have HF := hide HNO.out
      rw [htk] at HF
      clear htk
      go_wp2_with fail
      refine bodyPost_ret (v := .tuple #[.agg #[.string ⟨#[]⟩, .slice none 0 0], .bool false]) (by simp [results, Try.results52, go_sem, World.cell?_setCell_same, World.cell?_setCell_other, r0, r1]) rfl ?_
      exact ⟨(B0.out.setCell (by simp) _).setCell (by simp) _, Or.inr ⟨HF.out, rfl⟩⟩
#print axioms for_any
end Go.Proofs.Ytpjdkdebjkpmmaj

/- Walks: two bindings by their names. -/
namespace Go.Proofs.Ytpjdkdebjkpmmaj
open Go.RowKit
set_option linter.unusedSimpArgs false
set_option linter.unusedVariables false
set_option maxRecDepth 8000

/-- How two texts stand to each other. -/
def cmpN (a b : ByteArray) : Int := if ltB a b = true then -1 else if ltB b a = true then 1 else 0
theorem isNaN_any (a : ByteArray) (w : World) : Calls Try.prog 86 #[.string a] w fun e w' => e = .returned (.bool false) ∧ w' = w := by
  go_enter Try.func86, Try.ntmps86
  go_wp2_with fail
  go_ret
  exact ⟨by simp, rfl⟩
theorem compare_any (a b : ByteArray) (w : World) : Calls Try.prog 60 #[.string a, .string b] w fun e w' => e = .returned (.int .i64 (cmpN a b)) ∧ w' = w := by
  cases h1 : Op.bytesLess a.toList b.toList with
  | true =>
    have HN : Hid (cmpN a b = -1) := by unfold Hid cmpN ltB; rw [h1]; rfl
    go_enter Try.func60, Try.ntmps60
    go_wp2_with (go_at_call 86; refine (isNaN_any _ _).mono ?_; rintro e w' ⟨rfl, rfl⟩)
    go_ret
    exact ⟨by rw [HN.out]; rfl, rfl⟩
  | false =>
    by_cases he : a = b
    · have HN : Hid (cmpN a b = 0) := by unfold Hid cmpN ltB; rw [h1, he, bl_irrefl]; rfl
      have h2 : (a.toList == b.toList) = true := bytes_yes he
      clear he
      go_enter Try.func60, Try.ntmps60
      go_wp2_with (go_at_call 86; refine (isNaN_any _ _).mono ?_; rintro e w' ⟨rfl, rfl⟩)
      go_ret
      exact ⟨by rw [HN.out]; rfl, rfl⟩
    · have HN : Hid (cmpN a b = 1) := by
        unfold Hid cmpN
        have h3 : ltB b a = true := by
          cases h : ltB b a with
          | true => rfl
          | false => exact absurd (ltB_conn h1 h) he
        rw [if_neg (by unfold ltB; rw [h1]; simp), if_pos h3]
      have h2 : (a.toList == b.toList) = false := bytes_no he
      clear he
      go_enter Try.func60, Try.ntmps60
      go_wp2_with (go_at_call 86; refine (isNaN_any _ _).mono ?_; rintro e w' ⟨rfl, rfl⟩)
      go_ret
      exact ⟨by rw [HN.out]; rfl, rfl⟩
open Go.Sort in
theorem inOrder1_any (x y : Bc) (w : World) : Calls Try.prog 59 #[.agg (enc3 x).toArray, .agg (enc3 y).toArray] w fun e w' => e = .returned (.int .i64 (cmpN x.1.nm y.1.nm)) ∧ ∃ q os', w' = grow (w.drewN q) os' := by
  have HC := hide (fun w' => compare_any x.1.nm y.1.nm w')
  generalize cmpN x.1.nm y.1.nm = z at *
  unfold enc3
  go_enter Try.func59, Try.ntmps59
  go_wp2_with (go_at_call 60; refine (HC.out _).mono ?_; rintro e w' ⟨rfl, rfl⟩)
  go_ret
  exact ⟨rfl, 0, _, by rw [alloc_eq_grow, alloc_eq_grow, grow_grow]; rfl⟩
#print axioms compare_any
#print axioms inOrder1_any
end Go.Proofs.Ytpjdkdebjkpmmaj

/- Walks: bindings out of a map, in order. -/
namespace Go.Proofs.Ytpjdkdebjkpmmaj
open Go.RowKit
set_option linter.unusedSimpArgs false
set_option linter.unusedVariables false
set_option maxRecDepth 8000

/-- What the library's sort does to a row of bindings. -/
def SortBinds : Prop := ∀ (cs : List Bc) (v : Value) (w : World) (N : Nat) (Y : Nat → Prop), BRow w N Y v cs → (∀ b, Y b → b < N) → cs.length < 4611686018427387904 →
  Calls Try.prog 58 #[v, .func (.func 59) #[] #[]] w fun e w' => e = .returned (.tuple #[]) ∧ ∃ cs' : List Bc, cs'.Perm cs ∧ (cs'.Pairwise fun x y => ltB y.1.nm x.1.nm = false) ∧ BRow w' N Y v cs' ∧ w.grownBy w' v.ownBlock

theorem Try.infoBind : (Try.prog.info? 46).map (fun i => (i.zero, i.size, i.bytes)) = some (some (.agg #[.string ByteArray.empty, .string ByteArray.empty, .slice none 0 0]), 3, 56) := by kernel_rfl

theorem cell_three_new (w : World) (c0 c1 c2 : Value) (T : Nat) : ∀ j u, [c0, c1, c2][j]? = some u → (w.alloc (.cells #[c0, c1, c2] T)).cell? ((⟨w.heap.size, 0, none⟩ : Addr).add j) = some u :=
  World.news_of_block (cs := #[c0, c1, c2]) (heap_alloc_new w _)

/-- A binding appended to a row of them. -/
theorem binds_append {w w1 : World} {N : Nat} {Y : Nat → Prop} {v : Value} {cs : List Bc} (h : BRow w N Y v cs) (hN : N ≤ w.heap.size) (hY : ∀ b, Y b → b < N) (hb : Below w.heap.size w w1) (x : Bc) (ht : Sl w1 (fun b => Y b ∨ w.heap.size ≤ b) x.2.1 x.1.t.args) (hn : cs.length ≤ 1000000) (A : Nat) (hA : w1.heap.size = A) :
    ∃ v2 w3, (Builtin.append_ #[30, 30] 30 #[v, .slice (some ⟨A, 0, none⟩) 1 1]).run Try.prog (w1.alloc (.cells #[.string x.1.nm, .string x.1.t.name, .slice x.2.1 x.1.t.args.length x.2.2] 46)) = .ok v2 w3 ∧ BRow w3 N Y v2 (cs ++ [x]) ∧
      (w1.alloc (.cells #[.string x.1.nm, .string x.1.t.name, .slice x.2.1 x.1.t.args.length x.2.2] 46)).grownBy w3 v.ownBlock := by
  subst hA
  obtain ⟨i0, hi, hz0, hz1, hz2⟩ := info_parts Try.infoBind
  have hs := hb.size
  obtain ⟨g, cap, w3, hr, ho, hg, hat, hlt⟩ := run_append_lies (P := Try.prog) (w := w1.alloc (.cells #[.string x.1.nm, .string x.1.t.name, .slice x.2.1 x.1.t.args.length x.2.2] 46)) 30 30 N 46 i0 _ 3 56 Try.underlying30 hi hz0 hz1 hz2 rfl (by decide) v cs.length (flat3 cs) ((h.below hb).own.alloc _)
    ⟨w1.heap.size, 0, none⟩ 1 1 (enc3 x) rfl (cell_three_new _ _ _ _ _) (fun y hy => by simp [enc3] at hy; rcases hy with rfl | rfl | rfl <;> rfl) (by decide) (by unfold maxLen; omega) (by omega) (by simp; omega) _ rfl
  exact ⟨_, w3, hr, h.push hN hY hb ht _ rfl ho hg hat, hg⟩

/-- What is known midway. -/
def IoInv (w : World) (Z : List Bc) (b : Nat) (u : Value) (wr : World) : Prop :=
  ∃ Zr cs : List Bc, RangeAt wr b w.heap.size (Z.map toP) (Zr.map toP) ∧ (cs.map (·.1) ++ Zr.map (·.1)).Perm (Z.map (·.1)) ∧ (∀ x ∈ Zr, x ∈ Z) ∧ BRow wr (w.heap.size + 1) (fun _ => False) u cs ∧ Below w.heap.size w wr ∧ w.heap.size + 1 ≤ wr.heap.size

set_option maxHeartbeats 1000000 in
theorem inOrder_of (HSORT : Hid SortBinds) (Z : List Bc) (b : Nat) (w : World) (X : Nat → Prop) (hM : MapAt w b (Z.map toP)) (hZ : ∀ x ∈ Z, Sl w X x.2.1 x.1.t.args) (hsz : ∀ x ∈ Z, sizeL [x.1.t] ≤ 1000000) (hlen : Z.length ≤ 1000000) (hap : ApartB (Z.map (·.1))) :
    Calls Try.prog 33 #[.map (some b)] w fun e w' => ∃ v ls', e = .returned v ∧ BV w' (fun b => w.heap.size ≤ b) v ls' ∧ ls'.Perm (Z.map (·.1)) ∧ SortedB ls' ∧ Below w.heap.size w w' := by
  have hbl := hM.lt
  obtain ⟨o, hrange, hR0⟩ := hM.range (P := Try.prog) Try.underlying67
  have HR0 := hide hR0
  have HZ := hide hZ
  have HSZ := hide hsz
  have HAP := hide hap
  clear hR0 hZ hsz hap hM
  go_enter Try.func33, Try.ntmps33
  go_wp2_with fail
  go_loopw [3] (fun u wr => IoInv w Z b u wr) (fun u wr => leftAt wr b w.heap.size)
  case atStart =>
    exact ⟨Z, [], HR0.out, by simp, fun _ h => h, BRow.start _ _ _, (Below.refl _ _).alloc (Nat.le_refl _) _, by simp⟩
  case round =>
    obtain ⟨Zr, cs, hR, hP, hsub, hB, hb, hz⟩ := hrel
    have HB := hide hb
    have HR := hide hR
    have HP := hide hP
    have HBR := hide hB
    clear hP hB
    rcases hR.next (P := Try.prog) 0 with ⟨he, hnx⟩ | ⟨p, rem', w1, hpm, hnx, hR1, hz1, ho1, ht1, hu1, hk1, hen⟩
    · have hZr : Zr = [] := by simpa using he
      subst hZr
      have HBV := hide (show cs.length < 4611686018427387904 by have := HP.out.length_eq; simp at this; omega)
      clear hR hb he
      go_wp2_with fail
      refine (HSORT.out cs u3 wr (w.heap.size + 1) (fun _ => False) HBR.out (fun _ h => h.elim) HBV.out).mono ?_
      rintro e w2 ⟨rfl, cs', hp2, hs2, hr2, hg2⟩
      have HR2 := hide hr2
      have HP2 : Hid ((cs'.map (·.1)).Perm (Z.map (·.1))) := (hp2.map _).trans (by simpa using HP.out)
      have HS2 : Hid (SortedB (cs'.map (·.1))) := sortedB_of (HAP.out.perm HP2.out) (List.pairwise_map.2 hs2)
      have HB2 : Hid (Below w.heap.size w w2) := HB.out.grown hg2 HB.out.size (fun j hj => by have := (HBR.out.own.lt j hj).1; omega)
      clear hr2 hp2 hs2 hg2
      go_wp2_with fail
      go_ret
      exact ⟨u3, _, rfl, HR2.out.bv.mono (fun b hb _ => by rcases hb with h | h; exact h.elim; omega), HP2.out, HS2.out, HB2.out⟩
    · obtain ⟨x, Z', hpx, rfl, rfl⟩ := next_lift hpm
      simp only [toP] at hnx hen
      have hxZ : x ∈ Z := hsub x (hpx.symm.subset (by simp))
      have HB1 : Hid (Below w.heap.size w w1) := ⟨ho1.trans hb.os, ht1.trans hb.tape, hu1.trans hb.output, by rw [hz1]; exact hb.size, fun j hj => (hk1 j (by omega)).trans (hb.block j hj)⟩
      have HBR1 := hide (HBR.out.kept (r := w.heap.size) (w' := w1) (by omega) (fun h => h) ho1 ht1 hu1 (by omega) (fun j hj _ => hk1 j hj))
      have HZ1 : Hid (w.heap.size + 1 ≤ w1.heap.size) := by unfold Hid; omega
      have HR1 := hide hR1
      have HX := hide (HZ.out x hxZ)
      have HXS := hide (HSZ.out x hxZ)
      have HP1 : Hid ((cs.map (·.1) ++ [x.1] ++ Z'.map (·.1)).Perm (Z.map (·.1))) := by
        have h1 : (Zr.map (·.1)).Perm (x.1 :: Z'.map (·.1)) := by simpa using hpx.map (·.1)
        have h2 := (h1.append_left (cs.map (·.1))).symm.trans HP.out
        unfold Hid
        simpa using h2
      have HSUB : Hid (∀ y ∈ Z', y ∈ Z) := fun y hy => hsub y (hpx.symm.subset (by simp [hy]))
      have HLEN : Hid (cs.length ≤ 1000000) := by have := HP.out.length_eq; simp at this; unfold Hid; omega
      have HMS : Hid (Z'.length < Zr.length) := by have := hpx.length_eq; simp at this; unfold Hid; omega
      clear hR hb hz1 ho1 ht1 hu1 hk1 hR1 hpm hpx hsub hxZ
      go_wp2_with fail
      have HB2 := hide (HB1.out.alloc HB1.out.size (.cells #[.string x.1.t.name, .slice x.2.1 x.1.t.args.length x.2.2] 25))
      have HBR2 := hide (HBR1.out.below ((Below.refl _ _).alloc (Nat.le_refl _) (.cells #[.string x.1.t.name, .slice x.2.1 x.1.t.args.length x.2.2] 25)))
      have HR2 := hide (HR1.out.below ((Below.refl _ _).alloc (Nat.le_refl _) (.cells #[.string x.1.t.name, .slice x.2.1 x.1.t.args.length x.2.2] 25)) (by have := HZ1.out; omega) HR1.out.lt)
      have HZ2 : Hid (w.heap.size + 1 ≤ (w1.alloc (.cells #[.string x.1.t.name, .slice x.2.1 x.1.t.args.length x.2.2] 25)).heap.size) := by have := HZ1.out; unfold Hid; simp; omega
      clear hnx hen
      generalize w1.alloc (.cells #[.string x.1.t.name, .slice x.2.1 x.1.t.args.length x.2.2] 25) = w2 at *
      refine (copyOf_any x.1.t _ w2 X ⟨_, _, rfl, HX.out.later HB2.out⟩ HXS.out).mono ?_
      rintro e w3 ⟨v3, rfl, ⟨a3, c3, rfl, hs3⟩, hb3⟩
      have hz3 := hb3.size
      obtain ⟨v4, w4, hrun, hB4, hg4⟩ := binds_append HBR2.out HZ2.out (fun _ h => h.elim) hb3 (x.1, a3, c3) (hs3.mono fun b h _ => Or.inr h) HLEN.out w3.heap.size rfl
      have HRUN := hide hrun
      have HB4 := hide hB4
      have hlt := HBR2.out.own.lt
      have HBB : Hid (Below w.heap.size w w4) := ((HB2.out.trans (hb3.mono HB2.out.size)).alloc (by have := HZ2.out; omega) _).grown hg4 (by have := HZ2.out; simp; omega) (fun j hj => by have := (hlt j hj).1; omega)
      have HR4 : Hid (RangeAt w4 b w.heap.size (Z.map toP) (Z'.map toP)) := by
        have hz2 := HZ2.out
        refine HR2.out.kept ?_ ?_
        · rw [hg4.block b (by simp; omega) (HBR2.out.ne (by omega)), Below.heap_alloc _ _ _ (by omega), hb3.block b (by omega)]
        · rw [hg4.block w.heap.size (by simp; omega) (HBR2.out.ne (by omega)), Below.heap_alloc _ _ _ (by omega), hb3.block w.heap.size (by omega)]
      have HZ4 : Hid (w.heap.size + 1 ≤ w4.heap.size) := by have := hg4.size; have := HZ2.out; simp at *; unfold Hid; omega
      clear hs3 hb3 hrun hB4 hg4 hlt hz3
      go_wp2_with (at_builtin; refine wpList_append_eq rfl _ _ _ _ rfl rfl rfl HRUN.out ?_)
      go_roundw
      case rel => exact ⟨Z', _, HR4.out, by simpa using HP1.out, HSUB.out, HB4.out, HBB.out, HZ4.out⟩
      case measure =>
        rw [HR4.out.left, HR.out.left]
        have := HMS.out
        simpa using this
#print axioms inOrder_of
end Go.Proofs.Ytpjdkdebjkpmmaj


/- Walks: whether bindings may be, as the document says. -/
namespace Go.Proofs.Ytpjdkdebjkpmmaj
open Go.RowKit
set_option linter.unusedSimpArgs false
set_option linter.unusedVariables false
set_option maxRecDepth 8000

def BmInv (ls : List Bd) (w : World) (v : Value) (wr : World) : Prop := ∃ k : Nat, v = .int .i64 (k : Int) ∧ k ≤ ls.length ∧ bmT ls k = 0 ∧ Below w.heap.size w wr

theorem Below.drewN' {B : Nat} {a w : World} (h : Below B a w) (n : Nat) : Below B a (w.drewN n) := ⟨h.os, h.tape, h.output, h.size, h.block⟩

end Go.Proofs.Ytpjdkdebjkpmmaj


/- Walks: bindings sorted, as the document says. -/
namespace Go.Proofs.Ytpjdkdebjkpmmaj
open Go.RowKit
set_option linter.unusedSimpArgs false
set_option linter.unusedVariables false
set_option maxRecDepth 8000

theorem flat3_set (y : Bc) : ∀ (cs : List Bc) (i : Nat), i < cs.length → flat3 (cs.set i y) = (((flat3 cs).set (i * 3) (.string y.1.nm)).set (i * 3 + 1) (.string y.1.t.name)).set (i * 3 + 2) (.slice y.2.1 y.1.t.args.length y.2.2)
  | [], i, h => by simp at h
  | x :: r, 0, h => by simp [flat3, enc3]
  | x :: r, i + 1, h => by
    have ih := flat3_set y r i (by simpa using h)
    rw [List.set_cons_succ, flat3, flat3, ih]
    rw [show (i + 1) * 3 = i * 3 + 3 by omega, show i * 3 + 3 + 1 = (i * 3 + 1) + 3 by omega, show i * 3 + 3 + 2 = (i * 3 + 2) + 3 by omega]
    simp [enc3]
/-- The world with a binding stored in a row. -/
def put3 (w : World) (g i : Nat) (y : Bc) : World := (((w.setCell ⟨g, i * 3, none⟩ (.string y.1.nm)).setCell ⟨g, i * 3 + 1, none⟩ (.string y.1.t.name)).setCell ⟨g, i * 3 + 2, none⟩ (.slice y.2.1 y.1.t.args.length y.2.2))
theorem put3_block {w : World} {g i b : Nat} {y : Bc} (h : b ≠ g) : (put3 w g i y).heap[b]? = w.heap[b]? := by
  unfold put3
  rw [Below.heap_setCell _ _ _ _ (by simpa using h), Below.heap_setCell _ _ _ _ (by simpa using h), Below.heap_setCell _ _ _ _ (by simpa using h)]
theorem put3_size {w : World} {g i : Nat} {y : Bc} : (put3 w g i y).heap.size = w.heap.size := by simp [put3, World.setCell]
theorem put3_below {w0 w : World} {B g i : Nat} {y : Bc} (h : Below B w0 w) (hg : B ≤ g) : Below B w0 (put3 w g i y) := ((h.setCell (by exact hg) _).setCell (by exact hg) _).setCell (by exact hg) _
theorem Sl.put3 {w : World} {N g n cap i : Nat} {Y : Nat → Prop} {a : Option Addr} {l : List Tm} {y : Bc} (h : Sl w (fun b => Y b ∨ (N ≤ b ∧ some b ≠ (Value.slice (some ⟨g, 0, none⟩) n cap).ownBlock)) a l) (hY : ∀ b, Y b → b < N) (hg : N ≤ g) : Sl (put3 w g i y) (fun b => Y b ∨ (N ≤ b ∧ some b ≠ (Value.slice (some ⟨g, 0, none⟩) n cap).ownBlock)) a l :=
  h.kept fun b hb => put3_block (by
    rcases hb with hb | hb
    · have := hY b hb; omega
    · intro e; exact hb.2 (by simp [Value.ownBlock, e]))
theorem BRow.put {w : World} {N : Nat} {Y : Nat → Prop} {cs : List Bc} {g n cap : Nat} (h : BRow w N Y (.slice (some ⟨g, 0, none⟩) n cap) cs) (hY : ∀ b, Y b → b < N) (i : Nat) (hi : i < cs.length) (y : Bc) (hy : Sl w (fun b => Y b ∨ (N ≤ b ∧ some b ≠ (Value.slice (some ⟨g, 0, none⟩) n cap).ownBlock)) y.2.1 y.1.t.args) : BRow (put3 w g i y) N Y (.slice (some ⟨g, 0, none⟩) n cap) (cs.set i y) := by
  have hNg : N ≤ g := (h.own.lt g rfl).1
  refine ⟨?_, fun x hx => ?_⟩
  · rcases h.own.2 with ⟨e, _⟩ | ⟨g', cap', cur, e, hbase, hb, h1, h2, h3, h4⟩
    · cases e
    · simp at e
      obtain ⟨rfl, rfl, rfl⟩ := e
      have hB : Blk w g cur 46 := hb
      have hB' := ((hB.set (i * 3) (.string y.1.nm)).set (i * 3 + 1) (.string y.1.t.name)).set (i * 3 + 2) (.slice y.2.1 y.1.t.args.length y.2.2)
      refine ⟨flat3_length _, Or.inr ⟨g, cap, _, by simp, hbase, hB', by simpa using h1, h2, by simpa using h3, ?_⟩⟩
      rw [flat3_set y cs i hi, ← h4]
      simp [List.take_set]
  · rcases List.mem_or_eq_of_mem_set hx with h1 | h1
    · exact (h.row x h1).put3 hY hNg
    · rw [h1]; exact hy.put3 hY hNg
/-- Two of a row change places. -/
theorem BRow.swap {w : World} {N : Nat} {Y : Nat → Prop} {A B : List Bc} {x y : Bc} {g n cap : Nat} (h : BRow w N Y (.slice (some ⟨g, 0, none⟩) n cap) ((A ++ [y]) ++ x :: B)) (hY : ∀ b, Y b → b < N) : BRow (put3 (put3 w g (A.length + 1) y) g A.length x) N Y (.slice (some ⟨g, 0, none⟩) n cap) (A ++ x :: y :: B) := by
  have hNg : N ≤ g := (h.own.lt g rfl).1
  have h1 := h.put hY (A.length + 1) (by simp) y (h.row y (by simp))
  have h2 := h1.put hY A.length (by simp) x ((h.row x (by simp)).put3 hY hNg)
  have e : (((A ++ [y]) ++ x :: B).set (A.length + 1) y).set A.length x = A ++ x :: y :: B := by
    rw [List.set_append_right _ _ (by simp)]
    simp [List.set_append_right]
  rw [e] at h2
  exact h2

/-- None is ahead of one that stands ahead of it. -/
def Weak (l : List Bc) : Prop := l.Pairwise fun a b => ltB b.1.nm a.1.nm = false
theorem weak_ins {A B : List Bc} {x : Bc} (hw : Weak (A ++ B)) (hB : ∀ b ∈ B, ltB x.1.nm b.1.nm = true) (hA : ∀ a ∈ A, ltB x.1.nm a.1.nm = false) : Weak (A ++ x :: B) := by
  obtain ⟨h1, h2, h3⟩ := List.pairwise_append.1 hw
  refine List.pairwise_append.2 ⟨h1, List.pairwise_cons.2 ⟨fun b hb => ltB_asymm (hB b hb), h2⟩, fun a ha b hb => ?_⟩
  rcases List.mem_cons.1 hb with rfl | hb
  · exact hA a ha
  · exact h3 a ha b hb
theorem weak_last {A B : List Bc} {a x : Bc} (hw : Weak (A ++ [a] ++ B)) (h : ltB x.1.nm a.1.nm = false) : ∀ y ∈ A ++ [a], ltB x.1.nm y.1.nm = false := fun y hy => by
  rcases List.mem_append.1 hy with hy | hy
  · obtain ⟨h1, _⟩ := List.pairwise_append.1 hw
    exact ltB_ntrans h ((List.pairwise_append.1 h1).2.2 y hy a (by simp))
  · have e : y = a := by simpa using hy
    rw [e]; exact h

theorem BRow.atk {w : World} {N : Nat} {Y : Nat → Prop} {P Q : List Bc} {z : Bc} {g n cap : Nat} (h : BRow w N Y (.slice (some ⟨g, 0, none⟩) n cap) (P ++ z :: Q)) :
    w.cell? ⟨g, P.length * 3, none⟩ = some (.string z.1.nm) ∧ w.cell? ⟨g, P.length * 3 + 1, none⟩ = some (.string z.1.t.name) ∧ w.cell? ⟨g, P.length * 3 + 2, none⟩ = some (.slice z.2.1 z.1.t.args.length z.2.2) ∧ ∀ j, w.frozen? ⟨g, j, none⟩ = false := by
  obtain ⟨g', cap', e, _, _, hc⟩ := owned_val h.own (by simp only [List.length_append, List.length_cons]; omega)
  simp at e
  obtain ⟨rfl, _, rfl⟩ := e
  have hf : ∀ j, w.frozen? ⟨g, j, none⟩ = false := by
    rcases h.own.2 with ⟨e, _⟩ | ⟨g', cap', cur, e, _, hb, _⟩
    · cases e
    · simp at e
      obtain ⟨rfl, _, rfl⟩ := e
      intro j
      simp [World.frozen?, hb]
  have hg : ∀ j, j < 3 → (flat3 (P ++ z :: Q))[P.length * 3 + j]? = (enc3 z)[j]? := fun j hj => by
    rw [flat3_get _ P.length (by simp) j hj]
    simp
  exact ⟨hc _ _ (by have h0 := hg 0 (by decide); rw [Nat.add_zero] at h0; rw [h0]; rfl), hc _ _ (by rw [hg 1 (by decide)]; rfl), hc _ _ (by rw [hg 2 (by decide)]; rfl), hf⟩
theorem ins_perm {A B cs : List Bc} {x : Bc} {l : List Bd} (h : A ++ B = cs) (hp : (cs.map (·.1) ++ [x.1]).Perm l) : ((A ++ x :: B).map (·.1)).Perm l := by
  refine List.Perm.trans ?_ hp
  have h1 : (A ++ x :: B).Perm (cs ++ [x]) := by
    rw [← h]
    exact List.perm_middle.trans (List.perm_append_singleton x (A ++ B)).symm
  simpa using h1.map (·.1)

/-- What is known in the outer loop. -/
def SoInv (w : World) (Y : Nat → Prop) (ls : List Bd) (u v : Value) (wr : World) : Prop :=
  ∃ (k : Nat) (cs : List Bc), v = .int .i64 (k : Int) ∧ k ≤ ls.length ∧ BRow wr w.heap.size Y u cs ∧ (cs.map (·.1)).Perm (ls.take k) ∧ Weak cs ∧ Below w.heap.size w wr
/-- What is known in the inner loop. -/
def SiInv (w : World) (Y : Nat → Prop) (cs : List Bc) (x : Bc) (g cap : Nat) (v : Value) (wr : World) : Prop :=
  ∃ (A B : List Bc), v = .int .i64 (A.length : Int) ∧ A ++ B = cs ∧ (∀ b ∈ B, ltB x.1.nm b.1.nm = true) ∧ BRow wr w.heap.size Y (.slice (some ⟨g, 0, none⟩) (cs.length + 1) cap) (A ++ x :: B) ∧ Below w.heap.size w wr

end Go.Proofs.Ytpjdkdebjkpmmaj


/- Walks: one term as a case of another one, as the document says. -/
namespace Go.Proofs.Ytpjdkdebjkpmmaj
open Go.RowKit
set_option linter.unusedSimpArgs false
set_option linter.unusedVariables false
set_option maxRecDepth 8000

/-- What a matching leaves: what is old stays, but for the row that is grown. -/
def MtPost (w : World) (N : Nat) (Y : Nat → Prop) (hv : Value) (r : Option (List Bd)) (e : Ending) (w' : World) : Prop :=
  w.grownBy w' hv.ownBlock ∧ ((r = none ∧ ∃ v, e = .returned (.tuple #[v, .bool false])) ∨
    ∃ (h' : List Bd) (v : Value) (cs' : List Bc), r = some h' ∧ e = .returned (.tuple #[v, .bool true]) ∧ cs'.map (·.1) = h' ∧ BRow w' N Y v cs' ∧ (∀ k, v.ownBlock = some k → hv.ownBlock = some k ∨ w.heap.size ≤ k))

theorem grown_alloc2 (w : World) (o o' : Obj) (row : Option Nat) : w.grownBy ((w.alloc o).alloc o') row := (World.grownBy_alloc w o row).andThen (World.grownBy_alloc (w.alloc o) o' none) (by simp)
theorem grown_below {w w' w'' : World} {row : Option Nat} (h : w.grownBy w' row) (hb : Below w'.heap.size w' w'') : w.grownBy w'' row :=
  h.andThen (row' := none) ⟨hb.os, hb.tape, hb.output, hb.size, fun j hj _ => hb.block j hj⟩ (by simp)

/-- A binding appended to a row of them, and where the row is. -/
theorem binds_append2 {w : World} {N : Nat} {Y : Nat → Prop} {v : Value} {cs : List Bc} (h : BRow w N Y v cs) (hN : N ≤ w.heap.size) (hY : ∀ b, Y b → b < N) (x : Bc) (ht : Sl w (fun b => Y b ∨ w.heap.size ≤ b) x.2.1 x.1.t.args) (hn : cs.length ≤ 1000000) (A : Nat) (hA : w.heap.size = A) :
    ∃ v2 w3, (Builtin.append_ #[30, 30] 30 #[v, .slice (some ⟨A, 0, none⟩) 1 1]).run Try.prog (w.alloc (.cells #[.string x.1.nm, .string x.1.t.name, .slice x.2.1 x.1.t.args.length x.2.2] 46)) = .ok v2 w3 ∧ BRow w3 N Y v2 (cs ++ [x]) ∧ w.grownBy w3 v.ownBlock ∧ ∀ k, v2.ownBlock = some k → v.ownBlock = some k ∨ w.heap.size ≤ k := by
  subst hA
  obtain ⟨i0, hi, hz0, hz1, hz2⟩ := info_parts Try.infoBind
  have hb := Below.refl w.heap.size w
  obtain ⟨g, cap, w3, hr, ho, hg, hat, hlt⟩ := run_append_lies (P := Try.prog) (w := w.alloc (.cells #[.string x.1.nm, .string x.1.t.name, .slice x.2.1 x.1.t.args.length x.2.2] 46)) 30 30 N 46 i0 _ 3 56 Try.underlying30 hi hz0 hz1 hz2 rfl (by decide) v cs.length (flat3 cs) (h.own.alloc _)
    ⟨w.heap.size, 0, none⟩ 1 1 (enc3 x) rfl (cell_three_new _ _ _ _ _) (fun y hy => by simp [enc3] at hy; rcases hy with rfl | rfl | rfl <;> rfl) (by decide) (by unfold maxLen; omega) (by omega) (by simp; omega) _ rfl
  refine ⟨_, w3, hr, h.push hN hY hb ht _ rfl ho hg hat, (World.grownBy_alloc w _ _).andThen hg (fun j hj => Or.inr hj), fun k hk => ?_⟩
  have e : g = k := by simpa [Value.ownBlock] using hk
  rcases hat with h1 | h1
  · exact Or.inl (by rw [h1, e])
  · right; simp at h1; omega

def MlInv (w2 : World) (N : Nat) (Y : Nat → Prop) (hv : Value) (l m : List Tm) (h : List Bd) (v i : Value) (wr : World) : Prop :=
  ∃ (k : Nat) (cs' : List Bc), k ≤ l.length ∧ i = .int .i64 (k : Int) ∧ mtL (l.take k) (m.take k) h = some (cs'.map (·.1)) ∧ BRow wr N Y v cs' ∧ w2.grownBy wr hv.ownBlock ∧ (∀ j, v.ownBlock = some j → hv.ownBlock = some j ∨ w2.heap.size ≤ j)

end Go.Proofs.Ytpjdkdebjkpmmaj


/- Walks: matching, comparing up to names and searching for an instance, as the document says. -/
namespace Go.Proofs.Ytpjdkdebjkpmmaj
open Go.RowKit
set_option linter.unusedSimpArgs false
set_option linter.unusedVariables false
set_option maxRecDepth 8000

/-- One is a case of the other. -/
def mtB (p t : Tm) : Bool := (mtT p t []).isSome
def MoPost (w : World) (Z : Nat → Prop) (p t : Tm) (e : Ending) (w' : World) : Prop :=
  Below w.heap.size w w' ∧ ((mtT p t [] = none ∧ e = .returned (.tuple #[.slice none 0 0, .bool false])) ∨
    ∃ h' v l', mtT p t [] = some h' ∧ e = .returned (.tuple #[v, .bool true]) ∧ BV w' Z v l' ∧ l'.Perm h' ∧ l'.Pairwise fun a b => ltB b.nm a.nm = false)

/-- Some knot of a term is a case of another one. -/
def hcB (t p : Tm) : Bool := (preL [t]).any fun k => mtB p k
theorem hc_take {ks : List Tm} {p : Tm} {k : Nat} (h : k < ks.length) : (ks.take (k + 1)).any (fun x => mtB p x) = ((ks.take k).any (fun x => mtB p x) || mtB p ks[k]) := by
  rw [List.take_succ_eq_append_getElem h, List.any_append]; simp
theorem hc_yes {ks : List Tm} {p : Tm} {k : Nat} (h : k < ks.length) (h0 : mtB p ks[k] = true) : ks.any (fun x => mtB p x) = true := by
  rw [List.any_eq_true]; exact ⟨ks[k], List.getElem_mem h, h0⟩
def HcInv (ks : List Tm) (p : Tm) (w2 : World) (v : Value) (wr : World) : Prop := ∃ k : Nat, k ≤ ks.length ∧ v = .int .i64 (k : Int) ∧ (ks.take k).any (fun x => mtB p x) = false ∧ Below w2.heap.size w2 wr
end Go.Proofs.Ytpjdkdebjkpmmaj

/- A row of bindings as the library's sort takes it, and as it leaves it. -/
namespace Go.Proofs.Ytpjdkdebjkpmmaj
open Go.RowKit Go.Sort Go.Proofs
set_option linter.unusedSimpArgs false
set_option linter.unusedVariables false

theorem flatK_flat3 (cs : List Bc) : (flatK enc3 3 cs.toArray).toList = flat3 cs := by
  apply List.ext_getElem?
  intro t
  by_cases ht : t < cs.length * 3
  · have h1 : (flatK enc3 3 cs.toArray).toList[t]? = some ((flatK enc3 3 cs.toArray)[t]!) := by
      rw [Array.getElem?_toList, getElem!_pos _ t (by simpa using ht), Array.getElem?_eq_getElem (by simpa using ht)]
    have hi : t / 3 < cs.length := by omega
    rw [h1, get_flatK _ _ _ _ (by simpa using ht)]
    have h2 := flat3_get cs (t / 3) hi (t % 3) (by omega)
    rw [show t / 3 * 3 + t % 3 = t by omega] at h2
    rw [h2, getElem!_pos _ (t / 3) (by simpa using hi)]
    have hm : t % 3 < (enc3 cs.toArray[t / 3]).length := by simp [enc3]; omega
    rw [getElem!_pos _ (t % 3) hm]
    simp
  · rw [List.getElem?_eq_none (by simp; omega), List.getElem?_eq_none (by rw [flat3_length]; omega)]

theorem holdsK_row {w : World} {g : Nat} {cur : Array Value} {e : TypeId} {cs : List Bc} (hb : w.heap[g]? = some (.cells cur e (0, 0))) (ht : cur.toList.take (cs.length * 3) = flat3 cs) : HoldsK enc3 3 w g 0 cs.toArray := by
  intro j hj
  have hj' : j < cs.length * 3 := by simpa using hj
  refine ⟨?_, by simp [World.frozen?, hb]⟩
  have h1 : (cur.toList.take (cs.length * 3))[j]? = (flatK enc3 3 cs.toArray).toList[j]? := by rw [ht, flatK_flat3]
  rw [List.getElem?_take_of_lt hj'] at h1
  simp only [World.cell?, hb, Nat.zero_add]
  simp only [Option.isSome_none, Bool.false_eq_true, if_false]
  rw [← Array.getElem?_toList, h1, Array.getElem?_toList, Array.getElem?_eq_getElem hj, getElem!_pos _ j hj]
  rfl

theorem heap_sortK {w : World} {g n : Nat} {os : Array Obj} {cur : Array Value} {e : TypeId} {fr : Nat × Nat} (F : Array Value) (hb : w.heap[g]? = some (.cells cur e fr)) :
    (grow (putRow id (Sort.ahead w n) g 0 F) os).heap[g]? = some (.cells (putCells id 0 F cur) e fr) := by
  have hg : g < w.heap.size := (Array.getElem?_eq_some_iff.1 hb).1
  rw [heap_grow_old _ _ (by simpa using hg)]
  simp [putRow, mapBlock, Sort.ahead, Array.getElem?_modify, hb, onCells]
theorem grownBy_sortK {w : World} {g n : Nat} {os : Array Obj} (F : Array Value) : w.grownBy (grow (putRow id (Sort.ahead w n) g 0 F) os) (some g) := by
  refine ⟨rfl, rfl, rfl, by simp, fun k hk hne => ?_⟩
  rw [heap_grow_old _ _ (by simpa using hk)]
  have : g ≠ k := fun e => hne (by rw [e])
  simp [putRow, mapBlock, Sort.ahead, Array.getElem?_modify, this]
theorem take_putK (cur F : Array Value) (h : F.size ≤ cur.size) : (putCells id 0 F cur).toList.take F.size = F.toList := by
  apply List.ext_getElem?
  intro j
  by_cases hj : j < F.size
  · rw [List.getElem?_take_of_lt hj, Array.getElem?_toList]
    simp [putCells, hj, show j < cur.size by omega]
  · rw [List.getElem?_take_eq_none (by omega), List.getElem?_eq_none (by simp; omega)]

/-- Behind the sort. -/
theorem BRow.sorted {w : World} {N : Nat} {Y : Nat → Prop} {cs : List Bc} {g cap n : Nat} {os : Array Obj} {d : Array Bc} (h : BRow w N Y (.slice (some ⟨g, 0, none⟩) cs.length cap) cs) (hY : ∀ b, Y b → b < N) (hp : d.toList.Perm cs) :
    BRow (sortWorldK enc3 3 w g 0 n d os) N Y (.slice (some ⟨g, 0, none⟩) cs.length cap) d.toList ∧ w.grownBy (sortWorldK enc3 3 w g 0 n d os) (some g) := by
  have hg : w.grownBy (sortWorldK enc3 3 w g 0 n d os) (some g) := grownBy_sortK _
  have hl : d.toList.length = cs.length := hp.length_eq
  refine ⟨⟨?_, fun x hx => ?_⟩, hg⟩
  · rcases h.own.2 with ⟨e, _⟩ | ⟨g', cap', cur, e, hbase, hb, h1, h2, h3, h4⟩
    · cases e
    · simp at e
      obtain ⟨rfl, rfl⟩ := e
      refine ⟨flat3_length _, Or.inr ⟨g, cap, putCells id 0 (flatK enc3 3 d) cur, by rw [hl], hbase, heap_sortK _ hb, by omega, h2, by simp [putCells, h3], ?_⟩⟩
      have e2 := take_putK cur (flatK enc3 3 d) (by have : d.size = cs.length := by simpa using hl
                                                    simp [h3]; omega)
      have e3 := flatK_flat3 d.toList
      rw [Array.toArray_toList] at e3
      rw [e3] at e2
      simpa using e2
  · have hx' : x ∈ cs := hp.subset hx
    have h1 := (h.row x hx').mono (Y := fun b => (Y b ∨ (N ≤ b ∧ some b ≠ (Value.slice (some ⟨g, 0, none⟩) cs.length cap).ownBlock)) ∧ b < w.heap.size) fun b h1 h2 => ⟨h1, h2⟩
    refine (h1.kept fun b hb => hg.block b hb.2 ?_).mono fun b hb _ => hb.1
    rcases hb.1 with h2 | h2
    · exact h.ne (hY b h2)
    · exact h2.2
#print axioms BRow.sorted
end Go.Proofs.Ytpjdkdebjkpmmaj

/- The library's sort at bindings. -/
namespace Go.Proofs.Ytpjdkdebjkpmmaj
open Go.RowKit Go.Sort Go.Proofs
set_option linter.unusedSimpArgs false
set_option linter.unusedVariables false
set_option maxRecDepth 8000

set_option maxHeartbeats 2000000 in
theorem insertionNone_any (p : Option Addr) (cap : Nat) (fv : Value) (w : World) :
    Calls Try.prog 112 #[.slice p 0 cap, .int .i64 0, .int .i64 0, fv] w fun e w' => e = .returned (.tuple #[]) ∧ w' = w := by
  go_enter Try.func112, Try.ntmps112
  go_wp2_with fail
  refine wp_loop_rounds 1 ?_
  rw [rounds_succ]
  go_wp2_with fail
  go_end0
  exact ⟨rfl, rfl⟩
set_option maxHeartbeats 2000000 in
theorem pdqNone_any (p : Option Addr) (cap : Nat) (lim : Int) (fv : Value) (w : World) :
    Calls Try.prog 84 #[.slice p 0 cap, .int .i64 0, .int .i64 0, .int .i64 lim, fv] w fun e w' => e = .returned (.tuple #[]) ∧ w' = w := by
  go_enter Try.func84, Try.ntmps84
  go_wp2_with fail
  refine wp_loop_rounds 1 ?_
  rw [rounds_succ]
  go_wp2_with (go_at_call 112; refine (insertionNone_any _ _ _ _).mono ?_; rintro e w' ⟨rfl, rfl⟩)
  (try simp only [Exit.inBlock, Exit.then]); refine bodyPost_ret (results_none rfl _ _ _) rfl ?_
  exact ⟨rfl, rfl⟩
set_option maxHeartbeats 2000000 in
theorem sortNone_any (p : Option Addr) (cap : Nat) (fv : Value) (w : World) :
    Calls Try.prog 58 #[.slice p 0 cap, fv] w fun e w' => e = .returned (.tuple #[]) ∧ w' = w := by
  have hl : ∀ W, Calls Try.prog 85 #[.int .u64 0] W fun e w' => e = .returned (.int .i64 (Lib.bitLen 0 : Nat)) ∧ w' = W := fun W => by
    have h := Any.bits_Len (SlLaysF0.n15.bits (P := Try.prog) (ρ := Try.sortBind_ren) { Try.sortBind with }) 0 W (by omega) (by omega)
    exact h
  go_enter Try.func58, Try.ntmps58
  go_wp2_with (first | (go_at_call 85; refine (hl _).mono ?_; rintro e w' ⟨rfl, rfl⟩) | (go_at_call 84; refine (pdqNone_any _ _ _ _ _).mono ?_; rintro e w' ⟨rfl, rfl⟩))
  go_end0
  exact ⟨rfl, rfl⟩

theorem ltOf_cmpN (x y : Bc) : ltOf (fun x y : Bc => cmpN x.1.nm y.1.nm) x y = ltB x.1.nm y.1.nm := by
  unfold ltOf cmpN
  cases h : ltB x.1.nm y.1.nm with
  | true => simp [h]
  | false => cases h2 : ltB y.1.nm x.1.nm <;> simp [h, h2]
theorem swo_cmpN : SWO (ltOf fun x y : Bc => cmpN x.1.nm y.1.nm) where
  irrefl x := by rw [ltOf_cmpN]; exact ltB_irrefl _
  trans x y z h1 h2 := by rw [ltOf_cmpN] at *; exact ltB_trans h1 h2
  ntrans x y z h1 h2 := by rw [ltOf_cmpN] at *; exact ltB_ntrans h1 h2

set_option maxHeartbeats 1000000 in
theorem sortBinds : SortBinds := by
  intro cs v w N Y h hY hn
  by_cases h0 : 0 < cs.length
  · obtain ⟨g, cap, rfl, hN, hlt⟩ := h.own.form h0
    have hH : HoldsK enc3 3 w g 0 cs.toArray := by
      rcases h.own.2 with ⟨e, _⟩ | ⟨g', cap', cur, e, _, hb, _, _, _, h4⟩
      · cases e
      · simp at e
        obtain ⟨rfl, rfl⟩ := e
        exact holdsK_row hb h4
    have eg : ∀ args w, (callFunc 59 args).run Try.prog w = .ok (.enter 59 args) w := enters_of Try.func59 (by kernel_rfl) rfl
    have hcon := AnyQ.slices_SortFunc Try.sortBind 3 Try.isAgg46 Try.sizeOf46 enc3 (fun _ => rfl) (fun x v hv => by simp [enc3] at hv; rcases hv with rfl | rfl | rfl <;> rfl) (fun x y => cmpN x.1.nm y.1.nm) swo_cmpN 59 #[] g 0 cap cs.toArray w eg (fun _ _ _ _ x y => inOrder1_any x y _) hH hlt (by simpa using hn)
    change Calls Try.prog 58 _ _ _ at hcon
    have hsz : cs.toArray.size = cs.length := by simp
    rw [hsz] at hcon
    refine hcon.mono ?_
    rintro e w' ⟨rfl, d', n, os, hp, hs, rfl⟩
    obtain ⟨hp1, _, hp3⟩ := hp
    have hd : d'.size = cs.length := by simpa using hp1
    have hp4 : d'.toList.Perm cs := by
      have e1 : d'.extract 0 cs.length = d' := by rw [← hd]; simp
      have e2 : cs.toArray.extract 0 cs.length = cs.toArray := by rw [← hsz]; exact Array.extract_size
      rw [e1, e2] at hp3
      simpa using hp3
    obtain ⟨r1, r2⟩ := h.sorted (n := n) (os := os) hY hp4
    refine ⟨rfl, d'.toList, hp4, ?_, r1, r2⟩
    rw [List.pairwise_iff_getElem]
    intro i j hi hj hij
    have := hs i j (Nat.zero_le _) hij (by simpa [hd] using hj)
    rw [ltOf_cmpN, getElem!_pos _ j (by simpa using hj), getElem!_pos _ i (by simpa using hi)] at this
    simpa using this
  · have e : cs = [] := List.length_eq_zero_iff.1 (by omega)
    subst e
    obtain ⟨p, cap, rfl⟩ : ∃ p cap, v = .slice p 0 cap := by
      rcases h.own.2 with ⟨e, _⟩ | ⟨g', cap', cur, e, _⟩
      · exact ⟨none, 0, e⟩
      · exact ⟨_, _, e⟩
    refine (sortNone_any p cap _ w).mono ?_
    rintro e w' ⟨rfl, rfl⟩
    exact ⟨rfl, [], List.Perm.refl _, List.Pairwise.nil, h, ⟨rfl, rfl, rfl, Nat.le_refl _, fun _ _ _ => rfl⟩⟩
#print axioms sortBinds
end Go.Proofs.Ytpjdkdebjkpmmaj

/- Walks: Fit, and what asks it. -/
namespace Go.Proofs.Ytpjdkdebjkpmmaj
open Go.RowKit
set_option linter.unusedSimpArgs false
set_option linter.unusedVariables false
set_option maxRecDepth 8000

def FitPost (w : World) (Y : Nat → Prop) (p t : Tm) (e : Ending) (w' : World) : Prop :=
  Below w.heap.size w w' ∧ ((mtT p t [] = none ∧ e = .returned (.tuple #[.map none, .bool false])) ∨
    ∃ (h' : List Bd) (q : Nat) (Z' : List Bc), mtT p t [] = some h' ∧ e = .returned (.tuple #[.map (some q), .bool true]) ∧ Z'.map (·.1) = h' ∧ FtM w' q Y Z')

theorem fit_start (w : World) (m v : Value) (T1 T2 : Nat) : Below w.heap.size w (((w.alloc (.map #[] 0)).alloc (.cells #[m] T1)).alloc (.cells #[v] T2)) ∧
    MapAt (((w.alloc (.map #[] 0)).alloc (.cells #[m] T1)).alloc (.cells #[v] T2)) w.heap.size [] ∧ Blk (((w.alloc (.map #[] 0)).alloc (.cells #[m] T1)).alloc (.cells #[v] T2)) (w.heap.size + 1) #[m] T1 ∧ Blk (((w.alloc (.map #[] 0)).alloc (.cells #[m] T1)).alloc (.cells #[v] T2)) (w.heap.size + 1 + 1) #[v] T2 := by
  refine ⟨((((Below.refl _ _).alloc (Nat.le_refl _) _).alloc (by simp) _).alloc (by simp; omega) _), ?_, ?_, ?_⟩
  · have h := MapAt.new w
    have h1 := (h.below ((Below.refl _ _).alloc (Nat.le_refl _) (.cells #[m] T1)) h.lt)
    have h2 := (h1.below ((Below.refl _ _).alloc (Nat.le_refl _) (.cells #[v] T2)) h1.lt)
    simpa using h2
  · have h := (Blk.new (w.alloc (.map #[] 0)) #[m] T1).alloc (.cells #[v] T2)
    simpa using h
  · have h := Blk.new ((w.alloc (.map #[] 0)).alloc (.cells #[m] T1)) #[v] T2
    simpa using h

theorem PtT.of_blk {w : World} {X : Nat → Prop} {b : Nat} {t : Tm} {a : Option Addr} {c T : Nat} (h : Blk w b #[.string t.name, .slice a t.args.length c] T) (hs : Sl w X a t.args) : PtT w X b 0 t := ⟨a, c, h.cell 0, h.cell 1, hs, h.lt⟩

set_option maxHeartbeats 400000 in
theorem fit_any (p t : Tm) (pv tv : Value) (w : World) (X : Nat → Prop) (hp : TV w X pv p) (ht : TV w X tv t) :
    Calls Try.prog 32 #[pv, tv] w fun e w' => FitPost w (fun b => X b ∧ b < w.heap.size) p t e w' := by
  obtain ⟨a, c, rfl, hs⟩ := hp
  obtain ⟨a2, c2, rfl, hs2⟩ := ht
  have HS := hide (hs.mono (Y := fun b => X b ∧ b < w.heap.size) fun b h1 h2 => ⟨h1, h2⟩)
  have HS2 := hide (hs2.mono (Y := fun b => X b ∧ b < w.heap.size) fun b h1 h2 => ⟨h1, h2⟩)
  clear hs hs2
  have hmm := @run_makeMap Try.prog
  have hmf : ∀ (fn : Fn) (first cap : Array Value) (w : World), (Instr.makeFunc fn first cap).run Try.prog w = .ok (.func fn first cap) w := fun _ _ _ _ => rfl
  have hB2 : Below w.heap.size w ((w.alloc (.cells #[.string p.name, .slice a p.args.length c] 25)).alloc (.cells #[.string t.name, .slice a2 t.args.length c2] 25)) := below2 _ _
  have hP2 : Blk ((w.alloc (.cells #[.string p.name, .slice a p.args.length c] 25)).alloc (.cells #[.string t.name, .slice a2 t.args.length c2] 25)) w.heap.size #[.string p.name, .slice a p.args.length c] 25 := (Blk.new w _ _).alloc _
  have hT2 : Blk ((w.alloc (.cells #[.string p.name, .slice a p.args.length c] 25)).alloc (.cells #[.string t.name, .slice a2 t.args.length c2] 25)) (w.heap.size + 1) #[.string t.name, .slice a2 t.args.length c2] 25 := by
    have h := Blk.new (w.alloc (.cells #[.string p.name, .slice a p.args.length c] 25)) #[.string t.name, .slice a2 t.args.length c2] 25
    simpa using h
  go_enter Try.func32, Try.ntmps32
  go_wp2_with fail
  generalize (w.alloc (.cells #[.string p.name, .slice a p.args.length c] 25)).alloc (.cells #[.string t.name, .slice a2 t.args.length c2] 25) = w2 at *
  refine (isShaped_any (fun b => X b ∧ b < w.heap.size) p t _ _ _ _ w2 (PtT.of_blk hP2 (HS.out.later hB2)) (PtT.of_blk hT2 (HS2.out.later hB2))).mono ?_
  rintro e w3 ⟨rfl, hb3⟩
  have HB3 := hide (hB2.trans (hb3.mono hB2.size))
  have HP3 := hide (hP2.below hb3 hP2.lt)
  have HT3 := hide (hT2.below hb3 hT2.lt)
  have hlP := HP3.out.lt
  have hlT := HT3.out.lt
  clear hb3 hP2 hT2 hB2
  cases hsh : shT p t with
  | false =>
    have H0 := hide (mtT_unshaped (p := p) (t := t) [] hsh)
    clear hsh
    go_wp2_with fail
    refine bodyPost_ret (v := .tuple #[.map none, .bool false]) (by simp [results, Try.results32, go_sem]) rfl ?_
    exact ⟨HB3.out, Or.inl ⟨H0.out, rfl⟩⟩
  | true =>
    have HSH := hide hsh
    clear hsh
    have FS := hide (fit_start w3 (.map (some w3.heap.size)) (.func (.func 54) #[] #[.pointer (some ⟨w3.heap.size + 1, 0, none⟩), .pointer (some ⟨w3.heap.size + 1 + 1, 0, none⟩)]) 67 41)
    have p0 : (((w3.alloc (.map #[] 0)).alloc (.cells #[.map (some w3.heap.size)] 67)).alloc (.cells #[.func (.func 54) #[] #[.pointer (some ⟨w3.heap.size + 1, 0, none⟩), .pointer (some ⟨w3.heap.size + 1 + 1, 0, none⟩)]] 41)).cell? ⟨w.heap.size, 0, none⟩ = some (.string p.name) := (HP3.out.below FS.out.1 hlP).cell 0
    have p1 : (((w3.alloc (.map #[] 0)).alloc (.cells #[.map (some w3.heap.size)] 67)).alloc (.cells #[.func (.func 54) #[] #[.pointer (some ⟨w3.heap.size + 1, 0, none⟩), .pointer (some ⟨w3.heap.size + 1 + 1, 0, none⟩)]] 41)).cell? ⟨w.heap.size, 1, none⟩ = some (.slice a p.args.length c) := (HP3.out.below FS.out.1 hlP).cell 1
    have t0 : (((w3.alloc (.map #[] 0)).alloc (.cells #[.map (some w3.heap.size)] 67)).alloc (.cells #[.func (.func 54) #[] #[.pointer (some ⟨w3.heap.size + 1, 0, none⟩), .pointer (some ⟨w3.heap.size + 1 + 1, 0, none⟩)]] 41)).cell? ⟨w.heap.size + 1, 0, none⟩ = some (.string t.name) := (HT3.out.below FS.out.1 hlT).cell 0
    have t1 : (((w3.alloc (.map #[] 0)).alloc (.cells #[.map (some w3.heap.size)] 67)).alloc (.cells #[.func (.func 54) #[] #[.pointer (some ⟨w3.heap.size + 1, 0, none⟩), .pointer (some ⟨w3.heap.size + 1 + 1, 0, none⟩)]] 41)).cell? ⟨w.heap.size + 1, 1, none⟩ = some (.slice a2 t.args.length c2) := (HT3.out.below FS.out.1 hlT).cell 1
    go_wp2_with fail
    generalize (((w3.alloc (.map #[] 0)).alloc (.cells #[.map (some w3.heap.size)] 67)).alloc (.cells #[.func (.func 54) #[] #[.pointer (some ⟨w3.heap.size + 1, 0, none⟩), .pointer (some ⟨w3.heap.size + 1 + 1, 0, none⟩)]] 41)) = w5 at *
    have HB5 := hide (HB3.out.trans (FS.out.1.mono HB3.out.size))
    have SB5 := hide FS.out.2.2.1
    have hz5 := HB5.out.size
    have hz3 := HB3.out.size
    refine (fits_any (w3.heap.size + 1) (w3.heap.size + 1 + 1) w3.heap.size (fun b => X b ∧ b < w.heap.size) p t [] _ _ w5 ⟨a, c, rfl, HS.out.later HB5.out⟩ ⟨a2, c2, rfl, HS2.out.later HB5.out⟩ FS.out.2.2.1 FS.out.2.2.2 ⟨FS.out.2.1, by simp⟩ (fun b hb => ⟨by omega, by omega⟩) HSH.out).mono ?_
    rintro e w6 ⟨hg6, hc6⟩
    have HB6 : Hid (Below w.heap.size w w6) := HB5.out.grown hg6 HB5.out.size (fun j hj => by cases hj; omega)
    have SB6 : Hid (Blk w6 (w3.heap.size + 1) #[.map (some w3.heap.size)] 67) := (hg6.block _ SB5.out.lt (by simp)).trans SB5.out
    have s0 : w6.cell? ⟨w3.heap.size + 1, 0, none⟩ = some (.map (some w3.heap.size)) := SB6.out.cell 0
    clear hg6
    rcases hc6 with ⟨h0, rfl⟩ | ⟨h', Z', h0, rfl, hz', hm'⟩
    · have H0 := hide h0
      clear h0
      go_wp2_with fail
      refine bodyPost_ret (v := .tuple #[.map none, .bool false]) (by simp [results, Try.results32, go_sem]) rfl ?_
      exact ⟨HB6.out, Or.inl ⟨H0.out, rfl⟩⟩
    · have H0 := hide h0
      have HZ := hide hz'
      have HM := hide hm'
      clear h0 hz' hm'
      go_wp2_with fail
      refine bodyPost_ret (v := .tuple #[.map (some w3.heap.size), .bool true]) (by simp [results, Try.results32, go_sem]) rfl ?_
      exact ⟨HB6.out, Or.inr ⟨h', _, Z', H0.out, rfl, HZ.out, HM.out⟩⟩

theorem fit_b (p t : Tm) (pv tv : Value) (w : World) (X : Nat → Prop) (hp : TV w X pv p) (ht : TV w X tv t) :
    Calls Try.prog 32 #[pv, tv] w fun e w' => ∃ v, e = .returned (.tuple #[v, .bool (mtB p t)]) ∧ Below w.heap.size w w' := by
  refine (fit_any p t pv tv w X hp ht).mono ?_
  rintro e w1 ⟨hb, ⟨h0, rfl⟩ | ⟨h', q, Z', h0, rfl, _⟩⟩
  · exact ⟨_, by unfold mtB; rw [h0]; rfl, hb⟩
  · exact ⟨_, by unfold mtB; rw [h0]; rfl, hb⟩

set_option maxHeartbeats 400000 in
theorem isCase_any (t p : Tm) (tv pv : Value) (w : World) (X : Nat → Prop) (ht : TV w X tv t) (hp : TV w X pv p) :
    Calls Try.prog 66 #[tv, pv] w fun e w' => e = .returned (.bool (mtB p t)) ∧ Below w.heap.size w w' := by
  obtain ⟨a, c, rfl, hs⟩ := ht
  obtain ⟨a2, c2, rfl, hs2⟩ := hp
  have HS := hide hs
  have HS2 := hide hs2
  clear hs hs2
  have HB2 : Hid (Below w.heap.size w ((w.alloc (.cells #[.string t.name, .slice a t.args.length c] 25)).alloc (.cells #[.string p.name, .slice a2 p.args.length c2] 25))) := below2 _ _
  go_enter Try.func66, Try.ntmps66
  go_wp2_with fail
  generalize (w.alloc (.cells #[.string t.name, .slice a t.args.length c] 25)).alloc (.cells #[.string p.name, .slice a2 p.args.length c2] 25) = w2 at *
  refine (fit_b p t _ _ w2 X ⟨_, _, rfl, HS2.out.later HB2.out⟩ ⟨_, _, rfl, HS.out.later HB2.out⟩).mono ?_
  rintro e w3 ⟨v3, rfl, hb3⟩
  have HB3 := hide (HB2.out.trans (hb3.mono HB2.out.size))
  clear hb3
  go_wp2_with fail
  go_ret
  exact ⟨rfl, HB3.out⟩

set_option maxHeartbeats 400000 in
theorem mcheck_any (p t : Tm) (pv tv : Value) (w : World) (X : Nat → Prop) (hp : TV w X pv p) (ht : TV w X tv t) :
    Calls Try.prog 31 #[pv, tv] w fun e w' => e = .returned (.int .i64 (twoE p t)) ∧ Below w.heap.size w w' := by
  obtain ⟨a, c, rfl, hs⟩ := hp
  obtain ⟨a2, c2, rfl, hs2⟩ := ht
  have HS := hide hs
  have HS2 := hide hs2
  clear hs hs2
  have HB2 : Hid (Below w.heap.size w ((w.alloc (.cells #[.string p.name, .slice a p.args.length c] 25)).alloc (.cells #[.string t.name, .slice a2 t.args.length c2] 25))) := below2 _ _
  have PB : Hid (Blk ((w.alloc (.cells #[.string p.name, .slice a p.args.length c] 25)).alloc (.cells #[.string t.name, .slice a2 t.args.length c2] 25)) (w.heap.size + 1) #[.string t.name, .slice a2 t.args.length c2] 25) := by
    have h := Blk.new (w.alloc (.cells #[.string p.name, .slice a p.args.length c] 25)) #[.string t.name, .slice a2 t.args.length c2] 25
    unfold Hid
    simpa using h
  go_enter Try.func31, Try.ntmps31
  go_wp2_with fail
  generalize (w.alloc (.cells #[.string p.name, .slice a p.args.length c] 25)).alloc (.cells #[.string t.name, .slice a2 t.args.length c2] 25) = w2 at *
  refine (check_any p _ w2 X ⟨_, _, rfl, HS.out.later HB2.out⟩).mono ?_
  rintro e w3 ⟨rfl, hb3⟩
  have HB3 := hide (HB2.out.trans (hb3.mono HB2.out.size))
  have PB3 := hide (PB.out.below hb3 PB.out.lt)
  clear hb3
  by_cases h : mayE p = 0
  · have HR : Hid (mayE t = twoE p t) := by unfold Hid twoE; rw [if_pos h]
    rw [h]
    clear h
    have b0 : w3.cell? ⟨w.heap.size + 1, 0, none⟩ = some (.string t.name) := PB3.out.cell 0
    have b1 : w3.cell? ⟨w.heap.size + 1, 1, none⟩ = some (.slice a2 t.args.length c2) := PB3.out.cell 1
    go_wp2_with fail
    refine (check_any t _ w3 X ⟨_, _, rfl, HS2.out.later HB3.out⟩).mono ?_
    rintro e w4 ⟨rfl, hb4⟩
    have HB4 := hide (HB3.out.trans (hb4.mono HB3.out.size))
    clear hb4
    go_wp2_with fail
    go_ret
    exact ⟨ret_int HR.out, HB4.out⟩
  · have HR : Hid (mayE p = twoE p t) := by unfold Hid twoE; rw [if_neg h]
    have h2 : (mayE p == 0) = false := by simpa using h
    clear h
    go_wp2_with fail
    go_ret
    exact ⟨ret_int HR.out, HB3.out⟩
#print axioms fit_any
#print axioms isCase_any
#print axioms mcheck_any
end Go.Proofs.Ytpjdkdebjkpmmaj


/- Walks: whether a part of a term is a case of another one, as the document says. -/
namespace Go.Proofs.Ytpjdkdebjkpmmaj
open Go.RowKit
set_option linter.unusedSimpArgs false
set_option linter.unusedVariables false
set_option maxRecDepth 8000

theorem four_cells {w w1 : World} {p1 p2 p3 p4 : Addr} {v1 v2 v3 v4 : Value} (hb : Below w.heap.size w w1) (h : w.cell? p1 = some v1 ∧ w.cell? p2 = some v2 ∧ w.cell? p3 = some v3 ∧ w.cell? p4 = some v4) :
    w1.cell? p1 = some v1 ∧ w1.cell? p2 = some v2 ∧ w1.cell? p3 = some v3 ∧ w1.cell? p4 = some v4 := ⟨cell_later hb h.1, cell_later hb h.2.1, cell_later hb h.2.2.1, cell_later hb h.2.2.2⟩

end Go.Proofs.Ytpjdkdebjkpmmaj

/- Walks: Match, Variant, Encompasses. -/
namespace Go.Proofs.Ytpjdkdebjkpmmaj
open Go.RowKit
set_option linter.unusedSimpArgs false
set_option linter.unusedVariables false
set_option maxRecDepth 8000

/-- Some knot of a list of terms is a case. -/
def hcL (p : Tm) (l : List Tm) : Bool := (preL l).any fun k => mtB p k
theorem hcL_take {p : Tm} {l : List Tm} {k : Nat} (h : k < l.length) : hcL p (l.take (k + 1)) = (hcL p (l.take k) || hcB l[k] p) := by
  unfold hcL hcB
  rw [preL_take l k h, List.any_append]
theorem hcL_yes {p : Tm} {l : List Tm} {k : Nat} (h : k < l.length) (h0 : hcB l[k] p = true) : hcL p l = true := by
  have e : l = l.take (k + 1) ++ l.drop (k + 1) := (List.take_append_drop _ _).symm
  unfold hcL
  rw [e, preL_append, List.any_append]
  have h1 := hcL_take (p := p) h
  unfold hcL at h1
  rw [h1, h0]
  simp
theorem hcB_eq (s : ByteArray) (l : List Tm) (p : Tm) : hcB ⟨s, l⟩ p = (mtB p ⟨s, l⟩ || hcL p l) := by
  unfold hcB hcL
  simp [preL]
def IxInv (p : Tm) (l : List Tm) (w : World) (v : Value) (wr : World) : Prop := ∃ k : Nat, k ≤ l.length ∧ v = .int .i64 (k : Int) ∧ hcL p (l.take k) = false ∧ Below w.heap.size w wr

set_option maxHeartbeats 400000 in
theorem indexFunc_of (P : Nat) (p : Tm) (l : List Tm) (a : Option Addr) (c : Nat) (w : World) (X : Nat → Prop) (hs : Sl w X a l)
    (hcl : ∀ x ∈ l, ∀ a' c' w', Below w.heap.size w w' → Sl w' X a' x.args → Calls Try.prog 68 #[.agg #[.string x.name, .slice a' x.args.length c'], .pointer (some ⟨P, 0, none⟩)] w' fun e w'' => e = .returned (.bool (hcB x p)) ∧ Below w'.heap.size w' w'') :
    Calls Try.prog 91 #[.slice a l.length c, .func (.func 68) #[] #[.pointer (some ⟨P, 0, none⟩)]] w fun e w' => (∃ i : Int, e = .returned (.int .i64 i) ∧ decide (0 ≤ i) = hcL p l) ∧ Below w.heap.size w w' := by
  have HS := hide hs
  have HCL := hide hcl
  have hl := hs.1
  clear hs hcl
  go_enter Try.func91, Try.ntmps91
  go_wp2_with fail
  go_loopw [8] (fun v wr => IxInv p l w v wr) (fun v wr => l.length - (intOf v).toNat)
  case atStart => exact ⟨0, Nat.zero_le _, rfl, by simp [hcL, preL], Below.refl _ _⟩
  case round =>
    obtain ⟨k, hk, rfl, hT, hb⟩ := hrel
    have HT := hide hT
    have HB := hide hb
    clear hT
    by_cases hlt : k < l.length
    · have hlt2 : (k : Int) < (l.length : Int) := by omega
      obtain ⟨b, o, a', c', rfl, d0, d1, hx⟩ := HS.out.get hb (fun _ _ h => h) k hlt
      obtain ⟨av, cv, ev, hsx⟩ := hx
      simp at ev
      obtain ⟨rfl, rfl⟩ := ev
      have CK := hide (HCL.out l[k] (List.getElem_mem hlt) a' c' wr hb hsx)
      have HTK := hide (hcL_take (p := p) hlt)
      have HYS := hide (hcL_yes (p := p) hlt)
      clear hsx hb
      generalize l[k] = y at *
      go_wp2_with fail
      refine CK.out.mono ?_
      rintro e w1 ⟨rfl, hb1⟩
      have HB1 := hide (HB.out.trans (hb1.mono HB.out.size))
      clear hb1
      cases hm : hcB y p with
      | true =>
        have HF := hide (HYS.out hm)
        go_wp2_with fail
        go_ret
        exact ⟨⟨_, rfl, by rw [HF.out]; simp⟩, HB1.out⟩
      | false =>
        rw [hm] at HTK
        go_wp2_with fail
        go_roundw
        case rel => exact ⟨k + 1, by omega, by go_num, by rw [HTK.out, HT.out]; rfl, HB1.out⟩
        case measure => simp [intOf]; omega
    · have HF : Hid (false = hcL p l) := by
        unfold Hid
        rw [← HT.out, List.take_of_length_le (by omega)]
      go_wp2_with fail
      go_ret
      exact ⟨⟨-1, rfl, by rw [← HF.out]; decide⟩, HB.out⟩

set_option maxHeartbeats 400000 in
theorem containsFunc_of (P : Nat) (p : Tm) (l : List Tm) (a : Option Addr) (c : Nat) (w : World) (X : Nat → Prop) (hs : Sl w X a l)
    (hcl : ∀ x ∈ l, ∀ a' c' w', Below w.heap.size w w' → Sl w' X a' x.args → Calls Try.prog 68 #[.agg #[.string x.name, .slice a' x.args.length c'], .pointer (some ⟨P, 0, none⟩)] w' fun e w'' => e = .returned (.bool (hcB x p)) ∧ Below w'.heap.size w' w'') :
    Calls Try.prog 67 #[.slice a l.length c, .func (.func 68) #[] #[.pointer (some ⟨P, 0, none⟩)]] w fun e w' => e = .returned (.bool (hcL p l)) ∧ Below w.heap.size w w' := by
  have IC := hide (indexFunc_of P p l a c w X hs hcl)
  clear hs hcl
  go_enter Try.func67, Try.ntmps67
  go_wp2_with fail
  refine IC.out.mono ?_
  rintro e w1 ⟨⟨i, rfl, hi⟩, hb1⟩
  have HI := hide hi
  have HB1 := hide hb1
  clear hi hb1
  go_wp2_with fail
  go_ret
  exact ⟨ret_bool (by rw [← HI.out]), HB1.out⟩

set_option maxHeartbeats 400000 in
theorem hasCase_any (p : Tm) (t : Tm) : ∀ (tv pv : Value) (w : World) (X : Nat → Prop), TV w X tv t → TV w X pv p →
    Calls Try.prog 39 #[tv, pv] w fun e w' => e = .returned (.bool (hcB t p)) ∧ Below w.heap.size w w' := by
  induction t using Tm.ind with
  | h s l ih =>
    intro tv pv w X ht hp
    obtain ⟨a, c, rfl, hs⟩ := ht
    obtain ⟨a2, c2, rfl, hs2⟩ := hp
    have IH := hide ih
    have HS := hide hs
    have HS2 := hide hs2
    have HEQ := hide (hcB_eq s l p)
    clear ih hs hs2
    dsimp only
    have HB2 : Hid (Below w.heap.size w ((w.alloc (.cells #[.string s, .slice a l.length c] 25)).alloc (.cells #[.string p.name, .slice a2 p.args.length c2] 25))) := below2 _ _
    have PA := hide ((Blk.new w #[.string s, .slice a l.length c] 25).alloc (.cells #[.string p.name, .slice a2 p.args.length c2] 25))
    have PB : Hid (Blk ((w.alloc (.cells #[.string s, .slice a l.length c] 25)).alloc (.cells #[.string p.name, .slice a2 p.args.length c2] 25)) (w.heap.size + 1) #[.string p.name, .slice a2 p.args.length c2] 25) := by
      have h := Blk.new (w.alloc (.cells #[.string s, .slice a l.length c] 25)) #[.string p.name, .slice a2 p.args.length c2] 25
      unfold Hid
      simpa using h
    have hmf : ∀ (fn : Fn) (first cap : Array Value) (w : World), (Instr.makeFunc fn first cap).run Try.prog w = .ok (.func fn first cap) w := fun _ _ _ _ => rfl
    go_enter Try.func39, Try.ntmps39
    go_wp2_with fail
    generalize (w.alloc (.cells #[.string s, .slice a l.length c] 25)).alloc (.cells #[.string p.name, .slice a2 p.args.length c2] 25) = w2 at *
    refine (isCase_any ⟨s, l⟩ p _ _ w2 X ⟨_, _, rfl, HS.out.later HB2.out⟩ ⟨_, _, rfl, HS2.out.later HB2.out⟩).mono ?_
    rintro e w3 ⟨rfl, hb3⟩
    have HB3 := hide (HB2.out.trans (hb3.mono HB2.out.size))
    have PA3 := hide (PA.out.below hb3 PA.out.lt)
    have PB3 := hide (PB.out.below hb3 PB.out.lt)
    clear hb3
    cases hm : mtB p ⟨s, l⟩ with
    | true =>
      have HF : Hid (true = hcB ⟨s, l⟩ p) := by unfold Hid; rw [HEQ.out, hm]; rfl
      go_wp2_with fail
      go_ret
      exact ⟨ret_bool HF.out, HB3.out⟩
    | false =>
      have HF : Hid (hcL p l = hcB ⟨s, l⟩ p) := by unfold Hid; rw [HEQ.out, hm]; rfl
      have a1 : w3.cell? ⟨w.heap.size, 1, none⟩ = some (.slice a l.length c) := PA3.out.cell 1
      have CF := hide (containsFunc_of (w.heap.size + 1) p l a c w3 X (HS.out.later HB3.out) (fun x hx a' c' w' hb' hsx => by
        have PBx := hide (PB3.out.below hb' PB3.out.lt)
        have b0 : ∀ o, (w'.alloc o).cell? ⟨w.heap.size + 1, 0, none⟩ = some (.string p.name) := fun o => (PBx.out.alloc o).cell 0
        have b1 : ∀ o, (w'.alloc o).cell? ⟨w.heap.size + 1, 1, none⟩ = some (.slice a2 p.args.length c2) := fun o => (PBx.out.alloc o).cell 1
        have IHX := hide (IH.out x hx (.agg #[.string x.name, .slice a' x.args.length c']) (.agg #[.string p.name, .slice a2 p.args.length c2]) (w'.alloc (.cells #[.string x.name, .slice a' x.args.length c'] 25)) X ⟨_, _, rfl, hsx.later ((Below.refl _ _).alloc (Nat.le_refl _) _)⟩ ⟨_, _, rfl, ((HS2.out.later HB3.out).later hb').later ((Below.refl _ _).alloc (Nat.le_refl _) _)⟩)
        clear hsx hb'
        go_enter Try.func68, Try.ntmps68
        go_wp2_with fail
        refine IHX.out.mono ?_
        rintro e w1 ⟨rfl, hb1⟩
        have HB1 := hide (((Below.refl w'.heap.size w').alloc (Nat.le_refl _) _).trans (hb1.mono (by simp)))
        clear hb1
        go_wp2_with fail
        go_ret
        exact ⟨rfl, HB1.out⟩))
      go_wp2_with fail
      refine CF.out.mono ?_
      rintro e w4 ⟨rfl, hb4⟩
      have HB4 := hide (HB3.out.trans (hb4.mono HB3.out.size))
      clear hb4
      go_wp2_with fail
      go_ret
      exact ⟨ret_bool HF.out, HB4.out⟩
#print axioms hasCase_any
end Go.Proofs.Ytpjdkdebjkpmmaj


/- Walks: Match, Variant, Encompasses, whole. -/
namespace Go.Proofs.Ytpjdkdebjkpmmaj
open Go.RowKit
set_option linter.unusedSimpArgs false
set_option linter.unusedVariables false
set_option maxRecDepth 8000

theorem mtT_size_one {p t : Tm} {h h' : List Bd} {n : Nat} (ih : ∀ ts g g', mtL p.args ts g = some g' → sizeL ts ≤ n → (∀ d ∈ g, sizeL [d.t] ≤ n) → ∀ d ∈ g', sizeL [d.t] ≤ n) (he : mtT p t h = some h') (ht : sizeL [t] ≤ n) (ha : ∀ d ∈ h, sizeL [d.t] ≤ n) : ∀ d ∈ h', sizeL [d.t] ≤ n := by
  unfold mtT at he
  split at he
  · split at he
    · split at he
      · cases he; exact ha
      · cases he
    · cases he
      intro d hd
      rcases List.mem_append.1 hd with hd | hd
      · exact ha d hd
      · have e : d = ⟨p.name, t⟩ := by simpa using hd
        rw [e]; exact ht
  · split at he
    · refine ih _ _ _ he ?_ ha
      obtain ⟨s2, m⟩ := t
      simp [sizeL] at ht ⊢
      omega
    · cases he
theorem mtL_size {n : Nat} : ∀ (l ts : List Tm) (h h' : List Bd), mtL l ts h = some h' → sizeL ts ≤ n → (∀ d ∈ h, sizeL [d.t] ≤ n) → ∀ d ∈ h', sizeL [d.t] ≤ n := by
  intro l
  induction l using Tm.indL with
  | h0 => intro ts h h' he _ ha; simp [mtL] at he; subst he; exact ha
  | h s l r ihl ihr =>
    intro ts h h' he ht ha
    cases ts with
    | nil => simp [mtL] at he
    | cons t ts =>
      rw [mtL_cons] at he
      have e1 : sizeL (t :: ts) = sizeL [t] + sizeL ts := by obtain ⟨s2, m⟩ := t; simp [sizeL]
      rw [e1] at ht
      cases hm : mtT ⟨s, l⟩ t h with
      | none => rw [hm] at he; cases he
      | some g =>
        rw [hm] at he
        exact ihr ts g h' he (by omega) (mtT_size_one (p := ⟨s, l⟩) (fun ts g g' h3 h4 h5 => ihl ts g g' h3 h4 h5) hm (by omega) ha)
theorem mtT_size {p t : Tm} {h' : List Bd} (he : mtT p t [] = some h') : ∀ d ∈ h', sizeL [d.t] ≤ sizeL [t] :=
  mtT_size_one (fun ts g g' h3 h4 h5 => mtL_size p.args ts g g' h3 h4 h5) he (Nat.le_refl _) (by simp)
theorem twoE_parts {p t : Tm} (h : twoE p t = 0) : mayE p = 0 ∧ mayE t = 0 := by
  unfold twoE at h
  split at h
  · exact ⟨‹_›, h⟩
  · exact absurd h ‹_›
theorem mayE_size {t : Tm} (h : mayE t = 0) : sizeL [t] ≤ 200 := by
  unfold mayE at h
  split at h
  · cases h
  · omega

def MaPost (w : World) (p t : Tm) (e : Ending) (w' : World) : Prop :=
  Below w.heap.size w w' ∧ ((twoE p t ≠ 0 ∧ e = .returned (.tuple #[.slice none 0 0, .bool false, .int .i64 (twoE p t)])) ∨ (twoE p t = 0 ∧ mtT p t [] = none ∧ e = .returned (.tuple #[.slice none 0 0, .bool false, .int .i64 0])) ∨
    (twoE p t = 0 ∧ ∃ h' v l', mtT p t [] = some h' ∧ e = .returned (.tuple #[v, .bool true, .int .i64 0]) ∧ BV w' (fun b => w.heap.size ≤ b) v l' ∧ l'.Perm h' ∧ SortedB l'))

set_option maxHeartbeats 400000 in
theorem match_any (p t : Tm) (pv tv : Value) (w : World) (X : Nat → Prop) (hp : TV w X pv p) (ht : TV w X tv t) :
    Calls Try.prog 13 #[pv, tv] w fun e w' => MaPost w p t e w' := by
  obtain ⟨a, c, rfl, hs⟩ := hp
  obtain ⟨a2, c2, rfl, hs2⟩ := ht
  have HS := hide hs
  have HS2 := hide hs2
  clear hs hs2
  have HB2 : Hid (Below w.heap.size w ((w.alloc (.cells #[.string p.name, .slice a p.args.length c] 25)).alloc (.cells #[.string t.name, .slice a2 t.args.length c2] 25))) := below2 _ _
  have PA := hide ((Blk.new w #[.string p.name, .slice a p.args.length c] 25).alloc (.cells #[.string t.name, .slice a2 t.args.length c2] 25))
  have PB : Hid (Blk ((w.alloc (.cells #[.string p.name, .slice a p.args.length c] 25)).alloc (.cells #[.string t.name, .slice a2 t.args.length c2] 25)) (w.heap.size + 1) #[.string t.name, .slice a2 t.args.length c2] 25) := by
    have h := Blk.new (w.alloc (.cells #[.string p.name, .slice a p.args.length c] 25)) #[.string t.name, .slice a2 t.args.length c2] 25
    unfold Hid
    simpa using h
  go_enter Try.func13, Try.ntmps13
  go_wp2_with fail
  generalize (w.alloc (.cells #[.string p.name, .slice a p.args.length c] 25)).alloc (.cells #[.string t.name, .slice a2 t.args.length c2] 25) = w2 at *
  refine (mcheck_any p t _ _ w2 X ⟨_, _, rfl, HS.out.later HB2.out⟩ ⟨_, _, rfl, HS2.out.later HB2.out⟩).mono ?_
  rintro e w3 ⟨rfl, hb3⟩
  have HB3 := hide (HB2.out.trans (hb3.mono HB2.out.size))
  have PA3 := hide (PA.out.below hb3 PA.out.lt)
  have PB3 := hide (PB.out.below hb3 PB.out.lt)
  clear hb3
  by_cases h : twoE p t = 0
  case neg =>
    have HE := hide h
    have h2 : (twoE p t == 0) = false := by simpa using h
    clear h
    go_wp2_with fail
    refine bodyPost_ret (v := .tuple #[.slice none 0 0, .bool false, .int .i64 (twoE p t)]) (by simp [results, Try.results13, go_sem]) rfl ?_
    exact ⟨HB3.out, Or.inl ⟨HE.out, rfl⟩⟩
  have HE := hide h
  rw [h]
  clear h
  have a0 : w3.cell? ⟨w.heap.size, 0, none⟩ = some (.string p.name) := PA3.out.cell 0
  have a1 : w3.cell? ⟨w.heap.size, 1, none⟩ = some (.slice a p.args.length c) := PA3.out.cell 1
  have b0 : w3.cell? ⟨w.heap.size + 1, 0, none⟩ = some (.string t.name) := PB3.out.cell 0
  have b1 : w3.cell? ⟨w.heap.size + 1, 1, none⟩ = some (.slice a2 t.args.length c2) := PB3.out.cell 1
  go_wp2_with fail
  refine (fit_any p t _ _ w3 X ⟨_, _, rfl, HS.out.later HB3.out⟩ ⟨_, _, rfl, HS2.out.later HB3.out⟩).mono ?_
  rintro e w4 ⟨hb4, hc4⟩
  have HB4 := hide (HB3.out.trans (hb4.mono HB3.out.size))
  clear hb4 a0 a1 b0 b1
  rcases hc4 with ⟨h0, rfl⟩ | ⟨h', q, Z', h0, rfl, hz', hm'⟩
  · have H0 := hide h0
    clear h0
    go_wp2_with fail
    refine bodyPost_ret (v := .tuple #[.slice none 0 0, .bool false, .int .i64 0]) (by simp [results, Try.results13, go_sem]) rfl ?_
    exact ⟨HB4.out, Or.inr (Or.inl ⟨HE.out, H0.out, rfl⟩)⟩
  · have H0 := hide h0
    have HZ := hide hz'
    have HM := hide hm'
    obtain ⟨hmp, hmt⟩ := twoE_parts HE.out
    have hsz : ∀ x ∈ Z', sizeL [x.1.t] ≤ 1000000 := fun x hx => by
      have h1 := mtT_size h0 x.1 (by rw [← hz']; exact List.mem_map.2 ⟨x, hx, rfl⟩)
      have := mayE_size hmt
      omega
    have hap := mtT_apart h0 List.Pairwise.nil
    have hlen : Z'.length ≤ 1000000 := by
      have h1 := hap.2
      rw [← hz'] at h1
      have := mayE_size hmp
      simp at h1
      omega
    have hapz : ApartB (Z'.map (·.1)) := by rw [hz']; exact hap.1
    have HIO := hide (inOrder_of (hide sortBinds) Z' q w4 _ hm'.1 hm'.2 hsz hlen hapz)
    clear h0 hz' hm' hmp hmt hsz hap hlen hapz
    go_wp2_with fail
    refine HIO.out.mono ?_
    rintro e w5 ⟨v5, l5, rfl, hbv, hp5, hs5, hb5⟩
    have HBV := hide hbv
    have HP5 := hide hp5
    have HS5 := hide hs5
    have HB5 := hide (HB4.out.trans (hb5.mono HB4.out.size))
    have hz4 := HB4.out.size
    clear hbv hp5 hs5 hb5
    go_wp2_with fail
    refine bodyPost_ret (v := .tuple #[v5, .bool true, .int .i64 0]) (by simp [results, Try.results13, go_sem]) rfl ?_
    exact ⟨HB5.out, Or.inr (Or.inr ⟨HE.out, h', v5, l5, H0.out, rfl, HBV.out.mono fun b hb _ => by omega, by rw [← HZ.out]; exact HP5.out, HS5.out⟩)⟩

set_option maxHeartbeats 400000 in
theorem encompasses_any (t p : Tm) (tv pv : Value) (w : World) (X : Nat → Prop) (ht : TV w X tv t) (hp : TV w X pv p) :
    Calls Try.prog 15 #[tv, pv] w fun e w' => e = .returned (.tuple #[.bool (decide (twoE t p = 0) && hcB t p), .int .i64 (twoE t p)]) ∧ Below w.heap.size w w' := by
  obtain ⟨a, c, rfl, hs⟩ := ht
  obtain ⟨a2, c2, rfl, hs2⟩ := hp
  have HS := hide hs
  have HS2 := hide hs2
  clear hs hs2
  generalize hR : (.tuple #[.bool (decide (twoE t p = 0) && hcB t p), .int .i64 (twoE t p)] : Value) = R
  have HR := hide hR
  clear hR
  have HB2 : Hid (Below w.heap.size w ((w.alloc (.cells #[.string t.name, .slice a t.args.length c] 25)).alloc (.cells #[.string p.name, .slice a2 p.args.length c2] 25))) := below2 _ _
  have PA := hide ((Blk.new w #[.string t.name, .slice a t.args.length c] 25).alloc (.cells #[.string p.name, .slice a2 p.args.length c2] 25))
  have PB : Hid (Blk ((w.alloc (.cells #[.string t.name, .slice a t.args.length c] 25)).alloc (.cells #[.string p.name, .slice a2 p.args.length c2] 25)) (w.heap.size + 1) #[.string p.name, .slice a2 p.args.length c2] 25) := by
    have h := Blk.new (w.alloc (.cells #[.string t.name, .slice a t.args.length c] 25)) #[.string p.name, .slice a2 p.args.length c2] 25
    unfold Hid
    simpa using h
  go_enter Try.func15, Try.ntmps15
  go_wp2_with fail
  generalize (w.alloc (.cells #[.string t.name, .slice a t.args.length c] 25)).alloc (.cells #[.string p.name, .slice a2 p.args.length c2] 25) = w2 at *
  refine (mcheck_any t p _ _ w2 X ⟨_, _, rfl, HS.out.later HB2.out⟩ ⟨_, _, rfl, HS2.out.later HB2.out⟩).mono ?_
  rintro e w3 ⟨rfl, hb3⟩
  have HB3 := hide (HB2.out.trans (hb3.mono HB2.out.size))
  have PA3 := hide (PA.out.below hb3 PA.out.lt)
  have PB3 := hide (PB.out.below hb3 PB.out.lt)
  clear hb3
  by_cases h : twoE t p = 0
  case neg =>
    have hR1 : Hid (.tuple #[.bool false, .int .i64 (twoE t p)] = R) := by unfold Hid; rw [← HR.out]; simp [h]
    have h2 : (twoE t p == 0) = false := by simpa using h
    clear h
    go_wp2_with fail
    refine bodyPost_ret (v := .tuple #[.bool false, .int .i64 (twoE t p)]) (by simp [results, Try.results15, go_sem]) rfl ?_
    exact ⟨by rw [← hR1.out], HB3.out⟩
  have hR1 : Hid (.tuple #[.bool (hcB t p), .int .i64 0] = R) := by unfold Hid; rw [← HR.out, h]; simp
  rw [h]
  clear h
  have a0 : w3.cell? ⟨w.heap.size, 0, none⟩ = some (.string t.name) := PA3.out.cell 0
  have a1 : w3.cell? ⟨w.heap.size, 1, none⟩ = some (.slice a t.args.length c) := PA3.out.cell 1
  have b0 : w3.cell? ⟨w.heap.size + 1, 0, none⟩ = some (.string p.name) := PB3.out.cell 0
  have b1 : w3.cell? ⟨w.heap.size + 1, 1, none⟩ = some (.slice a2 p.args.length c2) := PB3.out.cell 1
  go_wp2_with fail
  refine (hasCase_any p t _ _ w3 X ⟨_, _, rfl, HS.out.later HB3.out⟩ ⟨_, _, rfl, HS2.out.later HB3.out⟩).mono ?_
  rintro e w4 ⟨rfl, hb4⟩
  have HB4 := hide (HB3.out.trans (hb4.mono HB3.out.size))
  clear hb4
  go_wp2_with fail
  refine bodyPost_ret (v := .tuple #[.bool (hcB t p), .int .i64 0]) (by simp [results, Try.results15, go_sem]) rfl ?_
  exact ⟨by rw [← hR1.out], HB4.out⟩
#print axioms match_any
#print axioms encompasses_any
end Go.Proofs.Ytpjdkdebjkpmmaj


/- Walks: what stands for itself is struck out of a map. -/
namespace Go.Proofs.Ytpjdkdebjkpmmaj
open Go.RowKit
set_option linter.unusedSimpArgs false
set_option linter.unusedVariables false
set_option maxRecDepth 8000

/-- A binding of which something is seen. -/
def keepB (d : Bd) : Bool := !(d.t.name.toList == d.nm.toList)

theorem mapGet_toP {Z : List Bc} (ha : ApartB (Z.map (·.1))) : ∀ x ∈ Z, mapGet (Z.map toP) x.1.nm = some (toP x).2 := by
  induction Z with
  | nil => intro x hx; cases hx
  | cons y r ih =>
    intro x hx
    simp only [List.map_cons] at ha ⊢
    obtain ⟨h1, h2⟩ := List.pairwise_cons.1 ha
    rcases List.mem_cons.1 hx with rfl | hx
    · simp [mapGet, toP]
    · have hne : y.1.nm ≠ x.1.nm := h1 x.1 (List.mem_map.2 ⟨x, hx, rfl⟩)
      rw [mapGet, if_neg (by simpa [toP] using hne)]
      exact ih h2 x hx
theorem delP_toP {Z : List Bc} (ha : ApartB (Z.map (·.1))) : ∀ x ∈ Z, ∃ Z' : List Bc, delP (Z.map toP) x.1.nm = Z'.map toP ∧ Z.Perm (x :: Z') := by
  induction Z with
  | nil => intro x hx; cases hx
  | cons y r ih =>
    intro x hx
    simp only [List.map_cons] at ha ⊢
    obtain ⟨h1, h2⟩ := List.pairwise_cons.1 ha
    rcases List.mem_cons.1 hx with rfl | hx
    · exact ⟨r, by simp [delP, toP], List.Perm.refl _⟩
    · have hne : y.1.nm ≠ x.1.nm := h1 x.1 (List.mem_map.2 ⟨x, hx, rfl⟩)
      obtain ⟨Z', h3, h4⟩ := ih h2 x hx
      refine ⟨y :: Z', ?_, (h4.cons y).trans (List.Perm.swap x y Z')⟩
      rw [delP, if_neg (by simpa [toP] using hne), h3]; rfl

def DfInv (w : World) (Z : List Bc) (b : Nat) (wr : World) : Prop :=
  ∃ Zc Zr K : List Bc, RangeAt wr b w.heap.size (Zc.map toP) (Zr.map toP) ∧ Zc.Perm (K ++ Zr) ∧ (K ++ Zr.filter (fun x => keepB x.1)).Perm (Z.filter fun x => keepB x.1) ∧ ApartB (Zc.map (·.1)) ∧ w.grownBy wr (some b)

end Go.Proofs.Ytpjdkdebjkpmmaj


/- Walks: Then. -/
namespace Go.Proofs.Ytpjdkdebjkpmmaj
open Go.RowKit
set_option linter.unusedSimpArgs false
set_option linter.unusedVariables false
set_option maxRecDepth 8000

theorem pairsL_Z {w : World} {X : Nat → Prop} : ∀ {ls : List Bd} {L : List (ByteArray × Value)}, PairsL w X ls L → ∃ Z : List Bc, L = Z.map toP ∧ Z.map (·.1) = ls ∧ ∀ x ∈ Z, Sl w X x.2.1 x.1.t.args
  | [], L, h => by
    have e : L = [] := h
    subst e
    exact ⟨[], rfl, rfl, by simp⟩
  | d :: r, L, h => by
    obtain ⟨a, c, L', rfl, h1, h2⟩ := h
    obtain ⟨Z, rfl, e, h3⟩ := pairsL_Z h2
    refine ⟨(d, a, c) :: Z, rfl, by simp [e], fun x hx => ?_⟩
    rcases List.mem_cons.1 hx with rfl | hx
    · exact h1
    · exact h3 x hx

/-- A binding with another list of them in its term. -/
def fB (rs : List Bd) (d : Bd) : Bd := ⟨d.nm, fT rs d.t⟩
/-- Is one of the terms too great? -/
def fullB (ls rs : List Bd) : Bool := ls.any fun d => decide (2000 < sizeL [fT rs d.t])
theorem fullB_yes {ls rs : List Bd} {k : Nat} (h : k < ls.length) (h0 : 2000 < sizeL [fT rs ls[k].t]) : fullB ls rs = true := by
  unfold fullB
  rw [List.any_eq_true]
  exact ⟨ls[k], List.getElem_mem h, by simpa using h0⟩
theorem fullB_no {ls rs : List Bd} (h : ∀ d ∈ ls, sizeL [fT rs d.t] ≤ 2000) : fullB ls rs = false := by
  unfold fullB
  rw [List.any_eq_false]
  intro d hd
  have := h d hd
  simp; omega
/-- Both, before what stands for itself is struck. -/
def bothB (ls rs : List Bd) : List Bd := ls.map (fB rs) ++ rs.filter fun d => (forT ls d.nm).isNone
def ThPost (w : World) (ls rs : List Bd) (e : Ending) (w' : World) : Prop :=
  Below w.heap.size w w' ∧ ((bindsE ls ≠ 0 ∧ e = .returned (.tuple #[.slice none 0 0, .int .i64 (bindsE ls)])) ∨ (bindsE ls = 0 ∧ bindsE rs ≠ 0 ∧ e = .returned (.tuple #[.slice none 0 0, .int .i64 (bindsE rs)])) ∨
    (bindsE ls = 0 ∧ bindsE rs = 0 ∧ fullB ls rs = true ∧ e = .returned (.tuple #[.slice none 0 0, .int .i64 8])) ∨
    (bindsE ls = 0 ∧ bindsE rs = 0 ∧ fullB ls rs = false ∧ ∃ v ls', e = .returned (.tuple #[v, .int .i64 0]) ∧ BV w' (fun b => w.heap.size ≤ b) v ls' ∧ ls'.Perm ((bothB ls rs).filter keepB) ∧ SortedB ls'))

theorem bindsE_sorted {ls : List Bd} (h : bindsE ls = 0) : SortedB ls := by
  unfold SortedB
  rw [List.pairwise_iff_getElem]
  intro i j hi hj hij
  obtain ⟨e, rfl⟩ : ∃ e, j = i + 1 + e := ⟨j - (i + 1), by omega⟩
  have h1 := bindsE_far h i e hj
  unfold leB at h1
  simp only [Bool.or_eq_false_iff] at h1
  cases h2 : ltB ls[i].nm ls[i + 1 + e].nm with
  | true => rfl
  | false =>
    have e2 := ltB_conn h2 h1.1
    rw [e2] at h1
    simp at h1
theorem mapGet_no {Z : List Bc} {n : ByteArray} (h : ∀ x ∈ Z, x.1.nm ≠ n) : mapGet (Z.map toP) n = none := by
  induction Z with
  | nil => rfl
  | cons y r ih =>
    rw [List.map_cons, mapGet, if_neg (by simpa [toP] using h y (by simp))]
    exact ih fun x hx => h x (by simp [hx])
/-- What the region of the first loop leaves. -/
def ThB (w4 : World) (P : Nat) (s : ByteArray) (a : Option Addr) (n c : Nat) (l0 : List Tm) (w9 : World) : Prop := Blk w9 P #[.string s, .slice a n c] 25 ∧ Below w4.heap.size w4 w9 ∧ Sl w9 (fun b => w4.heap.size ≤ b) a l0
theorem thB_set {w4 w8 : World} {P Q n c : Nat} {s : ByteArray} {a : Option Addr} {l0 : List Tm} (hP : Blk w8 P #[.string ⟨#[]⟩, .slice none 0 0] 25) (hw : w4.heap.size ≤ P) (hb : Below w4.heap.size w4 w8) (hs : Sl w8 (fun b => Q ≤ b) a l0) (hQ : P < Q) :
    ThB w4 P s a n c l0 ((w8.setCell ⟨P, 0, none⟩ (.string s)).setCell ⟨P, 1, none⟩ (.slice a n c)) :=
  ⟨(hP.set 0 _).set 1 _, (hb.setCell (by simpa using hw) _).setCell (by simpa using hw) _, (hs.kept fun b hb => by
    rw [Below.heap_setCell _ _ _ _ (by simp; omega), Below.heap_setCell _ _ _ _ (by simp; omega)]).mono fun b hb _ => by omega⟩
/-- What is known in the first loop. -/
def T1Inv (w3 : World) (ls rs : List Bd) (v : Value) (wr : World) : Prop :=
  ∃ (k : Nat) (Z : List Bc), v = .int .i64 (k : Int) ∧ k ≤ ls.length ∧ MapAt wr w3.heap.size (Z.map toP) ∧ Z.map (·.1) = (ls.take k).map (fB rs) ∧ (∀ x ∈ Z, Sl wr (fun b => w3.heap.size < b) x.2.1 x.1.t.args) ∧ (∀ d ∈ ls.take k, sizeL [fT rs d.t] ≤ 2000) ∧ Below w3.heap.size w3 wr

/-- What is known in the second loop. -/
def T2Inv (w3 w5 : World) (q I : Nat) (ls : List Bd) (Z Zq : List Bc) (wr : World) : Prop :=
  ∃ Zr K Zb : List Bc, RangeAt wr q I (Zq.map toP) (Zr.map toP) ∧ Zq.Perm (K ++ Zr) ∧ MapAt wr w3.heap.size (Zb.map toP) ∧ Zb.Perm (Z ++ K.filter fun x => (forT ls x.1.nm).isNone) ∧ ApartB (Zb.map (·.1)) ∧ Below w3.heap.size w3 wr ∧ (∀ b, b < I → b ≠ w3.heap.size → wr.heap[b]? = w5.heap[b]?)
theorem bindsE_len {ls : List Bd} (h : bindsE ls = 0) : ls.length ≤ 40 := by
  unfold bindsE at h
  split at h
  · cases h
  · omega
end Go.Proofs.Ytpjdkdebjkpmmaj

/- What matching an instance finds: plain. -/
namespace Go.Proofs.Ytpjdkdebjkpmmaj
open Go.RowKit
set_option linter.unusedSimpArgs false
set_option linter.unusedVariables false

theorem eqL_refl : ∀ l : List Tm, eqL l l = true := by
  intro l
  induction l using Tm.indL with
  | h0 => simp [eqL]
  | h s l r ihl ihr => simp [eqL, ihl, ihr]
theorem sameB_refl (t : Tm) : sameB t t = true := by simp [sameB, eqL_refl]

/-- What stands there is what the bindings put for it. -/
def Con (ls h : List Bd) : Prop := ∀ d ∈ h, d.t = onT ls ⟨d.nm, []⟩
theorem forT_inB {h : List Bd} {s : ByteArray} : (forT h s).isSome = inB s (h.map (·.nm)) := by
  induction h with
  | nil => rfl
  | cons d r ih =>
    by_cases e : d.nm = s
    · simp [forT, inB, e]
    · have hb := bytes_no e
      simp only [forT, e, if_false, List.map_cons, inB, List.any_cons, hb, Bool.false_or]
      exact ih
theorem onT_sym {ls : List Bd} (h : bindsE ls = 0) {s : ByteArray} (hs : varB s = false) (l : List Tm) : onT ls ⟨s, l⟩ = ⟨s, onL ls l⟩ := by
  refine onT_deep (Or.inr ?_)
  cases hf : forT ls s with
  | none => rfl
  | some x => rw [(forT_var h hf).1] at hs; cases hs

theorem mtL_on {ls : List Bd} (hE : bindsE ls = 0) : ∀ (l : List Tm) (h : List Bd), errL l = 0 → Con ls h → ∃ h', mtL l (onL ls l) h = some h' ∧ Con ls h' ∧ h'.map (·.nm) = varsP (h.map (·.nm)) (preL l) := by
  intro l
  induction l using Tm.indL with
  | h0 => intro h _ hc; exact ⟨h, by simp [mtL, onL], hc, by simp [varsP, preL]⟩
  | h s l r ihl ihr =>
    intro h he hc
    obtain ⟨h1, h2, h3⟩ := errL_parts he
    have key : ∃ g, mtT ⟨s, l⟩ (onT ls ⟨s, l⟩) h = some g ∧ Con ls g ∧ g.map (·.nm) = varsP (h.map (·.nm)) (⟨s, l⟩ :: preL l) := by
      cases hv : varB s with
      | true =>
        have hl := h1 hv
        subst hl
        cases hf : forT h s with
        | some x =>
          obtain ⟨d, hd, hn, ht⟩ := forT_mem hf
          have hx : x = onT ls ⟨s, []⟩ := by rw [← ht, hc d hd, hn]
          refine ⟨h, ?_, hc, ?_⟩
          · rw [mtT_old hv hf, hx, if_pos (sameB_refl _)]
          · have hin : inB s (h.map (·.nm)) = true := by rw [← forT_inB, hf]; rfl
            show _ = varsP (addV (h.map (·.nm)) s) (preL [])
            rw [addV_in hv hin]
            simp [varsP, preL]
        | none =>
          refine ⟨h ++ [⟨s, onT ls ⟨s, []⟩⟩], mtT_new hv hf, fun d hd => ?_, ?_⟩
          · rcases List.mem_append.1 hd with hd | hd
            · exact hc d hd
            · have e : d = ⟨s, onT ls ⟨s, []⟩⟩ := by simpa using hd
              rw [e]
          · have hin : inB s (h.map (·.nm)) = false := by rw [← forT_inB, hf]; rfl
            show _ = varsP (addV (h.map (·.nm)) s) (preL [])
            rw [addV_yes hv hin]
            simp [varsP, preL]
      | false =>
        obtain ⟨g, g1, g2, g3⟩ := ihl h h2 hc
        refine ⟨g, ?_, g2, ?_⟩
        · rw [onT_sym hE hv, mtT_deep hv (by simp) (onL_length ls l).symm]
          exact g1
        · show _ = varsP (addV (h.map (·.nm)) s) (preL l)
          rw [addV_no hv]
          exact g3
    obtain ⟨g, g1, g2, g3⟩ := key
    obtain ⟨h', k1, k2, k3⟩ := ihr g h3 g2
    refine ⟨h', ?_, k2, ?_⟩
    · rw [onL_cons, mtL_cons, g1]
      exact k1
    · rw [k3, g3, preL]
      rw [show (⟨s, l⟩ :: (preL l ++ preL r) : List Tm) = (⟨s, l⟩ :: preL l) ++ preL r from rfl, varsP_append]
theorem mtT_on {ls : List Bd} (hE : bindsE ls = 0) {p : Tm} (he : errL [p] = 0) : ∃ h', mtT p (onT ls p) [] = some h' ∧ Con ls h' ∧ h'.map (·.nm) = varsP [] (preL [p]) := by
  obtain ⟨h', h1, h2, h3⟩ := mtL_on hE [p] [] he (by intro d hd; cases hd)
  refine ⟨h', ?_, h2, h3⟩
  rw [onL_cons, mtL_cons] at h1
  cases hm : mtT p (onT ls p) [] with
  | none => rw [hm] at h1; cases h1
  | some g => rw [hm] at h1; simpa [mtL] using h1

#print axioms mtT_on
end Go.Proofs.Ytpjdkdebjkpmmaj

/- Walks: a term out of raw numbers, and the law on all its places. -/
namespace Go.Proofs.Ytpjdkdebjkpmmaj
open Go.RowKit
set_option linter.unusedSimpArgs false
set_option linter.unusedVariables false
set_option maxRecDepth 8000

theorem one_world {w w5 : World} {Z : Nat → Prop} {a : Option Addr} {l : List Tm} {v0 v1 : Value} {o1 : Obj} (hs : Sl w5 Z a l) (hZ : ∀ b, Z b → w.heap.size < b) : Sl (((w5.setCell ⟨w.heap.size, 0, none⟩ v0).setCell ⟨w.heap.size, 1, none⟩ v1).alloc o1) (fun b => Z b ∧ b < w5.heap.size) a l := by
  refine (hs.mono (Y := fun b => Z b ∧ b < w5.heap.size) fun b h1 h2 => ⟨h1, h2⟩).kept fun b hb => ?_
  have := hZ b hb.1
  rw [Below.heap_alloc _ _ _ (by simp [World.setCell]; omega), Below.heap_setCell _ _ _ _ (by simp; omega), Below.heap_setCell _ _ _ _ (by simp; omega)]

theorem termOfV_any (nv : Nat) (hnv : 1 ≤ nv) (hnv4 : nv ≤ 4) (zs : List Int) (hr : ∀ z ∈ zs, Rng z) (hzl : zs.length ≤ 1000000) (m i : Nat) (u : Value) (w : World) (X : Nat → Prop) (hu : PV w X u zs) (hm : m ≤ 100) (hi : i + top m ≤ 1000) :
    Calls Try.prog 8 #[u, .int .i64 (i : Int), .int .i64 (m : Int), .int .i64 (nv : Int)] w fun e w' => ∃ (t : Tm) (a : Option Addr) (c : Nat), e = .returned (.agg #[.string t.name, .slice a t.args.length c]) ∧ Sl w' (fun b => w.heap.size ≤ b) a t.args ∧ sizeL [t] ≤ top m ∧ Below w.heap.size w w' ∧ okV nv [t] := by
  have HU := hide hu
  clear hu
  go_enter Try.func8, Try.ntmps8
  go_wp2_with fail
  refine (growV_any nv hnv hnv4 zs hr hzl m i u _ X (by exact HU.out.alloc _) hm hi).mono ?_
  rintro e w5 ⟨a5, c5, n5, t5, rfl, hs5, hc5, hc5', hz5, hn5, hn5', hb5, he5⟩
  have HE5 := hide he5
  clear he5
  have R5 := hide ((Blk.new w #[.string ⟨#[]⟩, .slice none 0 0] 25).below hb5 (by simp))
  have B5 := hide (((Below.refl w.heap.size w).alloc (Nat.le_refl _) (.cells #[.string ⟨#[]⟩, .slice none 0 0] 25)).trans (hb5.mono (by simp)))
  have S5 := hide hs5
  have hlt5 : w.heap.size < w5.heap.size := R5.out.lt
  clear hb5 hs5
  have r0 : w5.cell? ⟨w.heap.size, 0, none⟩ = some (.string ⟨#[]⟩) := R5.out.cell 0
  have r1 : w5.cell? ⟨w.heap.size, 1, none⟩ = some (.slice none 0 0) := R5.out.cell 1
  have rf := R5.out.frozen
  go_wp2_with fail
  refine bodyPost_ret (v := .agg #[.string t5.name, .slice a5 t5.args.length c5]) (by simp [results, Try.results8, go_sem, World.cell?_setCell_same, World.cell?_setCell_other, r0, r1, hlt5, World.cell?_alloc_old]) rfl ?_
  refine ⟨t5, a5, c5, rfl, (one_world S5.out (fun b hb => ?_)).mono (fun b hb _ => ?_), hz5, ?_, HE5.out⟩
  · simp at hb; omega
  · have := hb.1; simp at this; omega
  · exact ((B5.out.setCell (by simp) _).setCell (by simp) _).alloc (by simp [World.setCell]; omega) _

theorem termOf_any (nv : Nat) (hnv : 1 ≤ nv) (hnv4 : nv ≤ 4) (zs : List Int) (hr : ∀ z ∈ zs, Rng z) (hzl : zs.length ≤ 1000000) (m i : Nat) (u : Value) (w : World) (X : Nat → Prop) (hu : PV w X u zs) (hm : m ≤ 100) (hi : i + top m ≤ 1000) :
    Calls Try.prog 8 #[u, .int .i64 (i : Int), .int .i64 (m : Int), .int .i64 (nv : Int)] w fun e w' => ∃ (t : Tm) (a : Option Addr) (c : Nat), e = .returned (.agg #[.string t.name, .slice a t.args.length c]) ∧ Sl w' (fun b => w.heap.size ≤ b) a t.args ∧ sizeL [t] ≤ top m ∧ Below w.heap.size w w' ∧ errL [t] = 0 := by
  refine (termOfV_any nv hnv hnv4 zs hr hzl m i u w X hu hm hi).mono ?_
  rintro e w' ⟨t, a, c, rfl, h1, h2, h3, h4⟩
  exact ⟨t, a, c, rfl, h1, h2, h3, h4.1⟩
end Go.Proofs.Ytpjdkdebjkpmmaj

/- Walks: bindings out of raw numbers. -/
namespace Go.Proofs.Ytpjdkdebjkpmmaj
open Go.RowKit
set_option linter.unusedSimpArgs false
set_option linter.unusedVariables false
set_option maxRecDepth 8000

/-- The names of made bindings. -/
def four : List ByteArray := [⟨#[85]⟩, ⟨#[88]⟩, ⟨#[89]⟩, ⟨#[90]⟩]
theorem four_at (k : Nat) (h : k < 4) : ∃ s, (#[Value.string ⟨#[85]⟩, .string ⟨#[88]⟩, .string ⟨#[89]⟩, .string ⟨#[90]⟩] : Array Value)[k]? = some (.string s) ∧ four.take (k + 1) = four.take k ++ [s] := by
  match k, h with
  | 0, _ => exact ⟨_, rfl, rfl⟩
  | 1, _ => exact ⟨_, rfl, rfl⟩
  | 2, _ => exact ⟨_, rfl, rfl⟩
  | 3, _ => exact ⟨_, rfl, rfl⟩
def BfInv (w : World) (m : Nat) (u v : Value) (wr : World) : Prop :=
  ∃ (k : Nat) (cs : List Bc), k ≤ 4 ∧ v = .int .i64 (k : Int) ∧ BRow wr (w.heap.size + 1) (fun _ => False) u cs ∧ (cs.map fun x => x.1.nm).Sublist (four.take k) ∧ (∀ x ∈ cs, sizeL [x.1.t] ≤ top m ∧ errL [x.1.t] = 0) ∧ Blk wr w.heap.size #[.string ⟨#[85]⟩, .string ⟨#[88]⟩, .string ⟨#[89]⟩, .string ⟨#[90]⟩] 9 ∧ Below w.heap.size w wr

set_option maxHeartbeats 1000000 in
theorem bindsFrom_any (nv : Nat) (hnv : 1 ≤ nv) (hnv4 : nv ≤ 4) (zs : List Int) (hr : ∀ z ∈ zs, Rng z) (hzl : zs.length ≤ 1000000) (m i : Nat) (u : Value) (w : World) (X : Nat → Prop) (hu : PV w X u zs) (hm : m ≤ 100) (hi : i + 30 + top m ≤ 1000) :
    Calls Try.prog 11 #[u, .int .i64 (i : Int), .int .i64 (m : Int), .int .i64 (nv : Int)] w fun e w' => ∃ v ls, e = .returned v ∧ BV w' (fun b => w.heap.size ≤ b) v ls ∧ (ls.map (·.nm)).Sublist four ∧ (∀ d ∈ ls, sizeL [d.t] ≤ top m ∧ errL [d.t] = 0) ∧ Below w.heap.size w w' := by
  have HU := hide hu
  clear hu
  obtain ⟨i0, hi0, hz0, hz1, hz2⟩ := info_parts Try.infoBind
  go_enter Try.func11, Try.ntmps11
  go_wp2_with fail
  go_loopw [9, 11] (fun u v wr => BfInv w m u v wr) (fun u v wr => 4 - (intOf v).toNat)
  case atStart => exact ⟨0, [], by omega, rfl, BRow.start _ _ _, by simp, by simp, Blk.new w _ _, (Below.refl _ _).alloc (Nat.le_refl _) _⟩
  case round =>
    obtain ⟨k, cs, hk, rfl, hrow, hnm, hall, hnb, hb⟩ := hrel
    have HROW := hide hrow
    have HNM := hide hnm
    have HALL := hide hall
    have HNB := hide hnb
    have HB := hide hb
    clear hrow hnm hall hnb
    by_cases hlt : k < 4
    · have hlt2 : (k : Int) < 4 := by omega
      have RA := hide (raw_any zs u wr X (HU.out.later hb) hr (i + k) (by omega) hzl)
      have e1 : ((i + k : Nat) : Int) = (i : Int) + (k : Int) := by omega
      rw [e1] at RA
      clear hb e1
      go_wp2_with fail
      refine RA.out.mono ?_
      rintro e w1 ⟨c1, rfl, hc1, hb1⟩
      have HB1 := hide (HB.out.trans (hb1.mono HB.out.size))
      have HROW1 := hide (HROW.out.below hb1)
      have HNB1 := hide (HNB.out.below hb1 HNB.out.lt)
      clear hb1
      go_wp2_with fail
      refine (pick_any _ 4 (by decide) (by decide) ⟨by omega, by omega⟩ _).mono ?_
      rintro e w2 ⟨k2, rfl, hk2, rfl⟩
      by_cases hk0 : 0 < k2
      · have hk0I : (0 : Int) < (k2 : Int) := by omega
        obtain ⟨s, hs4, htk⟩ := four_at k hlt
        have hn0 : w2.cell? ⟨w.heap.size, k, none⟩ = some (.string s) := (HNB1.out.cell k).trans hs4
        have HTK := hide htk
        clear hs4 htk
        have hw1 : IntKind.i64.wrap ((i : Int) + 4) = (i : Int) + 4 := by rw [IntKind.wrap_i64]; omega
        have hw2 : IntKind.i64.wrap (7 * (k : Int)) = 7 * (k : Int) := by rw [IntKind.wrap_i64]; omega
        have hw3 : IntKind.i64.wrap ((i : Int) + 4 + 7 * (k : Int)) = (i : Int) + 4 + 7 * (k : Int) := by rw [IntKind.wrap_i64]; omega
        have hlenc : cs.length ≤ 4 := by
          have h := HNM.out.length_le
          simp [four] at h
          omega
        have TO := hide (termOf_any nv hnv hnv4 zs hr hzl m (i + 4 + 7 * k) u w2.drew X (by exact (HU.out.later HB1.out).later (below_drewN (Below.refl _ _) 1)) hm (by omega))
        have e1 : ((i + 4 + 7 * k : Nat) : Int) = (i : Int) + 4 + 7 * (k : Int) := by omega
        rw [e1] at TO
        clear e1
        go_wp2_with fail
        go_region_law (first
          | (go_simp; go_at_call 8; refine TO.out.mono ?_; rintro e w5 ⟨t5, a5, c5, rfl, hs5, hz5, hb5, he5⟩; have hn5 : w5.cell? ⟨w.heap.size, k, none⟩ = some (.string s) := ((HNB1.out.drewN 1).below hb5 (by have := HNB1.out.lt; simp; omega)).cell k ▸ (HNB1.out.cell k) ▸ hn0)
          | (refine step_append_lies _ rfl _ _ 30 rfl (w.heap.size + 1) 46 i0 _ 3 56 Try.underlying30 hi0 hz0 hz1 hz2 rfl (by decide) u9 cs.length (flat3 cs) rfl (by exact ((HROW1.out.below (below_drewN (Below.refl _ _) 1)).below hb5).own.alloc _) ⟨w5.heap.size, 0, none⟩ 1 1 (enc3 (⟨s, t5⟩, a5, c5)) rfl rfl (cell_three_new _ _ _ _ _) (fun x hx => by simp [enc3] at hx; rcases hx with rfl | rfl | rfl <;> rfl) (by decide) (by unfold maxLen; omega) (by omega) (by have := hb5.size; have := HNB1.out.lt; simp at *; omega) _ rfl ?_; intro g cap w6 hown6 hgrow6 hat6 hlt6))
        all_goals
          have hb25 : Below w2.heap.size w2 w5 := (below_drewN (Below.refl _ _) 1).trans (hb5.mono (by simp))
          have hN2 : w.heap.size + 1 ≤ w2.heap.size := HNB1.out.lt
          have hz25 := hb25.size
          have HR6 := hide (HROW1.out.push (w1 := w5) (x := (⟨s, t5⟩, a5, c5)) hN2 (fun _ h => h.elim) hb25 (hs5.mono fun b hb _ => Or.inr (by simpa using hb)) _ rfl hown6 hgrow6 hat6)
          have hltr := HROW1.out.own.lt
          have HB6 : Hid (Below w.heap.size w w6) := ((HB1.out.trans (hb25.mono HB1.out.size)).alloc (by omega) _).grown hgrow6 (by simp; omega) (fun j hj => by have := (hltr j hj).1; omega)
          have HNB6 : Hid (Blk w6 w.heap.size #[.string ⟨#[85]⟩, .string ⟨#[88]⟩, .string ⟨#[89]⟩, .string ⟨#[90]⟩] 9) := ((HNB1.out.below hb25 HNB1.out.lt).alloc _).grown hgrow6 (HROW1.out.ne (Nat.lt_succ_self _))
          have HN6 : Hid (((cs ++ [((⟨s, t5⟩, a5, c5) : Bc)]).map fun x : Bc => x.1.nm).Sublist (four.take (k + 1))) := by
            unfold Hid
            rw [HTK.out, List.map_append]
            exact HNM.out.append (List.Sublist.refl _)
          have HA6 : Hid (∀ x ∈ cs ++ [((⟨s, t5⟩, a5, c5) : Bc)], sizeL [x.1.t] ≤ top m ∧ errL [x.1.t] = 0) := fun x hx => by
            rcases List.mem_append.1 hx with hx | hx
            · exact HALL.out x hx
            · have e : x = (⟨s, t5⟩, a5, c5) := by simpa using hx
              subst e
              exact ⟨hz5, he5⟩
          clear hown6 hgrow6 hat6 hlt6 hb5 hb25 hs5 hn5
          go_wp2_with fail
          go_roundw
          case rel => exact ⟨k + 1, _, by omega, by go_num, HR6.out, HN6.out, HA6.out, HNB6.out, HB6.out⟩
          case measure => simp [intOf]; omega
      · have hk0I : ¬ (0 : Int) < (k2 : Int) := by omega
        have HN : Hid ((cs.map fun x => x.1.nm).Sublist (four.take (k + 1))) := HNM.out.trans (List.take_sublist_take_left (by omega))
        go_wp2_with fail
        go_roundw
        case rel => exact ⟨k + 1, cs, by omega, by go_num, HROW1.out, HN.out, HALL.out, HNB1.out, HB1.out⟩
        case measure => simp [intOf]; omega
    · have HN : Hid ((cs.map fun x => x.1.nm).Sublist four) := by
        have h := HNM.out
        rwa [List.take_of_length_le (by simp [four]; omega)] at h
      go_wp2_with fail
      go_ret
      exact ⟨_, _, rfl, HROW.out.bv.mono (fun b hb _ => by rcases hb with h | h; exact h.elim; omega), by rw [List.map_map]; exact HN.out, fun d hd => by obtain ⟨x, hx, rfl⟩ := List.mem_map.1 hd; exact HALL.out x hx, HB.out⟩
#print axioms bindsFrom_any
end Go.Proofs.Ytpjdkdebjkpmmaj

/- What matching an instance finds, put into the pattern: plain. -/
namespace Go.Proofs.Ytpjdkdebjkpmmaj
open Go.RowKit
set_option linter.unusedSimpArgs false
set_option linter.unusedVariables false

theorem errL_on {ls : List Bd} (hE : bindsE ls = 0) : ∀ l : List Tm, errL l = 0 → errL (onL ls l) = 0 := by
  intro l
  induction l using Tm.indL with
  | h0 => intro _; simp [onL, errL]
  | h s l r ihl ihr =>
    intro he
    obtain ⟨h1, h2, h3⟩ := errL_parts he
    have hn := errL_name he
    rw [onL_cons]
    have key : errL [onT ls ⟨s, l⟩] = 0 := by
      cases hv : varB s with
      | false => rw [onT_sym hE hv]; exact err_node hn hv (ihl h2)
      | true =>
        have hl := h1 hv
        subst hl
        cases hf : forT ls s with
        | none =>
          rw [onT_deep (Or.inr hf)]
          simpa [onL] using err_leaf hn
        | some x =>
          rw [onT_some hf]
          have hm := (forT_var hE hf).2
          unfold mayE at hm
          split at hm
          · cases hm
          · exact hm
    rw [errL_cons, if_pos key]
    exact ihr h3
theorem errL_onT {ls : List Bd} (hE : bindsE ls = 0) {p : Tm} (he : errL [p] = 0) : errL [onT ls p] = 0 := by
  have h := errL_on hE [p] he
  rw [onL_cons] at h
  simpa [onL] using h
theorem preL_err : ∀ l : List Tm, errL l = 0 → ∀ k ∈ preL l, nameB k.name = true := by
  intro l
  induction l using Tm.indL with
  | h0 => intro _ k hk; simp [preL] at hk
  | h s l r ihl ihr =>
    intro he k hk
    obtain ⟨h1, h2, h3⟩ := errL_parts he
    rw [preL] at hk
    rcases List.mem_cons.1 hk with rfl | hk
    · exact errL_name he
    · rcases List.mem_append.1 hk with hk | hk
      · exact ihl h2 k hk
      · exact ihr h3 k hk
theorem mayE_mk {t : Tm} (he : errL [t] = 0) (hs : sizeL [t] ≤ 200) : mayE t = 0 := by
  unfold mayE
  rw [if_neg (by omega)]; exact he
theorem mayE_err {t : Tm} (h : mayE t = 0) : errL [t] = 0 := by
  unfold mayE at h
  split at h
  · cases h
  · exact h
theorem ltB_leB {a b : ByteArray} (h : ltB a b = true) : leB b a = false := by
  unfold leB
  have h1 : Op.bytesLess b.toList a.toList = false := ltB_asymm h
  rw [h1, Bool.false_or]
  cases he : (b.toList == a.toList) with
  | false => rfl
  | true =>
    have e : b = a := bytes_inj (by simpa using he)
    rw [e, ltB_irrefl] at h; cases h
theorem bindsE_mk {l : List Bd} (hs : SortedB l) (hl : l.length ≤ 40) (ha : ∀ d ∈ l, (nameB d.nm && varB d.nm) = true ∧ mayE d.t = 0) : bindsE l = 0 := by
  unfold bindsE
  rw [if_neg (by omega)]
  have key : ∀ n, n ≤ l.length → bmT l n = 0 := by
    intro n
    induction n with
    | zero => intro _; rfl
    | succ n ih =>
      intro hn
      refine bmT_next (ih (by omega)) ?_
      have hk : n < l.length := by omega
      obtain ⟨h1, h2⟩ := ha l[n] (List.getElem_mem hk)
      cases n with
      | zero => rw [bmK_first hk h1]; exact h2
      | succ j =>
        have hlt : ltB (l[j]'(by omega)).nm l[j + 1].nm = true := by
          unfold SortedB at hs
          rw [List.pairwise_iff_getElem] at hs
          exact hs j (j + 1) (by omega) hk (by omega)
        rw [bmK_may hk h1 (ltB_leB hlt)]; exact h2
  exact key _ (Nat.le_refl _)
theorem onL_eq {ls l' : List Bd} (hE : bindsE ls = 0) (hE' : bindsE l' = 0) : ∀ l : List Tm, errL l = 0 → (∀ k ∈ preL l, varB k.name = true → forT l' k.name = some (onT ls ⟨k.name, []⟩)) → onL l' l = onL ls l := by
  intro l
  induction l using Tm.indL with
  | h0 => intro _ _; simp [onL]
  | h s l r ihl ihr =>
    intro he hk
    obtain ⟨h1, h2, h3⟩ := errL_parts he
    rw [onL_cons, onL_cons, ihr h3 fun k hk' hv => hk k (by rw [preL]; simp [hk']) hv]
    congr 1
    cases hv : varB s with
    | false => rw [onT_sym hE hv, onT_sym hE' hv, ihl h2 fun k hk' hv' => hk k (by rw [preL]; simp [hk']) hv']
    | true =>
      have hl := h1 hv
      subst hl
      exact onT_some (hk ⟨s, []⟩ (by rw [preL]; simp) hv)

/-- All that the law on matching an instance asks. -/
theorem topMatch_pure {ls : List Bd} {p : Tm} (hE : bindsE ls = 0) (he : errL [p] = 0) (hsp : sizeL [p] ≤ 40) (hsx : sizeL [onT ls p] ≤ 200) :
    twoE p (onT ls p) = 0 ∧ ∃ h', mtT p (onT ls p) [] = some h' ∧ ∀ l' : List Bd, l'.Perm h' → SortedB l' → bindsE l' = 0 ∧ mayE p = 0 ∧ fT l' p = onT ls p ∧ l'.length = (varsP [] (preL [p])).length := by
  have hmp : mayE p = 0 := mayE_mk he (by omega)
  have hmx : mayE (onT ls p) = 0 := mayE_mk (errL_onT hE he) hsx
  refine ⟨by unfold twoE; rw [if_pos hmp]; exact hmx, ?_⟩
  obtain ⟨h', h1, h2, h3⟩ := mtT_on hE he
  refine ⟨h', h1, fun l' hp hs => ?_⟩
  have hlen : l'.length = (varsP [] (preL [p])).length := by
    have e1 := hp.length_eq
    have e2 := congrArg List.length h3
    rw [List.length_map] at e2
    omega
  have hE' : bindsE l' = 0 := by
    refine bindsE_mk hs ?_ fun d hd => ?_
    · have e1 := varsP_len (preL [p]) []
      have e2 := preL_length [p]
      simp at e1
      omega
    · have hd' : d ∈ h' := hp.subset hd
      have hn : d.nm ∈ varsP [] (preL [p]) := by rw [← h3]; exact List.mem_map.2 ⟨d, hd', rfl⟩
      rcases varsP_sub _ _ _ hn with h4 | ⟨k, hk, hkn, hv⟩
      · cases h4
      · refine ⟨by rw [hv, ← hkn, preL_err [p] he k hk]; rfl, mayE_mk ?_ ?_⟩
        · rw [h2 d hd']
          exact errL_onT hE (err_leaf (by rw [← hkn]; exact preL_err [p] he k hk))
        · have := mtT_size h1 d hd'
          omega
  refine ⟨hE', hmp, ?_, hlen⟩
  rw [fT_onT hE' p hmp]
  have h5 := onL_eq hE hE' [p] he fun k hk hv => by
    have hn := (varsP_has (preL [p]) []).2 k hk hv
    rw [← h3] at hn
    obtain ⟨d, hd, e⟩ := List.mem_map.1 hn
    have h6 := forT_of hs.apart (hp.symm.subset hd)
    have e' : d.nm = k.name := e
    rw [e', h2 d hd, e'] at h6
    exact h6
  rw [onL_cons, onL_cons] at h5
  simp only [onL, List.cons.injEq, and_true] at h5
  exact h5
theorem topMatch_in {p x : Tm} {sa sg : ByteArray} (hp : mayE p = 0) (hx : errL [x] = 0) (hs : sizeL [x] ≤ 190) (hm : mtB p x = true) (ha : nameB sa = true) (hg : nameB sg = true) (hv : varB sg = false) :
    twoE ⟨sg, [⟨sa, []⟩, x]⟩ p = 0 ∧ hcB ⟨sg, [⟨sa, []⟩, x]⟩ p = true := by
  have e1 : sizeL [(⟨sg, [⟨sa, []⟩, x]⟩ : Tm)] = 2 + sizeL [x] := by obtain ⟨s, l⟩ := x; simp [sizeL]; omega
  have h1 : mayE ⟨sg, [⟨sa, []⟩, x]⟩ = 0 := by
    refine mayE_mk (err_node hg hv ?_) (by omega)
    rw [errL_cons, if_pos (err_leaf ha)]; exact hx
  refine ⟨by unfold twoE; rw [if_pos h1]; exact hp, ?_⟩
  unfold hcB
  rw [List.any_eq_true]
  refine ⟨x, ?_, hm⟩
  obtain ⟨s, l⟩ := x
  simp [preL]
theorem four_E {ls : List Bd} (hs : (ls.map (·.nm)).Sublist four) (ha : ∀ d ∈ ls, sizeL [d.t] ≤ 200 ∧ errL [d.t] = 0) : bindsE ls = 0 := by
  refine bindsE_mk ?_ ?_ fun d hd => ⟨?_, mayE_mk (ha d hd).2 (ha d hd).1⟩
  · have lt1 : ∀ x y : UInt8, x < y → ltB ⟨#[x]⟩ ⟨#[y]⟩ = true := fun x y h => by
      unfold ltB
      rw [ByteArray.toList_eq, ByteArray.toList_eq]
      simp [Op.bytesLess, h]
    have h4 : four.Pairwise fun a b => ltB a b = true := by
      unfold four
      simp only [List.pairwise_cons, List.mem_cons, List.not_mem_nil, or_false, List.Pairwise.nil, and_true, false_or]
      refine ⟨fun b hb => ?_, fun b hb => ?_, fun b hb => ?_, fun b hb => by cases hb⟩
      · rcases hb with rfl | rfl | rfl <;> exact lt1 _ _ (by decide)
      · rcases hb with rfl | rfl <;> exact lt1 _ _ (by decide)
      · subst hb; exact lt1 _ _ (by decide)
    exact List.pairwise_map.1 (h4.sublist hs)
  · have := hs.length_le
    simp [four] at this
    omega
  · have h4 : ∀ n ∈ four, (nameB n && varB n) = true := by unfold four; decide
    exact h4 _ (hs.subset (List.mem_map.2 ⟨d, hd, rfl⟩))
#print axioms topMatch_pure
#print axioms topMatch_in
#print axioms four_E
end Go.Proofs.Ytpjdkdebjkpmmaj


/- Walks: two answers that are terms. -/
namespace Go.Proofs.Ytpjdkdebjkpmmaj
open Go.RowKit
set_option linter.unusedSimpArgs false
set_option linter.unusedVariables false

end Go.Proofs.Ytpjdkdebjkpmmaj


/- Walks: bindings that are the same; two answers that are bindings. -/
namespace Go.Proofs.Ytpjdkdebjkpmmaj
open Go.RowKit
set_option linter.unusedSimpArgs false
set_option linter.unusedVariables false
set_option maxRecDepth 8000

def SmbInv (ls : List Bd) (w : World) (v : Value) (wr : World) : Prop := ∃ k : Nat, v = .int .i64 (k : Int) ∧ k ≤ ls.length ∧ Below w.heap.size w wr

end Go.Proofs.Ytpjdkdebjkpmmaj


/- The law on matching: it answers true. -/
namespace Go.Proofs.Ytpjdkdebjkpmmaj
open Go.RowKit
set_option linter.unusedSimpArgs false
set_option linter.unusedVariables false
set_option maxRecDepth 8000

theorem bv_nil (w : World) (X : Nat → Prop) : BV w X (.slice none 0 0) [] := ⟨none, 0, rfl, by simp, Or.inl rfl⟩

end Go.Proofs.Ytpjdkdebjkpmmaj

/- Walks: how great a term would be with bindings in it. -/
namespace Go.Proofs.Ytpjdkdebjkpmmaj
open Go.RowKit
set_option linter.unusedSimpArgs false
set_option linter.unusedVariables false
set_option maxRecDepth 8000

def GwInv (w0 : World) (M : Nat) (ls : List Bd) (l : List Tm) (most : Int) (n i : Value) (wr : World) : Prop := ∃ k : Nat, k ≤ l.length ∧ i = .int .i64 k ∧ n = .int .i64 (min (1 + sizeL (onL ls (l.take k))) (most + 1)) ∧ Below M w0 wr

set_option maxHeartbeats 1000000 in
theorem grown_any (ls : List Bd) (t : Tm) : ∀ (u v : Value) (most : Int) (w : World) (X : Nat → Prop), BV w X u ls → TV w X v t → 0 ≤ most → most ≤ 1000000 →
    Calls Try.prog 28 #[u, v, .int .i64 most] w fun e w' => e = .returned (.int .i64 (min (sizeL [onT ls t]) (most + 1))) ∧ Below w.heap.size w w' := by
  induction t using Tm.ind with
  | h s l ih =>
    intro u v most w X hu hv hm0 hm1
    obtain ⟨a, c, rfl, hs⟩ := hv
    have IH := hide ih
    have HU := hide hu
    have HS := hide hs
    have hl := hs.1
    clear ih hu hs
    go_enter Try.func28, Try.ntmps28
    go_wp2_with fail
    refine (for_any ls s u _ X (by exact HU.out.alloc _)).mono ?_
    rintro e w1 ⟨hb1, hcase⟩
    have T1 := hide ((Blk.new w #[.string s, .slice a l.length c] 25).below hb1 (by simp))
    have B1 := hide (((Below.refl w.heap.size w).alloc (Nat.le_refl _) (.cells #[.string s, .slice a l.length c] 25)).trans (hb1.mono (by simp)))
    have hlt1 : w.heap.size < w1.heap.size := T1.out.lt
    clear hb1
    have t0 : ∀ o, (w1.alloc o).cell? ⟨w.heap.size, 0, none⟩ = some (.string s) := fun o => (T1.out.alloc o).cell 0
    have t1 : ∀ o, (w1.alloc o).cell? ⟨w.heap.size, 1, none⟩ = some (.slice a l.length c) := fun o => (T1.out.alloc o).cell 1
    rcases hcase with ⟨x, ax, cx, hf, rfl, hsx⟩ | ⟨hf, rfl⟩
    · by_cases hl0 : l = []
      · subst hl0
        have HF := hide (onT_some hf)
        have SX := hide hsx
        clear hf hsx
        go_wp2_with fail
        refine (size_any x _ most _ _ ⟨ax, cx, rfl, SX.out.later ((Below.refl w1.heap.size w1).alloc (Nat.le_refl _) _)⟩ hm0 hm1).mono ?_
        rintro e w3 ⟨rfl, hb3⟩
        go_wp2_with fail
        go_ret
        exact ⟨ret_int (by rw [HF.out]), (B1.out.alloc B1.out.size _).trans (hb3.mono (by have := B1.out.size; simp; omega))⟩
      · have HD := hide (onT_deep (l := ls) (s := s) (Or.inl hl0))
        have hlp : ((l.length : Int) == 0) = false := beq_eq_false_iff_ne.2 (by have := List.length_pos_iff.2 hl0; omega)
        clear hf hsx
        go_wp2_with fail
        have T2 := hide (T1.out.alloc (.cells #[.string x.name, .slice ax x.args.length cx] 25))
        have B2 := hide (B1.out.alloc B1.out.size (.cells #[.string x.name, .slice ax x.args.length cx] 25))
        generalize w1.alloc (.cells #[.string x.name, .slice ax x.args.length cx] 25) = w2 at *
        clear t0 t1
        go_loopw [9, 10] (fun n i wr => GwInv w2 w2.heap.size ls l most n i wr) (fun n i wr => l.length - (intOf i).toNat)
        case atStart => exact ⟨0, Nat.zero_le _, rfl, by simp [onL, sizeL]; omega, Below.refl _ _⟩
        case round =>
          obtain ⟨k, hk, rfl, rfl, hb⟩ := hrel
          have c0 : wr.cell? ⟨w.heap.size, 0, none⟩ = some (.string s) := (T2.out.below hb T2.out.lt).cell 0
          have c1 : wr.cell? ⟨w.heap.size, 1, none⟩ = some (.slice a l.length c) := (T2.out.below hb T2.out.lt).cell 1
          have hn : 0 ≤ ((1 : Int) + sizeL (onL ls (l.take k))) := by omega
          have BW := hide (B2.out.trans (hb.mono B2.out.size))
          have HB := hide hb
          by_cases hlt : k < l.length
          · obtain ⟨b, o, a', c', rfl, d0, d1, hx⟩ := HS.out.get BW.out (fun _ _ h => h) k hlt
            by_cases hle : 1 + (sizeL (onL ls (l.take k)) : Int) ≤ most
            · have hmin : min (1 + (sizeL (onL ls (l.take k)) : Int)) (most + 1) = 1 + (sizeL (onL ls (l.take k)) : Int) := by omega
              rw [hmin]
              go_wp2_with fail
              refine (IH.out _ (List.getElem_mem hlt) _ _ _ _ X (HU.out.later BW.out) hx (by omega) (by omega)).mono ?_
              rintro e w3 ⟨rfl, hb3⟩
              have Hst := hide (onL_size_take ls l k hlt)
              have hm2 : 0 ≤ min ((sizeL [onT ls l[k]] : Int)) (most - (1 + (sizeL (onL ls (l.take k)) : Int)) + 1) := by omega
              have hm3 : min ((sizeL [onT ls l[k]] : Int)) (most - (1 + (sizeL (onL ls (l.take k)) : Int)) + 1) ≤ 1000001 := by omega
              go_wp2_with fail
              go_roundw
              case rel => exact ⟨k + 1, by omega, by go_num, by rw [Hst.out]; congr 1; omega, hb.trans (hb3.mono hb.size)⟩
              case measure => simp [intOf]; omega
            · have hmin : min (1 + (sizeL (onL ls (l.take k)) : Int)) (most + 1) = most + 1 := by omega
              rw [hmin]
              have hz : (sizeL [(⟨s, onL ls l⟩ : Tm)] : Int) = 1 + sizeL (onL ls l) := by simp [sizeL]
              have hle2 := onL_size_le ls l k
              have HF := hide (show (most + 1 : Int) = min (sizeL [(⟨s, onL ls l⟩ : Tm)] : Int) (most + 1) by omega)
              clear hz
              go_wp2_with fail
              go_ret
              exact ⟨ret_int (by rw [HD.out]; exact HF.out), BW.out⟩
          · have htk : l.take k = l := List.take_of_length_le (by omega)
            rw [htk]
            have hz : (sizeL [(⟨s, onL ls l⟩ : Tm)] : Int) = 1 + sizeL (onL ls l) := by simp [sizeL]
            have HZ := hide hz
            clear hz
            go_wp2_with fail
            all_goals (go_ret; exact ⟨ret_int (by rw [HD.out]; have := HZ.out; omega), BW.out⟩)
    · have HD : Hid (onT ls ⟨s, l⟩ = ⟨s, onL ls l⟩) := onT_deep (Or.inr hf)
      clear hf
      go_wp2_with fail
      have T2 := hide (T1.out.alloc (.cells #[.string ⟨#[]⟩, .slice none 0 0] 25))
      have B2 := hide (B1.out.alloc B1.out.size (.cells #[.string ⟨#[]⟩, .slice none 0 0] 25))
      generalize w1.alloc (.cells #[.string ⟨#[]⟩, .slice none 0 0] 25) = w2 at *
      clear t0 t1
      go_loopw [9, 10] (fun n i wr => GwInv w2 w2.heap.size ls l most n i wr) (fun n i wr => l.length - (intOf i).toNat)
      case atStart => exact ⟨0, Nat.zero_le _, rfl, by simp [onL, sizeL]; omega, Below.refl _ _⟩
      case round =>
        obtain ⟨k, hk, rfl, rfl, hb⟩ := hrel
        have c0 : wr.cell? ⟨w.heap.size, 0, none⟩ = some (.string s) := (T2.out.below hb T2.out.lt).cell 0
        have c1 : wr.cell? ⟨w.heap.size, 1, none⟩ = some (.slice a l.length c) := (T2.out.below hb T2.out.lt).cell 1
        have hn : 0 ≤ ((1 : Int) + sizeL (onL ls (l.take k))) := by omega
        have BW := hide (B2.out.trans (hb.mono B2.out.size))
        have HB := hide hb
        by_cases hlt : k < l.length
        · obtain ⟨b, o, a', c', rfl, d0, d1, hx⟩ := HS.out.get BW.out (fun _ _ h => h) k hlt
          by_cases hle : 1 + (sizeL (onL ls (l.take k)) : Int) ≤ most
          · have hmin : min (1 + (sizeL (onL ls (l.take k)) : Int)) (most + 1) = 1 + (sizeL (onL ls (l.take k)) : Int) := by omega
            rw [hmin]
            go_wp2_with fail
            refine (IH.out _ (List.getElem_mem hlt) _ _ _ _ X (HU.out.later BW.out) hx (by omega) (by omega)).mono ?_
            rintro e w3 ⟨rfl, hb3⟩
            have Hst := hide (onL_size_take ls l k hlt)
            have hm2 : 0 ≤ min ((sizeL [onT ls l[k]] : Int)) (most - (1 + (sizeL (onL ls (l.take k)) : Int)) + 1) := by omega
            have hm3 : min ((sizeL [onT ls l[k]] : Int)) (most - (1 + (sizeL (onL ls (l.take k)) : Int)) + 1) ≤ 1000001 := by omega
            go_wp2_with fail
            go_roundw
            case rel => exact ⟨k + 1, by omega, by go_num, by rw [Hst.out]; congr 1; omega, hb.trans (hb3.mono hb.size)⟩
            case measure => simp [intOf]; omega
          · have hmin : min (1 + (sizeL (onL ls (l.take k)) : Int)) (most + 1) = most + 1 := by omega
            rw [hmin]
            have hz : (sizeL [(⟨s, onL ls l⟩ : Tm)] : Int) = 1 + sizeL (onL ls l) := by simp [sizeL]
            have hle2 := onL_size_le ls l k
            have HF := hide (show (most + 1 : Int) = min (sizeL [(⟨s, onL ls l⟩ : Tm)] : Int) (most + 1) by omega)
            clear hz
            go_wp2_with fail
            go_ret
            exact ⟨ret_int (by rw [HD.out]; exact HF.out), BW.out⟩
        · have htk : l.take k = l := List.take_of_length_le (by omega)
          rw [htk]
          have hz : (sizeL [(⟨s, onL ls l⟩ : Tm)] : Int) = 1 + sizeL (onL ls l) := by simp [sizeL]
          have HZ := hide hz
          clear hz
          go_wp2_with fail
          all_goals (go_ret; exact ⟨ret_int (by rw [HD.out]; have := HZ.out; omega), BW.out⟩)
#print axioms grown_any
end Go.Proofs.Ytpjdkdebjkpmmaj

/- Walks: a term with bindings in it, as the document says. -/
namespace Go.Proofs.Ytpjdkdebjkpmmaj
open Go.RowKit
set_option linter.unusedSimpArgs false
set_option linter.unusedVariables false
set_option maxRecDepth 8000

def OnPost (w : World) (X : Nat → Prop) (t : Tm) (e : Ending) (w' : World) : Prop :=
  ∃ a c, e = .returned (.agg #[.string t.name, .slice a t.args.length c]) ∧ Sl w' (fun b => (X b ∧ b < w.heap.size) ∨ w.heap.size ≤ b) a t.args ∧ Below w.heap.size w w'

/-- What is held while a knot's next term is made. -/
def OnS (w : World) (b o : Nat) (s : ByteArray) (a : Option Addr) (n c : Nat) (s1 : ByteArray) (v1 : Value) (w' : World) : Prop :=
  Blk w' w.heap.size #[.string s, .slice a n c] 25 ∧ w'.cell? ⟨b, o, none⟩ = some (.string s1) ∧ w'.cell? ⟨b, o + 1, none⟩ = some v1
theorem cell_same {w w' : World} {b i : Nat} {v : Value} (hb : w'.heap[b]? = w.heap[b]?) (h : w.cell? ⟨b, i, none⟩ = some v) : w'.cell? ⟨b, i, none⟩ = some v := by simpa [World.cell?, hb] using h
theorem OnS.below {w wr w1 : World} {b o n c : Nat} {s s1 : ByteArray} {a : Option Addr} {v1 : Value} (h : OnS w b o s a n c s1 v1 wr) (hb : Below wr.heap.size wr w1) (hlt : w.heap.size < wr.heap.size ∧ b < wr.heap.size) : OnS w b o s a n c s1 v1 w1 :=
  ⟨h.1.below hb hlt.1, cell_same (hb.block b hlt.2) h.2.1, cell_same (hb.block b hlt.2) h.2.2⟩
theorem OnS.alloc {w wr : World} {b o n c : Nat} {s s1 : ByteArray} {a : Option Addr} {v1 : Value} (h : OnS w b o s a n c s1 v1 wr) (x : Obj) : OnS w b o s a n c s1 v1 (wr.alloc x) :=
  ⟨h.1.alloc x, cell_same (Below.heap_alloc _ _ _ (cell_lt h.2.1)) h.2.1, cell_same (Below.heap_alloc _ _ _ (cell_lt h.2.1)) h.2.2⟩
theorem OnS.grown {w wr w3 : World} {b o n c : Nat} {s s1 : ByteArray} {a : Option Addr} {v1 : Value} {row : Option Nat} (h : OnS w b o s a n c s1 v1 wr) (hg : wr.grownBy w3 row) (hne : ∀ j, j ≤ w.heap.size → some j ≠ row) (hb : b < w.heap.size) (_ : True) : OnS w b o s a n c s1 v1 w3 :=
  ⟨h.1.grown hg (hne _ (Nat.le_refl _)), cell_same (hg.block b (cell_lt h.2.1) (hne b (by omega))) h.2.1, cell_same (hg.block b (cell_lt h.2.1) (hne b (by omega))) h.2.2⟩
theorem OnS.set {w wr : World} {b o n c : Nat} {s s1 : ByteArray} {a : Option Addr} {v1 : Value} {O i : Nat} (h : OnS w b o s a n c s1 v1 wr) (v : Value) (_ : True) (hO : w.heap.size ≠ O) (hb : b ≠ O) : OnS w b o s a n c s1 v1 (wr.setCell ⟨O, i, none⟩ v) :=
  ⟨h.1.setOther _ _ hO, cell_same (Below.heap_setCell _ _ _ _ (by simpa using hb)) h.2.1, cell_same (Below.heap_setCell _ _ _ _ (by simpa using hb)) h.2.2⟩
theorem hxb {w : World} {X : Nat → Prop} {b o : Nat} {l : List Tm} (h : Sl w X (some ⟨b, o, none⟩) l) (hl : 0 < l.length) : b < w.heap.size := by
  obtain ⟨_, h⟩ := h
  rcases h with rfl | ⟨b', o', e, h⟩
  · simp at hl
  · simp at e
    obtain ⟨rfl, rfl⟩ := e
    exact cell_lt (lies_get l b o h 0 hl).2.1

/-- What is laid ahead of the rounds. -/
def OnSet (w : World) (Y : Nat → Prop) (O : Nat) (s : ByteArray) (a : Option Addr) (n c : Nat) (u : Value) (L : List Tm) (wr : World) : Prop :=
  ∃ xs, Row wr (O + 1) 25 Y u L xs ∧ Below w.heap.size w wr ∧ Blk wr w.heap.size #[.string s, .slice a n c] 25 ∧ Blk wr (w.heap.size + 1) #[.string ⟨#[]⟩, .slice none 0 0] 25 ∧ Blk wr O #[.string s, u] 25 ∧ O < wr.heap.size
def OnInv (w : World) (Y : Nat → Prop) (O : Nat) (s : ByteArray) (a : Option Addr) (c : Nat) (ls : List Bd) (l : List Tm) (i : Value) (wr : World) : Prop :=
  ∃ (k : Nat) (u : Value), k ≤ l.length ∧ i = .int .i64 (k : Int) ∧ OnSet w Y O s a l.length c u (onL ls (l.take k)) wr

theorem on_step {w wr w1 w3 : World} {Y : Nat → Prop} {O n c : Nat} {u : Value} {L : List Tm} {xs : List Value} {o2 : Obj} {s s' : ByteArray} {a a1 : Option Addr} {n1 c1 g cap : Nat} {t : Tm} (hO : w.heap.size + 2 ≤ O) (hY : ∀ b, Y b → b < w.heap.size)
    (hrow : Row wr (O + 1) 25 Y u L xs) (hx : Below w.heap.size w wr) (hT : Blk wr w.heap.size #[.string s, .slice a n c] 25) (hR : Blk wr (w.heap.size + 1) #[.string ⟨#[]⟩, .slice none 0 0] 25) (hOb : Blk wr O #[.string s, u] 25)
    (he1 : Below wr.heap.size wr w1) (ht : TV w1 (fun b => Y b ∨ wr.heap.size ≤ b) (.agg #[.string s', .slice a1 n1 c1]) t)
    (hown : w3.ownsRow (O + 1) 25 2 (.slice (some ⟨g, 0, none⟩) (L.length + 1) cap) (L.length + 1) (xs ++ [.string s', .slice a1 n1 c1])) (hg : (w1.alloc o2).grownBy w3 u.ownBlock) (hat : u.ownBlock = some g ∨ g = (w1.alloc o2).heap.size) :
    OnSet w Y O s a n c (.slice (some ⟨g, 0, none⟩) (L.length + 1) cap) (L ++ [t]) (w3.setCell ⟨O, 1, none⟩ (.slice (some ⟨g, 0, none⟩) (L.length + 1) cap)) := by
  have hlt' := hrow.own.lt
  have hOl := hOb.lt
  have hp := hrow.push (w1 := w1) (w2 := w1.alloc o2) (w3 := w3) (by omega) (fun b h => by have := hY b h; omega) he1 ht o2 rfl hown hg hat
  have hne : ∀ b, b < O + 1 → some b ≠ u.ownBlock := fun b hb e => by have := (hlt' b e.symm).1; omega
  have hs1 := he1.size
  have hsx := hx.size
  have hx3 : Below w.heap.size w w3 := ((hx.trans (he1.mono (by omega))).alloc (by omega) o2).grown hg (by simp; omega) (fun k hk => by have := (hlt' k hk).1; omega)
  have hs3 := hg.size
  simp at hs3
  refine ⟨_, hp.setCell (by omega) (fun h => by have := hY _ h; omega) _, hx3.setCell (p := ⟨O, 1, none⟩) (by simp; omega) _, ?_, ?_, ?_, by simp [World.setCell]; omega⟩
  · exact (((hT.below he1 (by omega)).alloc o2).grown hg (hne _ (by omega))).setOther _ _ (by omega)
  · exact (((hR.below he1 (by omega)).alloc o2).grown hg (hne _ (by omega))).setOther _ _ (by omega)
  · exact (((hOb.below he1 (by omega)).alloc o2).grown hg (hne _ (by omega))).set 1 _

set_option maxHeartbeats 2000000 in
theorem on_any (ls : List Bd) (t : Tm) : ∀ (u v : Value) (w : World) (X : Nat → Prop), BV w X u ls → TV w X v t → sizeL [t] ≤ 1000000 →
    Calls Try.prog 29 #[u, v] w fun e w' => OnPost w X (onT ls t) e w' := by
  induction t using Tm.ind with
  | h s l ih =>
    intro u v w X hu hv hsm
    obtain ⟨a, c, rfl, hs⟩ := hv
    have IH := hide ih
    have HU := hide hu
    have HS := hide hs
    have hl := hs.1
    have hz : sizeL [(⟨s, l⟩ : Tm)] = 1 + sizeL l := by simp [sizeL]
    rw [hz] at hsm
    have hlen := sizeL_len l
    clear ih hu hs hz
    obtain ⟨i0, hi0, hz0, hz1, hz2⟩ := info_parts Try.infoTerm
    go_enter Try.func29, Try.ntmps29
    go_wp2_with fail
    refine (for_any ls s u _ (fun b => X b ∧ b < w.heap.size) (by exact ((HU.out.mono fun b h1 h2 => ⟨h1, h2⟩).alloc _).alloc _)).mono ?_
    rintro e w1 ⟨hb1, hcase⟩
    have T1 := hide (((Blk.new w #[.string s, .slice a l.length c] 25).alloc (.cells #[.string ⟨#[]⟩, .slice none 0 0] 25)).below hb1 (by simp; omega))
    have R1 : Hid (Blk w1 (w.heap.size + 1) #[.string ⟨#[]⟩, .slice none 0 0] 25) := by
      have h := (Blk.new (w.alloc (.cells #[.string s, .slice a l.length c] 25)) #[.string ⟨#[]⟩, .slice none 0 0] 25).below hb1 (by simp)
      unfold Hid
      simpa using h
    have B1 := hide ((((Below.refl w.heap.size w).alloc (Nat.le_refl _) (.cells #[.string s, .slice a l.length c] 25)).alloc (by simp) (.cells #[.string ⟨#[]⟩, .slice none 0 0] 25)).trans (hb1.mono (by simp; omega)))
    have hlt1 : w.heap.size < w1.heap.size := T1.out.lt
    have hlt1' : w.heap.size + 1 < w1.heap.size := R1.out.lt
    clear hb1
    have t0 : ∀ o, (w1.alloc o).cell? ⟨w.heap.size, 0, none⟩ = some (.string s) := fun o => (T1.out.alloc o).cell 0
    have t1 : ∀ o, (w1.alloc o).cell? ⟨w.heap.size, 1, none⟩ = some (.slice a l.length c) := fun o => (T1.out.alloc o).cell 1
    rcases hcase with ⟨x, ax, cx, hf, rfl, hsx⟩ | ⟨hf, rfl⟩
    · by_cases hl0 : l = []
      · subst hl0
        have HF := hide (onT_some hf)
        have SX := hide hsx
        clear hf hsx
        have r0 : w1.cell? ⟨w.heap.size + 1, 0, none⟩ = some (.string ⟨#[]⟩) := R1.out.cell 0
        have r1 : w1.cell? ⟨w.heap.size + 1, 1, none⟩ = some (.slice none 0 0) := R1.out.cell 1
        have rf := R1.out.frozen
        go_wp2_with fail
        refine bodyPost_ret (v := .agg #[.string x.name, .slice ax x.args.length cx]) (by simp [results, Try.results29, go_sem, World.cell?_setCell_same, World.cell?_setCell_other, r0, r1, hlt1', World.cell?_alloc_old]) rfl ?_
        rw [HF.out]
        refine ⟨ax, cx, rfl, ?_, ((B1.out.setCell (by simp) _).setCell (by simp) _).alloc (by have := B1.out.size; simpa [World.setCell] using this) _⟩
        refine ((SX.out.mono (Y := fun b => X b ∧ b < w.heap.size) fun b h1 _ => h1.1).kept fun b hb => ?_).mono fun b hb _ => Or.inl hb
        rw [Below.heap_alloc _ _ _ (by simp [World.setCell]; omega), Below.heap_setCell _ _ _ _ (by simp; omega), Below.heap_setCell _ _ _ _ (by simp; omega)]
      · have HD : Hid (onT ls ⟨s, l⟩ = ⟨s, onL ls l⟩) := onT_deep (Or.inl hl0)
        have hlp : ((l.length : Int) == 0) = false := beq_eq_false_iff_ne.2 (by have := List.length_pos_iff.2 hl0; omega)
        clear hf hsx
        go_wp2_with fail
        have T3 := hide ((T1.out.alloc (.cells #[.string x.name, .slice ax x.args.length cx] 25)).alloc (.cells #[.string s, .slice none 0 0] 25))
        have R3 := hide ((R1.out.alloc (.cells #[.string x.name, .slice ax x.args.length cx] 25)).alloc (.cells #[.string s, .slice none 0 0] 25))
        have O3 := hide (Blk.new (w1.alloc (.cells #[.string x.name, .slice ax x.args.length cx] 25)) #[.string s, .slice none 0 0] 25)
        have B3 := hide ((B1.out.alloc B1.out.size (.cells #[.string x.name, .slice ax x.args.length cx] 25)).alloc (by have := B1.out.size; simp; omega) (.cells #[.string s, .slice none 0 0] 25))
        have HO3 := hide (O3.out.lt)
        have hO : w.heap.size + 2 ≤ (w1.alloc (.cells #[.string x.name, .slice ax x.args.length cx] 25)).heap.size := by have := R1.out.lt; simp; omega
        have eO : (w1.alloc (.cells #[.string x.name, .slice ax x.args.length cx] 25)).heap.size = w1.heap.size + 1 := by simp
        rw [eO] at O3 HO3 hO
        clear eO
        generalize (w1.alloc (.cells #[.string x.name, .slice ax x.args.length cx] 25)).alloc (.cells #[.string s, .slice none 0 0] 25) = w3 at *
        generalize w1.heap.size + 1 = O at *
        clear t0 t1
        have hY : ∀ b, (X b ∧ b < w.heap.size) → b < w.heap.size := fun b h => h.2
        go_loopw [8] (fun i wr => OnInv w (fun b => X b ∧ b < w.heap.size) O s a c ls l i wr) (fun i wr => l.length - (intOf i).toNat)
        case atStart => exact ⟨0, .slice none 0 0, Nat.zero_le _, rfl, [], by have h := Row.start w3 (O + 1) 25 (fun b => X b ∧ b < w.heap.size); simpa [onL] using h, B3.out, T3.out, R3.out, O3.out, HO3.out⟩
        case round =>
          obtain ⟨k, u9, hk, rfl, xs, hrow, hbb, hT, hR, hOb, hOl⟩ := hrel
          have XW := hide hrow
          have XE := hide hbb
          have XT := hide hT
          have XR := hide hR
          have XO := hide hOb
          clear hrow hbb hT hR hOb
          have c0 : wr.cell? ⟨w.heap.size, 0, none⟩ = some (.string s) := XT.out.cell 0
          have c1 : wr.cell? ⟨w.heap.size, 1, none⟩ = some (.slice a l.length c) := XT.out.cell 1
          have o0 : wr.cell? ⟨O, 0, none⟩ = some (.string s) := XO.out.cell 0
          have o1 : wr.cell? ⟨O, 1, none⟩ = some u9 := XO.out.cell 1
          by_cases hlt : k < l.length
          · obtain ⟨b, o, a', c', rfl, d0, d1, hx⟩ := (HS.out.mono (Y := fun b => X b ∧ b < w.heap.size) fun b h1 h2 => ⟨h1, h2⟩).get XE.out (fun b h _ => h.2) k hlt
            have HX := hide hx
            have hXb : b < w.heap.size := hxb HS.out (Nat.lt_of_le_of_lt (Nat.zero_le k) hlt)
            have hszk : sizeL [l[k]] ≤ 1000000 := by
              have := sizeL_take l k hlt
              have := sizeL_take_le l (k + 1)
              omega
            have hOL : (onL ls (l.take k)).length = k := by rw [onL_length]; simp; omega
            have IHQ : Hid (Calls Try.prog 29 #[u, .agg #[.string l[k].name, .slice a' l[k].args.length c']] wr.drew fun e w'' => ∃ a1 c1, e = .returned (.agg #[.string (onT ls l[k]).name, .slice a1 (onT ls l[k]).args.length c1]) ∧ Sl w'' (fun b => (X b ∧ b < w.heap.size) ∨ wr.heap.size ≤ b) a1 (onT ls l[k]).args ∧ Below wr.heap.size wr w'') := (IH.out l[k] (List.getElem_mem hlt) u _ wr.drew (fun b => X b ∧ b < w.heap.size) ((HU.out.mono fun b h1 h2 => ⟨h1, h2⟩).later (XE.out.drew)) (HX.out.later ((Below.refl wr.heap.size wr).drew)) hszk).mono fun e w'' hp => by
              obtain ⟨a1, c1, h1, h2, h3⟩ := hp
              exact ⟨a1, c1, h1, h2.mono (fun b hb _ => hb.imp (fun h => h.1) id), ((Below.refl wr.heap.size wr).drew).trans h3⟩
            have HN1 : Hid (∀ a1 c1, ∀ x ∈ [Value.string (onT ls l[k]).name, Value.slice a1 (onT ls l[k]).args.length c1], x.oneCell' = true) := fun a1 c1 x hx => by simp at hx; rcases hx with rfl | rfl <;> rfl
            have HL1 : Hid ((onL ls (l.take k)).length + 1 ≤ maxLen ∧ ((onL ls (l.take k)).length + 1) * 40 ≤ 140737488355328) := ⟨by rw [hOL]; unfold maxLen; omega, by rw [hOL]; omega⟩
            clear hOL
            have HBW : Hid (w.heap.size < wr.heap.size ∧ b < wr.heap.size) := ⟨XT.out.lt, by have := XT.out.lt; omega⟩
            have HS8 : Hid (OnS w b (o + k * 2) s (some ⟨b, o, none⟩) l.length c l[k].name (.slice a' l[k].args.length c') wr) := ⟨XT.out, d0, d1⟩
            go_wp2_with fail
            refine wp_region_held_drew (S := OnS w b (o + k * 2) s (some ⟨b, o, none⟩) l.length c l[k].name (.slice a' l[k].args.length c')) (by kernel_rfl) (by exact HS8.out) (fun hHeld => ?_)
            refine wpAnyH_take (i := 0) (v := ?_) rfl (by kernel_rfl) (by kernel_rfl) (by kernel_rfl) (fun _ _ _ h => h) (Or.inl ⟨by rfl, ?_⟩) (by assumption) ?_
            rotate_left
            · intro w' hSw
              go_simp <;> with_reducible rfl
            try simp only [Act.put, List.setIfInBounds_toArray, List.set_cons_zero, List.set_cons_succ, List.getElem_toArray, List.getElem_cons_succ, List.getElem_cons_zero]
            refine wpAnyH_take (i := 2) (v := ?_) rfl (by kernel_rfl) (by kernel_rfl) (by kernel_rfl) (fun _ _ _ h => h) (Or.inl ⟨by rfl, ?_⟩) (by assumption) ?_
            rotate_left
            · intro w' hSw
              go_simp <;> with_reducible rfl
            try simp only [Act.put, List.setIfInBounds_toArray, List.set_cons_zero, List.set_cons_succ, List.getElem_toArray, List.getElem_cons_succ, List.getElem_cons_zero]
            refine wpAnyH_take (i := 3) (v := ?_) rfl (by kernel_rfl) (by kernel_rfl) (by kernel_rfl) (fun _ _ _ h => h) (Or.inl ⟨by rfl, ?_⟩) (by assumption) ?_
            rotate_left
            · intro w' hSw
              go_simp <;> with_reducible rfl
            try simp only [Act.put, List.setIfInBounds_toArray, List.set_cons_zero, List.set_cons_succ, List.getElem_toArray, List.getElem_cons_succ, List.getElem_cons_zero]
            refine wpAnyH_take (i := 5) (v := ?_) rfl (by kernel_rfl) (by kernel_rfl) (by kernel_rfl) (fun _ _ _ h => h) (Or.inl ⟨by rfl, ?_⟩) (by assumption) ?_
            rotate_left
            · intro w' hSw
              go_simp <;> with_reducible rfl
            try simp only [Act.put, List.setIfInBounds_toArray, List.set_cons_zero, List.set_cons_succ, List.getElem_toArray, List.getElem_cons_succ, List.getElem_cons_zero]
            refine wpAnyH_take (i := 4) (v := ?_) rfl (by kernel_rfl) (by kernel_rfl) (by kernel_rfl) (fun _ _ _ h => h) (Or.inl ⟨by rfl, ?_⟩) (by assumption) ?_
            rotate_left
            · intro w' hSw
              have k1 : w'.cell? ⟨w.heap.size, 1, none⟩ = some (.slice (some ⟨b, o, none⟩) l.length c) := hSw.1.cell 1
              go_simp <;> with_reducible rfl
            try simp only [Act.put, List.setIfInBounds_toArray, List.set_cons_zero, List.set_cons_succ, List.getElem_toArray, List.getElem_cons_succ, List.getElem_cons_zero]
            refine wpAnyH_take (i := 6) (v := ?_) rfl (by kernel_rfl) (by kernel_rfl) (by kernel_rfl) (fun _ _ _ h => h) (Or.inl ⟨by rfl, ?_⟩) (by assumption) ?_
            rotate_left
            · intro w' hSw
              go_simp <;> with_reducible rfl
            try simp only [Act.put, List.setIfInBounds_toArray, List.set_cons_zero, List.set_cons_succ, List.getElem_toArray, List.getElem_cons_succ, List.getElem_cons_zero]
            refine wpAnyH_take (i := 7) (v := ?_) rfl (by kernel_rfl) (by kernel_rfl) (by kernel_rfl) (fun _ _ _ h => h) (Or.inl ⟨by rfl, ?_⟩) (by assumption) ?_
            rotate_left
            · intro w' hSw
              have k2 := hSw.2.1
              have k3 := hSw.2.2
              go_simp <;> with_reducible rfl
            try simp only [Act.put, List.setIfInBounds_toArray, List.set_cons_zero, List.set_cons_succ, List.getElem_toArray, List.getElem_cons_succ, List.getElem_cons_zero]
            refine wpAnyH_ready (rs := [1, 8]) (by kernel_rfl) (by simp) ?_
            refine AllReadyH.cons rfl (fun K hK => ?_) (AllReadyH.cons rfl (fun K hK => ?_) AllReadyH.nil)
            · go_simp
              refine hK.out _ _ (by exact hHeld) (fun hHeld => ?_)
              clear hK K
              try simp only [Act.put, List.setIfInBounds_toArray, List.set_cons_zero, List.set_cons_succ, List.getElem_toArray, List.getElem_cons_succ, List.getElem_cons_zero]
              refine wpAnyH_ready (rs := [8]) (by kernel_rfl) (by simp) ?_
              refine AllReadyH.cons rfl (fun K hK => ?_) AllReadyH.nil
              · go_simp
                go_at_call 29
                refine IHQ.out.mono ?_
                rintro e w1 ⟨a1, c1, rfl, hs1, hb1⟩
                have hc3 : ∀ o, (w1.alloc o).cell? ⟨O, 1, none⟩ = some u9 := fun o => ((XO.out.below hb1 hOl).alloc o).cell 1
                have hc4 : w1.cell? ⟨O, 1, none⟩ = some u9 := (XO.out.below hb1 hOl).cell 1
                go_simp
                refine hK.out _ _ (by exact OnS.below HS8.out hb1 HBW.out) (fun hHeld => ?_)
                clear hK K
                try simp only [Act.put, List.setIfInBounds_toArray, List.set_cons_zero, List.set_cons_succ, List.getElem_toArray, List.getElem_cons_succ, List.getElem_cons_zero]
                refine wpAnyH_ready (rs := [9]) (by kernel_rfl) (by simp) ?_
                refine AllReadyH.cons rfl (fun K hK => ?_) AllReadyH.nil
                · go_simp
                  refine hK.out _ _ (by exact hHeld.alloc _) (fun hHeld => ?_)
                  clear hK K
                  try simp only [Act.put, List.setIfInBounds_toArray, List.set_cons_zero, List.set_cons_succ, List.getElem_toArray, List.getElem_cons_succ, List.getElem_cons_zero]
                  refine wpAnyH_ready (rs := [10]) (by kernel_rfl) (by simp) ?_
                  refine AllReadyH.cons rfl (fun K hK => ?_) AllReadyH.nil
                  · refine step_append_lies _ rfl _ _ 23 rfl (O + 1) 25 i0 _ 2 40 Try.underlying23 hi0 hz0 hz1 hz2 rfl (by decide) u9 (onL ls (l.take k)).length xs rfl (by exact (XW.out.below hb1).own.alloc _) ⟨w1.heap.size, 0, none⟩ 1 1 [.string (onT ls l[k]).name, .slice a1 (onT ls l[k]).args.length c1] rfl rfl (cell_two_new _ _ _ _) (HN1.out a1 c1) (by decide) HL1.out.1 HL1.out.2 (by have := hb1.size; simp; omega) _ rfl ?_
                    intro g cap w3 hown3 hgrow3 hat3 hlt3
                    have hB3 := hide (((XO.out.below hb1 hOl).alloc _).grown hgrow3 (XW.out.ne (Nat.lt_succ_self _)))
                    have hc5 : w3.cell? ⟨O, 1, none⟩ = some u9 := hB3.out.cell 1
                    have hf5 := hB3.out.frozen 1
                    have HFIN := hide (on_step (c := c) (n := l.length) (a := some ⟨b, o, none⟩) hO hY XW.out XE.out XT.out XR.out XO.out hb1 ⟨a1, c1, rfl, hs1⟩ hown3 hgrow3 hat3)
                    refine hK.out _ _ (by exact OnS.grown hHeld hgrow3 (fun j hj => XW.out.ne (by omega)) hXb trivial) (fun hHeld => ?_)
                    clear hK K
                    try simp only [Act.put, List.setIfInBounds_toArray, List.set_cons_zero, List.set_cons_succ, List.getElem_toArray, List.getElem_cons_succ, List.getElem_cons_zero]
                    refine wpAnyH_take (i := 11) (v := ?_) rfl (by kernel_rfl) (by kernel_rfl) (by kernel_rfl) (fun _ _ _ h => h) (Or.inl ⟨by rfl, ?_⟩) (by assumption) ?_
                    rotate_left
                    · intro w' hSw
                      go_simp <;> with_reducible rfl
                    try simp only [Act.put, List.setIfInBounds_toArray, List.set_cons_zero, List.set_cons_succ, List.getElem_toArray, List.getElem_cons_succ, List.getElem_cons_zero]
                    refine wpAnyH_ready (rs := [12]) (by kernel_rfl) (by simp) ?_
                    refine AllReadyH.cons rfl (fun K hK => ?_) AllReadyH.nil
                    · go_simp
                      refine hK.out _ _ (by exact OnS.set hHeld _ trivial (by omega) (by omega)) (fun hHeld => ?_)
                      clear hK K
                      try simp only [Act.put, List.setIfInBounds_toArray, List.set_cons_zero, List.set_cons_succ, List.getElem_toArray, List.getElem_cons_succ, List.getElem_cons_zero]
                      refine wpAnyH_done (by kernel_rfl) ?_ _
                      clear hc3 hc4 hc5 hf5 hown3 hgrow3 hat3 hlt3 hB3 hHeld
                      go_wp2_with fail
                      go_roundw
                      case rel =>
                        refine ⟨k + 1, .slice (some ⟨g, 0, none⟩) ((onL ls (l.take k)).length + 1) cap, by omega, by go_num, ?_⟩
                        rw [onL_take ls l k hlt]
                        exact HFIN.out
                      case measure => simp [intOf]; omega
            · go_simp
              go_at_call 29
              refine IHQ.out.mono ?_
              rintro e w1 ⟨a1, c1, rfl, hs1, hb1⟩
              have hc3 : ∀ o, (w1.alloc o).cell? ⟨O, 1, none⟩ = some u9 := fun o => ((XO.out.below hb1 hOl).alloc o).cell 1
              have hc4 : w1.cell? ⟨O, 1, none⟩ = some u9 := (XO.out.below hb1 hOl).cell 1
              go_simp
              refine hK.out _ _ (by exact OnS.below HS8.out hb1 HBW.out) (fun hHeld => ?_)
              clear hK K
              try simp only [Act.put, List.setIfInBounds_toArray, List.set_cons_zero, List.set_cons_succ, List.getElem_toArray, List.getElem_cons_succ, List.getElem_cons_zero]
              refine wpAnyH_ready (rs := [1, 9]) (by kernel_rfl) (by simp) ?_
              refine AllReadyH.cons rfl (fun K hK => ?_) (AllReadyH.cons rfl (fun K hK => ?_) AllReadyH.nil)
              · go_simp
                refine hK.out _ _ (by exact hHeld) (fun hHeld => ?_)
                clear hK K
                try simp only [Act.put, List.setIfInBounds_toArray, List.set_cons_zero, List.set_cons_succ, List.getElem_toArray, List.getElem_cons_succ, List.getElem_cons_zero]
                refine wpAnyH_ready (rs := [9]) (by kernel_rfl) (by simp) ?_
                refine AllReadyH.cons rfl (fun K hK => ?_) AllReadyH.nil
                · go_simp
                  refine hK.out _ _ (by exact hHeld.alloc _) (fun hHeld => ?_)
                  clear hK K
                  try simp only [Act.put, List.setIfInBounds_toArray, List.set_cons_zero, List.set_cons_succ, List.getElem_toArray, List.getElem_cons_succ, List.getElem_cons_zero]
                  refine wpAnyH_ready (rs := [10]) (by kernel_rfl) (by simp) ?_
                  refine AllReadyH.cons rfl (fun K hK => ?_) AllReadyH.nil
                  · refine step_append_lies _ rfl _ _ 23 rfl (O + 1) 25 i0 _ 2 40 Try.underlying23 hi0 hz0 hz1 hz2 rfl (by decide) u9 (onL ls (l.take k)).length xs rfl (by exact (XW.out.below hb1).own.alloc _) ⟨w1.heap.size, 0, none⟩ 1 1 [.string (onT ls l[k]).name, .slice a1 (onT ls l[k]).args.length c1] rfl rfl (cell_two_new _ _ _ _) (HN1.out a1 c1) (by decide) HL1.out.1 HL1.out.2 (by have := hb1.size; simp; omega) _ rfl ?_
                    intro g cap w3 hown3 hgrow3 hat3 hlt3
                    have hB3 := hide (((XO.out.below hb1 hOl).alloc _).grown hgrow3 (XW.out.ne (Nat.lt_succ_self _)))
                    have hc5 : w3.cell? ⟨O, 1, none⟩ = some u9 := hB3.out.cell 1
                    have hf5 := hB3.out.frozen 1
                    have HFIN := hide (on_step (c := c) (n := l.length) (a := some ⟨b, o, none⟩) hO hY XW.out XE.out XT.out XR.out XO.out hb1 ⟨a1, c1, rfl, hs1⟩ hown3 hgrow3 hat3)
                    refine hK.out _ _ (by exact OnS.grown hHeld hgrow3 (fun j hj => XW.out.ne (by omega)) hXb trivial) (fun hHeld => ?_)
                    clear hK K
                    try simp only [Act.put, List.setIfInBounds_toArray, List.set_cons_zero, List.set_cons_succ, List.getElem_toArray, List.getElem_cons_succ, List.getElem_cons_zero]
                    refine wpAnyH_take (i := 11) (v := ?_) rfl (by kernel_rfl) (by kernel_rfl) (by kernel_rfl) (fun _ _ _ h => h) (Or.inl ⟨by rfl, ?_⟩) (by assumption) ?_
                    rotate_left
                    · intro w' hSw
                      go_simp <;> with_reducible rfl
                    try simp only [Act.put, List.setIfInBounds_toArray, List.set_cons_zero, List.set_cons_succ, List.getElem_toArray, List.getElem_cons_succ, List.getElem_cons_zero]
                    refine wpAnyH_ready (rs := [12]) (by kernel_rfl) (by simp) ?_
                    refine AllReadyH.cons rfl (fun K hK => ?_) AllReadyH.nil
                    · go_simp
                      refine hK.out _ _ (by exact OnS.set hHeld _ trivial (by omega) (by omega)) (fun hHeld => ?_)
                      clear hK K
                      try simp only [Act.put, List.setIfInBounds_toArray, List.set_cons_zero, List.set_cons_succ, List.getElem_toArray, List.getElem_cons_succ, List.getElem_cons_zero]
                      refine wpAnyH_done (by kernel_rfl) ?_ _
                      clear hc3 hc4 hc5 hf5 hown3 hgrow3 hat3 hlt3 hB3 hHeld
                      go_wp2_with fail
                      go_roundw
                      case rel =>
                        refine ⟨k + 1, .slice (some ⟨g, 0, none⟩) ((onL ls (l.take k)).length + 1) cap, by omega, by go_num, ?_⟩
                        rw [onL_take ls l k hlt]
                        exact HFIN.out
                      case measure => simp [intOf]; omega
              · go_simp
                refine hK.out _ _ (by exact hHeld.alloc _) (fun hHeld => ?_)
                clear hK K
                try simp only [Act.put, List.setIfInBounds_toArray, List.set_cons_zero, List.set_cons_succ, List.getElem_toArray, List.getElem_cons_succ, List.getElem_cons_zero]
                refine wpAnyH_ready (rs := [1]) (by kernel_rfl) (by simp) ?_
                refine AllReadyH.cons rfl (fun K hK => ?_) AllReadyH.nil
                · go_simp
                  refine hK.out _ _ (by exact hHeld) (fun hHeld => ?_)
                  clear hK K
                  try simp only [Act.put, List.setIfInBounds_toArray, List.set_cons_zero, List.set_cons_succ, List.getElem_toArray, List.getElem_cons_succ, List.getElem_cons_zero]
                  refine wpAnyH_ready (rs := [10]) (by kernel_rfl) (by simp) ?_
                  refine AllReadyH.cons rfl (fun K hK => ?_) AllReadyH.nil
                  · refine step_append_lies _ rfl _ _ 23 rfl (O + 1) 25 i0 _ 2 40 Try.underlying23 hi0 hz0 hz1 hz2 rfl (by decide) u9 (onL ls (l.take k)).length xs rfl (by exact (XW.out.below hb1).own.alloc _) ⟨w1.heap.size, 0, none⟩ 1 1 [.string (onT ls l[k]).name, .slice a1 (onT ls l[k]).args.length c1] rfl rfl (cell_two_new _ _ _ _) (HN1.out a1 c1) (by decide) HL1.out.1 HL1.out.2 (by have := hb1.size; simp; omega) _ rfl ?_
                    intro g cap w3 hown3 hgrow3 hat3 hlt3
                    have hB3 := hide (((XO.out.below hb1 hOl).alloc _).grown hgrow3 (XW.out.ne (Nat.lt_succ_self _)))
                    have hc5 : w3.cell? ⟨O, 1, none⟩ = some u9 := hB3.out.cell 1
                    have hf5 := hB3.out.frozen 1
                    have HFIN := hide (on_step (c := c) (n := l.length) (a := some ⟨b, o, none⟩) hO hY XW.out XE.out XT.out XR.out XO.out hb1 ⟨a1, c1, rfl, hs1⟩ hown3 hgrow3 hat3)
                    refine hK.out _ _ (by exact OnS.grown hHeld hgrow3 (fun j hj => XW.out.ne (by omega)) hXb trivial) (fun hHeld => ?_)
                    clear hK K
                    try simp only [Act.put, List.setIfInBounds_toArray, List.set_cons_zero, List.set_cons_succ, List.getElem_toArray, List.getElem_cons_succ, List.getElem_cons_zero]
                    refine wpAnyH_take (i := 11) (v := ?_) rfl (by kernel_rfl) (by kernel_rfl) (by kernel_rfl) (fun _ _ _ h => h) (Or.inl ⟨by rfl, ?_⟩) (by assumption) ?_
                    rotate_left
                    · intro w' hSw
                      go_simp <;> with_reducible rfl
                    try simp only [Act.put, List.setIfInBounds_toArray, List.set_cons_zero, List.set_cons_succ, List.getElem_toArray, List.getElem_cons_succ, List.getElem_cons_zero]
                    refine wpAnyH_ready (rs := [12]) (by kernel_rfl) (by simp) ?_
                    refine AllReadyH.cons rfl (fun K hK => ?_) AllReadyH.nil
                    · go_simp
                      refine hK.out _ _ (by exact OnS.set hHeld _ trivial (by omega) (by omega)) (fun hHeld => ?_)
                      clear hK K
                      try simp only [Act.put, List.setIfInBounds_toArray, List.set_cons_zero, List.set_cons_succ, List.getElem_toArray, List.getElem_cons_succ, List.getElem_cons_zero]
                      refine wpAnyH_done (by kernel_rfl) ?_ _
                      clear hc3 hc4 hc5 hf5 hown3 hgrow3 hat3 hlt3 hB3 hHeld
                      go_wp2_with fail
                      go_roundw
                      case rel =>
                        refine ⟨k + 1, .slice (some ⟨g, 0, none⟩) ((onL ls (l.take k)).length + 1) cap, by omega, by go_num, ?_⟩
                        rw [onL_take ls l k hlt]
                        exact HFIN.out
                      case measure => simp [intOf]; omega
          · have htk : l.take k = l := List.take_of_length_le (by omega)
            rw [htk] at XW
            obtain ⟨a9, c9, hu9, hsl9⟩ := XW.out.sl
            subst hu9
            have S9 := hide hsl9
            have r0 : wr.cell? ⟨w.heap.size + 1, 0, none⟩ = some (.string ⟨#[]⟩) := XR.out.cell 0
            have r1 : wr.cell? ⟨w.heap.size + 1, 1, none⟩ = some (.slice none 0 0) := XR.out.cell 1
            have rf := XR.out.frozen
            clear hsl9 htk
            go_wp2_with fail
            refine bodyPost_ret (v := .agg #[.string s, .slice a9 (onL ls l).length c9]) (by simp [results, Try.results29, go_sem, World.cell?_setCell_same, World.cell?_setCell_other, r0, r1]) rfl ?_
            rw [HD.out]
            refine ⟨a9, c9, rfl, (S9.out.kept fun b hb => ?_).mono fun b hb _ => hb.imp id (fun h => by omega), (XE.out.setCell (by simp) _).setCell (by simp) _⟩
            have hbne : b ≠ w.heap.size + 1 := by
              rcases hb with h | h
              · have := h.2; omega
              · omega
            rw [Below.heap_setCell _ _ _ _ (by simpa using hbne), Below.heap_setCell _ _ _ _ (by simpa using hbne)]
    · have HD : Hid (onT ls ⟨s, l⟩ = ⟨s, onL ls l⟩) := onT_deep (Or.inr hf)
      clear hf
      go_wp2_with fail
      have T3 := hide ((T1.out.alloc (.cells #[.string ⟨#[]⟩, .slice none 0 0] 25)).alloc (.cells #[.string s, .slice none 0 0] 25))
      have R3 := hide ((R1.out.alloc (.cells #[.string ⟨#[]⟩, .slice none 0 0] 25)).alloc (.cells #[.string s, .slice none 0 0] 25))
      have O3 := hide (Blk.new (w1.alloc (.cells #[.string ⟨#[]⟩, .slice none 0 0] 25)) #[.string s, .slice none 0 0] 25)
      have B3 := hide ((B1.out.alloc B1.out.size (.cells #[.string ⟨#[]⟩, .slice none 0 0] 25)).alloc (by have := B1.out.size; simp; omega) (.cells #[.string s, .slice none 0 0] 25))
      have HO3 := hide (O3.out.lt)
      have hO : w.heap.size + 2 ≤ (w1.alloc (.cells #[.string ⟨#[]⟩, .slice none 0 0] 25)).heap.size := by have := R1.out.lt; simp; omega
      have eO : (w1.alloc (.cells #[.string ⟨#[]⟩, .slice none 0 0] 25)).heap.size = w1.heap.size + 1 := by simp
      rw [eO] at O3 HO3 hO
      clear eO
      generalize (w1.alloc (.cells #[.string ⟨#[]⟩, .slice none 0 0] 25)).alloc (.cells #[.string s, .slice none 0 0] 25) = w3 at *
      generalize w1.heap.size + 1 = O at *
      clear t0 t1
      have hY : ∀ b, (X b ∧ b < w.heap.size) → b < w.heap.size := fun b h => h.2
      go_loopw [8] (fun i wr => OnInv w (fun b => X b ∧ b < w.heap.size) O s a c ls l i wr) (fun i wr => l.length - (intOf i).toNat)
      case atStart => exact ⟨0, .slice none 0 0, Nat.zero_le _, rfl, [], by have h := Row.start w3 (O + 1) 25 (fun b => X b ∧ b < w.heap.size); simpa [onL] using h, B3.out, T3.out, R3.out, O3.out, HO3.out⟩
      case round =>
        obtain ⟨k, u9, hk, rfl, xs, hrow, hbb, hT, hR, hOb, hOl⟩ := hrel
        have XW := hide hrow
        have XE := hide hbb
        have XT := hide hT
        have XR := hide hR
        have XO := hide hOb
        clear hrow hbb hT hR hOb
        have c0 : wr.cell? ⟨w.heap.size, 0, none⟩ = some (.string s) := XT.out.cell 0
        have c1 : wr.cell? ⟨w.heap.size, 1, none⟩ = some (.slice a l.length c) := XT.out.cell 1
        have o0 : wr.cell? ⟨O, 0, none⟩ = some (.string s) := XO.out.cell 0
        have o1 : wr.cell? ⟨O, 1, none⟩ = some u9 := XO.out.cell 1
        by_cases hlt : k < l.length
        · obtain ⟨b, o, a', c', rfl, d0, d1, hx⟩ := (HS.out.mono (Y := fun b => X b ∧ b < w.heap.size) fun b h1 h2 => ⟨h1, h2⟩).get XE.out (fun b h _ => h.2) k hlt
          have HX := hide hx
          have hXb : b < w.heap.size := hxb HS.out (Nat.lt_of_le_of_lt (Nat.zero_le k) hlt)
          have hszk : sizeL [l[k]] ≤ 1000000 := by
            have := sizeL_take l k hlt
            have := sizeL_take_le l (k + 1)
            omega
          have hOL : (onL ls (l.take k)).length = k := by rw [onL_length]; simp; omega
          have IHQ : Hid (Calls Try.prog 29 #[u, .agg #[.string l[k].name, .slice a' l[k].args.length c']] wr.drew fun e w'' => ∃ a1 c1, e = .returned (.agg #[.string (onT ls l[k]).name, .slice a1 (onT ls l[k]).args.length c1]) ∧ Sl w'' (fun b => (X b ∧ b < w.heap.size) ∨ wr.heap.size ≤ b) a1 (onT ls l[k]).args ∧ Below wr.heap.size wr w'') := (IH.out l[k] (List.getElem_mem hlt) u _ wr.drew (fun b => X b ∧ b < w.heap.size) ((HU.out.mono fun b h1 h2 => ⟨h1, h2⟩).later (XE.out.drew)) (HX.out.later ((Below.refl wr.heap.size wr).drew)) hszk).mono fun e w'' hp => by
            obtain ⟨a1, c1, h1, h2, h3⟩ := hp
            exact ⟨a1, c1, h1, h2.mono (fun b hb _ => hb.imp (fun h => h.1) id), ((Below.refl wr.heap.size wr).drew).trans h3⟩
          have HN1 : Hid (∀ a1 c1, ∀ x ∈ [Value.string (onT ls l[k]).name, Value.slice a1 (onT ls l[k]).args.length c1], x.oneCell' = true) := fun a1 c1 x hx => by simp at hx; rcases hx with rfl | rfl <;> rfl
          have HL1 : Hid ((onL ls (l.take k)).length + 1 ≤ maxLen ∧ ((onL ls (l.take k)).length + 1) * 40 ≤ 140737488355328) := ⟨by rw [hOL]; unfold maxLen; omega, by rw [hOL]; omega⟩
          clear hOL
          have HBW : Hid (w.heap.size < wr.heap.size ∧ b < wr.heap.size) := ⟨XT.out.lt, by have := XT.out.lt; omega⟩
          have HS8 : Hid (OnS w b (o + k * 2) s (some ⟨b, o, none⟩) l.length c l[k].name (.slice a' l[k].args.length c') wr) := ⟨XT.out, d0, d1⟩
          go_wp2_with fail
          refine wp_region_held_drew (S := OnS w b (o + k * 2) s (some ⟨b, o, none⟩) l.length c l[k].name (.slice a' l[k].args.length c')) (by kernel_rfl) (by exact HS8.out) (fun hHeld => ?_)
          refine wpAnyH_take (i := 0) (v := ?_) rfl (by kernel_rfl) (by kernel_rfl) (by kernel_rfl) (fun _ _ _ h => h) (Or.inl ⟨by rfl, ?_⟩) (by assumption) ?_
          rotate_left
          · intro w' hSw
            go_simp <;> with_reducible rfl
          try simp only [Act.put, List.setIfInBounds_toArray, List.set_cons_zero, List.set_cons_succ, List.getElem_toArray, List.getElem_cons_succ, List.getElem_cons_zero]
          refine wpAnyH_take (i := 2) (v := ?_) rfl (by kernel_rfl) (by kernel_rfl) (by kernel_rfl) (fun _ _ _ h => h) (Or.inl ⟨by rfl, ?_⟩) (by assumption) ?_
          rotate_left
          · intro w' hSw
            go_simp <;> with_reducible rfl
          try simp only [Act.put, List.setIfInBounds_toArray, List.set_cons_zero, List.set_cons_succ, List.getElem_toArray, List.getElem_cons_succ, List.getElem_cons_zero]
          refine wpAnyH_take (i := 3) (v := ?_) rfl (by kernel_rfl) (by kernel_rfl) (by kernel_rfl) (fun _ _ _ h => h) (Or.inl ⟨by rfl, ?_⟩) (by assumption) ?_
          rotate_left
          · intro w' hSw
            go_simp <;> with_reducible rfl
          try simp only [Act.put, List.setIfInBounds_toArray, List.set_cons_zero, List.set_cons_succ, List.getElem_toArray, List.getElem_cons_succ, List.getElem_cons_zero]
          refine wpAnyH_take (i := 5) (v := ?_) rfl (by kernel_rfl) (by kernel_rfl) (by kernel_rfl) (fun _ _ _ h => h) (Or.inl ⟨by rfl, ?_⟩) (by assumption) ?_
          rotate_left
          · intro w' hSw
            go_simp <;> with_reducible rfl
          try simp only [Act.put, List.setIfInBounds_toArray, List.set_cons_zero, List.set_cons_succ, List.getElem_toArray, List.getElem_cons_succ, List.getElem_cons_zero]
          refine wpAnyH_take (i := 4) (v := ?_) rfl (by kernel_rfl) (by kernel_rfl) (by kernel_rfl) (fun _ _ _ h => h) (Or.inl ⟨by rfl, ?_⟩) (by assumption) ?_
          rotate_left
          · intro w' hSw
            have k1 : w'.cell? ⟨w.heap.size, 1, none⟩ = some (.slice (some ⟨b, o, none⟩) l.length c) := hSw.1.cell 1
            go_simp <;> with_reducible rfl
          try simp only [Act.put, List.setIfInBounds_toArray, List.set_cons_zero, List.set_cons_succ, List.getElem_toArray, List.getElem_cons_succ, List.getElem_cons_zero]
          refine wpAnyH_take (i := 6) (v := ?_) rfl (by kernel_rfl) (by kernel_rfl) (by kernel_rfl) (fun _ _ _ h => h) (Or.inl ⟨by rfl, ?_⟩) (by assumption) ?_
          rotate_left
          · intro w' hSw
            go_simp <;> with_reducible rfl
          try simp only [Act.put, List.setIfInBounds_toArray, List.set_cons_zero, List.set_cons_succ, List.getElem_toArray, List.getElem_cons_succ, List.getElem_cons_zero]
          refine wpAnyH_take (i := 7) (v := ?_) rfl (by kernel_rfl) (by kernel_rfl) (by kernel_rfl) (fun _ _ _ h => h) (Or.inl ⟨by rfl, ?_⟩) (by assumption) ?_
          rotate_left
          · intro w' hSw
            have k2 := hSw.2.1
            have k3 := hSw.2.2
            go_simp <;> with_reducible rfl
          try simp only [Act.put, List.setIfInBounds_toArray, List.set_cons_zero, List.set_cons_succ, List.getElem_toArray, List.getElem_cons_succ, List.getElem_cons_zero]
          refine wpAnyH_ready (rs := [1, 8]) (by kernel_rfl) (by simp) ?_
          refine AllReadyH.cons rfl (fun K hK => ?_) (AllReadyH.cons rfl (fun K hK => ?_) AllReadyH.nil)
          · go_simp
            refine hK.out _ _ (by exact hHeld) (fun hHeld => ?_)
            clear hK K
            try simp only [Act.put, List.setIfInBounds_toArray, List.set_cons_zero, List.set_cons_succ, List.getElem_toArray, List.getElem_cons_succ, List.getElem_cons_zero]
            refine wpAnyH_ready (rs := [8]) (by kernel_rfl) (by simp) ?_
            refine AllReadyH.cons rfl (fun K hK => ?_) AllReadyH.nil
            · go_simp
              go_at_call 29
              refine IHQ.out.mono ?_
              rintro e w1 ⟨a1, c1, rfl, hs1, hb1⟩
              have hc3 : ∀ o, (w1.alloc o).cell? ⟨O, 1, none⟩ = some u9 := fun o => ((XO.out.below hb1 hOl).alloc o).cell 1
              have hc4 : w1.cell? ⟨O, 1, none⟩ = some u9 := (XO.out.below hb1 hOl).cell 1
              go_simp
              refine hK.out _ _ (by exact OnS.below HS8.out hb1 HBW.out) (fun hHeld => ?_)
              clear hK K
              try simp only [Act.put, List.setIfInBounds_toArray, List.set_cons_zero, List.set_cons_succ, List.getElem_toArray, List.getElem_cons_succ, List.getElem_cons_zero]
              refine wpAnyH_ready (rs := [9]) (by kernel_rfl) (by simp) ?_
              refine AllReadyH.cons rfl (fun K hK => ?_) AllReadyH.nil
              · go_simp
                refine hK.out _ _ (by exact hHeld.alloc _) (fun hHeld => ?_)
                clear hK K
                try simp only [Act.put, List.setIfInBounds_toArray, List.set_cons_zero, List.set_cons_succ, List.getElem_toArray, List.getElem_cons_succ, List.getElem_cons_zero]
                refine wpAnyH_ready (rs := [10]) (by kernel_rfl) (by simp) ?_
                refine AllReadyH.cons rfl (fun K hK => ?_) AllReadyH.nil
                · refine step_append_lies _ rfl _ _ 23 rfl (O + 1) 25 i0 _ 2 40 Try.underlying23 hi0 hz0 hz1 hz2 rfl (by decide) u9 (onL ls (l.take k)).length xs rfl (by exact (XW.out.below hb1).own.alloc _) ⟨w1.heap.size, 0, none⟩ 1 1 [.string (onT ls l[k]).name, .slice a1 (onT ls l[k]).args.length c1] rfl rfl (cell_two_new _ _ _ _) (HN1.out a1 c1) (by decide) HL1.out.1 HL1.out.2 (by have := hb1.size; simp; omega) _ rfl ?_
                  intro g cap w3 hown3 hgrow3 hat3 hlt3
                  have hB3 := hide (((XO.out.below hb1 hOl).alloc _).grown hgrow3 (XW.out.ne (Nat.lt_succ_self _)))
                  have hc5 : w3.cell? ⟨O, 1, none⟩ = some u9 := hB3.out.cell 1
                  have hf5 := hB3.out.frozen 1
                  have HFIN := hide (on_step (c := c) (n := l.length) (a := some ⟨b, o, none⟩) hO hY XW.out XE.out XT.out XR.out XO.out hb1 ⟨a1, c1, rfl, hs1⟩ hown3 hgrow3 hat3)
                  refine hK.out _ _ (by exact OnS.grown hHeld hgrow3 (fun j hj => XW.out.ne (by omega)) hXb trivial) (fun hHeld => ?_)
                  clear hK K
                  try simp only [Act.put, List.setIfInBounds_toArray, List.set_cons_zero, List.set_cons_succ, List.getElem_toArray, List.getElem_cons_succ, List.getElem_cons_zero]
                  refine wpAnyH_take (i := 11) (v := ?_) rfl (by kernel_rfl) (by kernel_rfl) (by kernel_rfl) (fun _ _ _ h => h) (Or.inl ⟨by rfl, ?_⟩) (by assumption) ?_
                  rotate_left
                  · intro w' hSw
                    go_simp <;> with_reducible rfl
                  try simp only [Act.put, List.setIfInBounds_toArray, List.set_cons_zero, List.set_cons_succ, List.getElem_toArray, List.getElem_cons_succ, List.getElem_cons_zero]
                  refine wpAnyH_ready (rs := [12]) (by kernel_rfl) (by simp) ?_
                  refine AllReadyH.cons rfl (fun K hK => ?_) AllReadyH.nil
                  · go_simp
                    refine hK.out _ _ (by exact OnS.set hHeld _ trivial (by omega) (by omega)) (fun hHeld => ?_)
                    clear hK K
                    try simp only [Act.put, List.setIfInBounds_toArray, List.set_cons_zero, List.set_cons_succ, List.getElem_toArray, List.getElem_cons_succ, List.getElem_cons_zero]
                    refine wpAnyH_done (by kernel_rfl) ?_ _
                    clear hc3 hc4 hc5 hf5 hown3 hgrow3 hat3 hlt3 hB3 hHeld
                    go_wp2_with fail
                    go_roundw
                    case rel =>
                      refine ⟨k + 1, .slice (some ⟨g, 0, none⟩) ((onL ls (l.take k)).length + 1) cap, by omega, by go_num, ?_⟩
                      rw [onL_take ls l k hlt]
                      exact HFIN.out
                    case measure => simp [intOf]; omega
          · go_simp
            go_at_call 29
            refine IHQ.out.mono ?_
            rintro e w1 ⟨a1, c1, rfl, hs1, hb1⟩
            have hc3 : ∀ o, (w1.alloc o).cell? ⟨O, 1, none⟩ = some u9 := fun o => ((XO.out.below hb1 hOl).alloc o).cell 1
            have hc4 : w1.cell? ⟨O, 1, none⟩ = some u9 := (XO.out.below hb1 hOl).cell 1
            go_simp
            refine hK.out _ _ (by exact OnS.below HS8.out hb1 HBW.out) (fun hHeld => ?_)
            clear hK K
            try simp only [Act.put, List.setIfInBounds_toArray, List.set_cons_zero, List.set_cons_succ, List.getElem_toArray, List.getElem_cons_succ, List.getElem_cons_zero]
            refine wpAnyH_ready (rs := [1, 9]) (by kernel_rfl) (by simp) ?_
            refine AllReadyH.cons rfl (fun K hK => ?_) (AllReadyH.cons rfl (fun K hK => ?_) AllReadyH.nil)
            · go_simp
              refine hK.out _ _ (by exact hHeld) (fun hHeld => ?_)
              clear hK K
              try simp only [Act.put, List.setIfInBounds_toArray, List.set_cons_zero, List.set_cons_succ, List.getElem_toArray, List.getElem_cons_succ, List.getElem_cons_zero]
              refine wpAnyH_ready (rs := [9]) (by kernel_rfl) (by simp) ?_
              refine AllReadyH.cons rfl (fun K hK => ?_) AllReadyH.nil
              · go_simp
                refine hK.out _ _ (by exact hHeld.alloc _) (fun hHeld => ?_)
                clear hK K
                try simp only [Act.put, List.setIfInBounds_toArray, List.set_cons_zero, List.set_cons_succ, List.getElem_toArray, List.getElem_cons_succ, List.getElem_cons_zero]
                refine wpAnyH_ready (rs := [10]) (by kernel_rfl) (by simp) ?_
                refine AllReadyH.cons rfl (fun K hK => ?_) AllReadyH.nil
                · refine step_append_lies _ rfl _ _ 23 rfl (O + 1) 25 i0 _ 2 40 Try.underlying23 hi0 hz0 hz1 hz2 rfl (by decide) u9 (onL ls (l.take k)).length xs rfl (by exact (XW.out.below hb1).own.alloc _) ⟨w1.heap.size, 0, none⟩ 1 1 [.string (onT ls l[k]).name, .slice a1 (onT ls l[k]).args.length c1] rfl rfl (cell_two_new _ _ _ _) (HN1.out a1 c1) (by decide) HL1.out.1 HL1.out.2 (by have := hb1.size; simp; omega) _ rfl ?_
                  intro g cap w3 hown3 hgrow3 hat3 hlt3
                  have hB3 := hide (((XO.out.below hb1 hOl).alloc _).grown hgrow3 (XW.out.ne (Nat.lt_succ_self _)))
                  have hc5 : w3.cell? ⟨O, 1, none⟩ = some u9 := hB3.out.cell 1
                  have hf5 := hB3.out.frozen 1
                  have HFIN := hide (on_step (c := c) (n := l.length) (a := some ⟨b, o, none⟩) hO hY XW.out XE.out XT.out XR.out XO.out hb1 ⟨a1, c1, rfl, hs1⟩ hown3 hgrow3 hat3)
                  refine hK.out _ _ (by exact OnS.grown hHeld hgrow3 (fun j hj => XW.out.ne (by omega)) hXb trivial) (fun hHeld => ?_)
                  clear hK K
                  try simp only [Act.put, List.setIfInBounds_toArray, List.set_cons_zero, List.set_cons_succ, List.getElem_toArray, List.getElem_cons_succ, List.getElem_cons_zero]
                  refine wpAnyH_take (i := 11) (v := ?_) rfl (by kernel_rfl) (by kernel_rfl) (by kernel_rfl) (fun _ _ _ h => h) (Or.inl ⟨by rfl, ?_⟩) (by assumption) ?_
                  rotate_left
                  · intro w' hSw
                    go_simp <;> with_reducible rfl
                  try simp only [Act.put, List.setIfInBounds_toArray, List.set_cons_zero, List.set_cons_succ, List.getElem_toArray, List.getElem_cons_succ, List.getElem_cons_zero]
                  refine wpAnyH_ready (rs := [12]) (by kernel_rfl) (by simp) ?_
                  refine AllReadyH.cons rfl (fun K hK => ?_) AllReadyH.nil
                  · go_simp
                    refine hK.out _ _ (by exact OnS.set hHeld _ trivial (by omega) (by omega)) (fun hHeld => ?_)
                    clear hK K
                    try simp only [Act.put, List.setIfInBounds_toArray, List.set_cons_zero, List.set_cons_succ, List.getElem_toArray, List.getElem_cons_succ, List.getElem_cons_zero]
                    refine wpAnyH_done (by kernel_rfl) ?_ _
                    clear hc3 hc4 hc5 hf5 hown3 hgrow3 hat3 hlt3 hB3 hHeld
                    go_wp2_with fail
                    go_roundw
                    case rel =>
                      refine ⟨k + 1, .slice (some ⟨g, 0, none⟩) ((onL ls (l.take k)).length + 1) cap, by omega, by go_num, ?_⟩
                      rw [onL_take ls l k hlt]
                      exact HFIN.out
                    case measure => simp [intOf]; omega
            · go_simp
              refine hK.out _ _ (by exact hHeld.alloc _) (fun hHeld => ?_)
              clear hK K
              try simp only [Act.put, List.setIfInBounds_toArray, List.set_cons_zero, List.set_cons_succ, List.getElem_toArray, List.getElem_cons_succ, List.getElem_cons_zero]
              refine wpAnyH_ready (rs := [1]) (by kernel_rfl) (by simp) ?_
              refine AllReadyH.cons rfl (fun K hK => ?_) AllReadyH.nil
              · go_simp
                refine hK.out _ _ (by exact hHeld) (fun hHeld => ?_)
                clear hK K
                try simp only [Act.put, List.setIfInBounds_toArray, List.set_cons_zero, List.set_cons_succ, List.getElem_toArray, List.getElem_cons_succ, List.getElem_cons_zero]
                refine wpAnyH_ready (rs := [10]) (by kernel_rfl) (by simp) ?_
                refine AllReadyH.cons rfl (fun K hK => ?_) AllReadyH.nil
                · refine step_append_lies _ rfl _ _ 23 rfl (O + 1) 25 i0 _ 2 40 Try.underlying23 hi0 hz0 hz1 hz2 rfl (by decide) u9 (onL ls (l.take k)).length xs rfl (by exact (XW.out.below hb1).own.alloc _) ⟨w1.heap.size, 0, none⟩ 1 1 [.string (onT ls l[k]).name, .slice a1 (onT ls l[k]).args.length c1] rfl rfl (cell_two_new _ _ _ _) (HN1.out a1 c1) (by decide) HL1.out.1 HL1.out.2 (by have := hb1.size; simp; omega) _ rfl ?_
                  intro g cap w3 hown3 hgrow3 hat3 hlt3
                  have hB3 := hide (((XO.out.below hb1 hOl).alloc _).grown hgrow3 (XW.out.ne (Nat.lt_succ_self _)))
                  have hc5 : w3.cell? ⟨O, 1, none⟩ = some u9 := hB3.out.cell 1
                  have hf5 := hB3.out.frozen 1
                  have HFIN := hide (on_step (c := c) (n := l.length) (a := some ⟨b, o, none⟩) hO hY XW.out XE.out XT.out XR.out XO.out hb1 ⟨a1, c1, rfl, hs1⟩ hown3 hgrow3 hat3)
                  refine hK.out _ _ (by exact OnS.grown hHeld hgrow3 (fun j hj => XW.out.ne (by omega)) hXb trivial) (fun hHeld => ?_)
                  clear hK K
                  try simp only [Act.put, List.setIfInBounds_toArray, List.set_cons_zero, List.set_cons_succ, List.getElem_toArray, List.getElem_cons_succ, List.getElem_cons_zero]
                  refine wpAnyH_take (i := 11) (v := ?_) rfl (by kernel_rfl) (by kernel_rfl) (by kernel_rfl) (fun _ _ _ h => h) (Or.inl ⟨by rfl, ?_⟩) (by assumption) ?_
                  rotate_left
                  · intro w' hSw
                    go_simp <;> with_reducible rfl
                  try simp only [Act.put, List.setIfInBounds_toArray, List.set_cons_zero, List.set_cons_succ, List.getElem_toArray, List.getElem_cons_succ, List.getElem_cons_zero]
                  refine wpAnyH_ready (rs := [12]) (by kernel_rfl) (by simp) ?_
                  refine AllReadyH.cons rfl (fun K hK => ?_) AllReadyH.nil
                  · go_simp
                    refine hK.out _ _ (by exact OnS.set hHeld _ trivial (by omega) (by omega)) (fun hHeld => ?_)
                    clear hK K
                    try simp only [Act.put, List.setIfInBounds_toArray, List.set_cons_zero, List.set_cons_succ, List.getElem_toArray, List.getElem_cons_succ, List.getElem_cons_zero]
                    refine wpAnyH_done (by kernel_rfl) ?_ _
                    clear hc3 hc4 hc5 hf5 hown3 hgrow3 hat3 hlt3 hB3 hHeld
                    go_wp2_with fail
                    go_roundw
                    case rel =>
                      refine ⟨k + 1, .slice (some ⟨g, 0, none⟩) ((onL ls (l.take k)).length + 1) cap, by omega, by go_num, ?_⟩
                      rw [onL_take ls l k hlt]
                      exact HFIN.out
                    case measure => simp [intOf]; omega
        · have htk : l.take k = l := List.take_of_length_le (by omega)
          rw [htk] at XW
          obtain ⟨a9, c9, hu9, hsl9⟩ := XW.out.sl
          subst hu9
          have S9 := hide hsl9
          have r0 : wr.cell? ⟨w.heap.size + 1, 0, none⟩ = some (.string ⟨#[]⟩) := XR.out.cell 0
          have r1 : wr.cell? ⟨w.heap.size + 1, 1, none⟩ = some (.slice none 0 0) := XR.out.cell 1
          have rf := XR.out.frozen
          clear hsl9 htk
          go_wp2_with fail
          refine bodyPost_ret (v := .agg #[.string s, .slice a9 (onL ls l).length c9]) (by simp [results, Try.results29, go_sem, World.cell?_setCell_same, World.cell?_setCell_other, r0, r1]) rfl ?_
          rw [HD.out]
          refine ⟨a9, c9, rfl, (S9.out.kept fun b hb => ?_).mono fun b hb _ => hb.imp id (fun h => by omega), (XE.out.setCell (by simp) _).setCell (by simp) _⟩
          have hbne : b ≠ w.heap.size + 1 := by
            rcases hb with h | h
            · have := h.2; omega
            · omega
          rw [Below.heap_setCell _ _ _ _ (by simpa using hbne), Below.heap_setCell _ _ _ _ (by simpa using hbne)]
#print axioms on_any
end Go.Proofs.Ytpjdkdebjkpmmaj

/- Walks: a term with bindings in it, if it isn't too great; whether bindings may be. -/
namespace Go.Proofs.Ytpjdkdebjkpmmaj
open Go.RowKit
set_option linter.unusedSimpArgs false
set_option linter.unusedVariables false
set_option maxRecDepth 8000

def OnAll (w : World) (X : Nat → Prop) (t : Tm) (e : Ending) (w' : World) : Prop :=
  Below w.heap.size w w' ∧ ((2000 < sizeL [t] ∧ e = .returned (.tuple #[.agg #[.string ⟨#[]⟩, .slice none 0 0], .bool false])) ∨ (sizeL [t] ≤ 2000 ∧ ∃ a c, e = .returned (.tuple #[.agg #[.string t.name, .slice a t.args.length c], .bool true]) ∧ Sl w' (fun b => (X b ∧ b < w.heap.size) ∨ w.heap.size ≤ b) a t.args))

set_option maxHeartbeats 1000000 in
theorem onAll_any (ls : List Bd) (t : Tm) (u v : Value) (w : World) (X : Nat → Prop) (hu : BV w X u ls) (hv : TV w X v t) (hsm : sizeL [t] ≤ 1000000) :
    Calls Try.prog 10 #[u, v] w fun e w' => OnAll w X (onT ls t) e w' := by
  obtain ⟨a, c, rfl, hs⟩ := hv
  have HU := hide (hu.mono (Y := fun b => X b ∧ b < w.heap.size) fun b h1 h2 => ⟨h1, h2⟩)
  have HS := hide (hs.mono (Y := fun b => X b ∧ b < w.heap.size) fun b h1 h2 => ⟨h1, h2⟩)
  clear hu hs
  go_enter Try.func10, Try.ntmps10
  go_wp2_with fail
  refine (grown_any ls t u _ 2000 _ (fun b => X b ∧ b < w.heap.size) (by exact (HU.out.alloc _).alloc _) (by exact ⟨a, c, rfl, (HS.out.later ((Below.refl _ _).alloc (Nat.le_refl _) _)).later ((Below.refl _ _).alloc (Nat.le_refl _) _)⟩) (by decide) (by decide)).mono ?_
  rintro e w1 ⟨rfl, hb1⟩
  have T1 := hide (((Blk.new w #[.string t.name, .slice a t.args.length c] 25).alloc (.cells #[.string ⟨#[]⟩, .slice none 0 0] 25)).below hb1 (by simp; omega))
  have R1 : Hid (Blk w1 (w.heap.size + 1) #[.string ⟨#[]⟩, .slice none 0 0] 25) := by
    have h := (Blk.new (w.alloc (.cells #[.string t.name, .slice a t.args.length c] 25)) #[.string ⟨#[]⟩, .slice none 0 0] 25).below hb1 (by simp)
    unfold Hid
    simpa using h
  have B1 := hide ((((Below.refl w.heap.size w).alloc (Nat.le_refl _) (.cells #[.string t.name, .slice a t.args.length c] 25)).alloc (by simp) (.cells #[.string ⟨#[]⟩, .slice none 0 0] 25)).trans (hb1.mono (by simp; omega)))
  clear hb1
  have t0 : w1.cell? ⟨w.heap.size, 0, none⟩ = some (.string t.name) := T1.out.cell 0
  have t1 : w1.cell? ⟨w.heap.size, 1, none⟩ = some (.slice a t.args.length c) := T1.out.cell 1
  have r0 : w1.cell? ⟨w.heap.size + 1, 0, none⟩ = some (.string ⟨#[]⟩) := R1.out.cell 0
  have r1 : w1.cell? ⟨w.heap.size + 1, 1, none⟩ = some (.slice none 0 0) := R1.out.cell 1
  have rf := R1.out.frozen
  by_cases hg : 2000 < sizeL [onT ls t]
  · have hmin : min (sizeL [onT ls t] : Int) (2000 + 1) = 2001 := by omega
    rw [hmin]
    go_wp2_with fail
    refine bodyPost_ret (v := .tuple #[.agg #[.string ⟨#[]⟩, .slice none 0 0], .bool false]) (by simp [results, Try.results10, go_sem, World.cell?_setCell_same, World.cell?_setCell_other, r0, r1]) rfl ?_
    exact ⟨(B1.out.setCell (by simp) _).setCell (by simp) _, Or.inl ⟨hg, rfl⟩⟩
  · have hmin : min (sizeL [onT ls t] : Int) (2000 + 1) = sizeL [onT ls t] := by omega
    rw [hmin]
    have hle : ¬ (2000 : Int) < (sizeL [onT ls t] : Int) := by omega
    clear hmin
    go_wp2_with fail
    refine (on_any ls t u _ _ (fun b => X b ∧ b < w.heap.size) (by exact HU.out.later B1.out) (by exact ⟨a, c, rfl, HS.out.later B1.out⟩) hsm).mono ?_
    rintro e w2 ⟨a2, c2, rfl, hs2, hb2⟩
    have R2 := hide (R1.out.below hb2 R1.out.lt)
    have B2 := hide (B1.out.trans (hb2.mono B1.out.size))
    have S2 := hide (hs2.mono (Y := fun b => (X b ∧ b < w.heap.size) ∨ w.heap.size + 2 ≤ b) fun b hb _ => hb.imp (fun h => h.1) (fun h => by have := R1.out.lt; omega))
    clear hb2 hs2 r0 r1 rf t0 t1
    have r0 : w2.cell? ⟨w.heap.size + 1, 0, none⟩ = some (.string ⟨#[]⟩) := R2.out.cell 0
    have r1 : w2.cell? ⟨w.heap.size + 1, 1, none⟩ = some (.slice none 0 0) := R2.out.cell 1
    have rf := R2.out.frozen
    go_wp2_with fail
    refine bodyPost_ret (v := .tuple #[.agg #[.string (onT ls t).name, .slice a2 (onT ls t).args.length c2], .bool true]) (by simp [results, Try.results10, go_sem, World.cell?_setCell_same, World.cell?_setCell_other, r0, r1]) rfl ?_
    refine ⟨(B2.out.setCell (by simp) _).setCell (by simp) _, Or.inr ⟨by omega, a2, c2, rfl, (S2.out.kept fun b hb => ?_).mono fun b hb _ => hb.imp id (fun h => by omega)⟩⟩
    have hbne : b ≠ w.heap.size + 1 := by
      rcases hb with h | h
      · have := h.2; omega
      · omega
    rw [Below.heap_setCell _ _ _ _ (by simpa using hbne), Below.heap_setCell _ _ _ _ (by simpa using hbne)]

#print axioms onAll_any
end Go.Proofs.Ytpjdkdebjkpmmaj


/- The law on matching a term made of raw numbers: it answers true. -/
namespace Go.Proofs.Ytpjdkdebjkpmmaj
open Go.RowKit
set_option linter.unusedSimpArgs false
set_option linter.unusedVariables false
set_option maxRecDepth 8000

/-- How great a term is with bindings in it. -/
theorem onL_size {ls : List Bd} {M : Nat} (hM : 1 ≤ M) (h : ∀ d ∈ ls, sizeL [d.t] ≤ M) : ∀ l : List Tm, sizeL (onL ls l) ≤ sizeL l * M := by
  intro l
  induction l using Tm.indL with
  | h0 => simp [onL, sizeL]
  | h s l r ihl ihr =>
    have e1 : sizeL (onL ls (⟨s, l⟩ :: r)) = sizeL [onT ls ⟨s, l⟩] + sizeL (onL ls r) := by
      rw [onL_cons]
      generalize onT ls ⟨s, l⟩ = x
      obtain ⟨s2, m⟩ := x
      simp [sizeL]
    have e2 : sizeL (⟨s, l⟩ :: r) = (1 + sizeL l) + sizeL r := by simp [sizeL]
    have h1 : sizeL [onT ls ⟨s, l⟩] ≤ (1 + sizeL l) * M := by
      have hdeep : sizeL [(⟨s, onL ls l⟩ : Tm)] ≤ (1 + sizeL l) * M := by
        simp only [sizeL]
        rw [Nat.add_mul]
        omega
      unfold onT onN
      cases hf : forT ls s with
      | none => exact hdeep
      | some x =>
        dsimp only
        split
        · obtain ⟨d, hd, _, rfl⟩ := forT_mem hf
          have := h d hd
          rw [Nat.add_mul]
          omega
        · exact hdeep
    rw [e1, e2, Nat.add_mul]
    omega
theorem onT_size {ls : List Bd} {M : Nat} (hM : 1 ≤ M) (h : ∀ d ∈ ls, sizeL [d.t] ≤ M) (t : Tm) : sizeL [onT ls t] ≤ sizeL [t] * M := by
  have h1 := onL_size hM h [t]
  rw [onL_cons] at h1
  simpa [onL] using h1

/-- What the region that makes the instance leaves. -/
def MmB (w3 : World) (Q : Nat) (s : ByteArray) (a : Option Addr) (n c : Nat) (l0 : List Tm) (w9 : World) : Prop := Blk w9 Q #[.string s, .slice a n c] 25 ∧ Below w3.heap.size w3 w9 ∧ Sl w9 (fun _ => True) a l0
theorem mmB_set {w3 w8 : World} {Q n c : Nat} {s : ByteArray} {a : Option Addr} {l0 : List Tm} (hQ : Blk w8 Q #[.string ⟨#[]⟩, .slice none 0 0] 25) (hw : w3.heap.size ≤ Q) (hb : Below w3.heap.size w3 w8) (hs : Sl w8 (fun b => b ≠ Q) a l0) :
    MmB w3 Q s a n c l0 ((w8.setCell ⟨Q, 0, none⟩ (.string s)).setCell ⟨Q, 1, none⟩ (.slice a n c)) :=
  ⟨(hQ.set 0 _).set 1 _, (hb.setCell (by exact hw) _).setCell (by exact hw) _, (hs.kept fun b hb => by
    rw [Below.heap_setCell _ _ _ _ (by simpa using hb), Below.heap_setCell _ _ _ _ (by simpa using hb)]).mono fun b hb _ => trivial⟩

end Go.Proofs.Ytpjdkdebjkpmmaj
