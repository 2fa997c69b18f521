/- Several texts in one. -/
import Derived.Test.YtakmclheffbeaaaDoorZGeneralMadeOwn
import Derived.Deep.RegionHeld3
import Derived.Test.YtakmclheffbeaaaDoorShelf
import Derived.Ground.SlgnProg
import Derived.Shelf.SlicesE.Clone
import Derived.Deep.DeepCutAuto
import Derived.Deep.RegionHeld
/- Walks: two terms that are the same. -/
namespace Go.Proofs.YtakmclheffbeaaaDoor
open Go.RowKit
set_option linter.unusedSimpArgs false
set_option linter.unusedVariables false

theorem same_cells {w w1 : World} {n : Nat} {p1 p2 p3 p4 p5 p6 : Addr} {v1 v2 v3 v4 v5 v6 : Value} (hb : Below (w.drewN n).heap.size (w.drewN n) w1)
    (h : w.cell? p1 = some v1 ∧ w.cell? p2 = some v2 ∧ w.cell? p3 = some v3 ∧ w.cell? p4 = some v4 ∧ w.cell? p5 = some v5 ∧ w.cell? p6 = some v6) :
    w1.cell? p1 = some v1 ∧ w1.cell? p2 = some v2 ∧ w1.cell? p3 = some v3 ∧ w1.cell? p4 = some v4 ∧ w1.cell? p5 = some v5 ∧ w1.cell? p6 = some v6 := by
  have hb' : Below w.heap.size w w1 := (below_drewN (Below.refl _ _) n).trans (hb.mono (by simp))
  exact ⟨cell_later hb' h.1, cell_later hb' h.2.1, cell_later hb' h.2.2.1, cell_later hb' h.2.2.2.1, cell_later hb' h.2.2.2.2.1, cell_later hb' h.2.2.2.2.2⟩

set_option maxHeartbeats 1000000 in
theorem same_any (t : Tm) : ∀ (v u : Value) (w : World) (X Y : Nat → Prop), TV w X v t → TV w Y u t →
    Calls Tryd.prog 26 #[v, u] w fun e w' => e = .returned (.bool true) ∧ Below w.heap.size w w' := by
  induction t using Tm.ind with
  | h s l ih =>
    intro v u w X Y hv hu
    have IH := hide ih
    clear ih
    obtain ⟨a, c, rfl, hs⟩ := hv
    obtain ⟨a2, c2, rfl, hs2⟩ := hu
    have hl := hs.1
    go_enter Tryd.func26, Tryd.ntmps26
    go_wp2_with fail
    go_loopw [5] (fun i wr => ∃ (k : Nat), k ≤ l.length ∧ i = .int .i64 k ∧ Below w.heap.size w wr ∧ wr.cell? ⟨w.heap.size, 1, none⟩ = some (.slice a l.length c) ∧ wr.cell? ⟨w.heap.size + 1, 1, none⟩ = some (.slice a2 l.length c2) ∧ w.heap.size + 2 ≤ wr.heap.size) (fun i wr => l.length - (intOf i).toNat)
    case atStart => exact ⟨0, Nat.zero_le _, rfl, below2 _ _, by simp, by simp, by simp⟩
    case round =>
      obtain ⟨k, hk, rfl, hb, hc1, hc2, hsz⟩ := hrel
      by_cases hlt : k < l.length
      · obtain ⟨b, o, a', c', rfl, d0, d1, hx⟩ := hs.get hb (fun _ _ h => h) k hlt
        obtain ⟨b2, o2, a2', c2', rfl, e0, e1, hx2⟩ := hs2.get hb (fun _ _ h => h) k hlt
        have HX := hide hx
        have HX2 := hide hx2
        have HB := hide hb
        have HS0 := hide (And.intro hc1 (And.intro hc2 (And.intro d0 (And.intro d1 (And.intro e0 e1)))))
        clear hx hx2 hb
        go_wp2_with fail
        go_region_held3 (fun w' => w'.cell? ⟨w.heap.size, 1, none⟩ = some (.slice (some ⟨b, o, none⟩) l.length c) ∧ w'.cell? ⟨w.heap.size + 1, 1, none⟩ = some (.slice (some ⟨b2, o2, none⟩) l.length c2) ∧ w'.cell? ⟨b, o + k * 2, none⟩ = some (.string l[k].name) ∧ w'.cell? ⟨b, o + k * 2 + 1, none⟩ = some (.slice a' l[k].args.length c') ∧ w'.cell? ⟨b2, o2 + k * 2, none⟩ = some (.string l[k].name) ∧ w'.cell? ⟨b2, o2 + k * 2 + 1, none⟩ = some (.slice a2' l[k].args.length c2')) (first | exact HS0.out | exact hS1)
          ((go_at_call 26; refine (IH.out _ (List.getElem_mem hlt) _ _ _ X Y (by exact HX.out.later (below_drewN (Below.refl _ _) 1)) (by exact HX2.out.later (below_drewN (Below.refl _ _) 1))).mono ?_; rintro e w1 ⟨rfl, hb1⟩; have hS1 := same_cells (n := 1) hb1 HS0.out))
        go_wp2_with fail
        go_roundw
        case rel => exact ⟨k + 1, by omega, by go_num, (HB.out.trans (below_drewN (Below.refl _ _) 1)).trans (hb1.mono (by simp; omega)), hS1.1, hS1.2.1, by have := hb1.size; simp at this; omega⟩
        case measure => simp [intOf]; omega
      · go_wp2_with fail
        go_ret
        exact ⟨rfl, hb⟩
end Go.Proofs.YtakmclheffbeaaaDoor

/- Walks: whether two terms are the same. -/
namespace Go.Proofs.YtakmclheffbeaaaDoor
open Go.RowKit
set_option linter.unusedSimpArgs false
set_option linter.unusedVariables false
set_option maxRecDepth 8000

def eqL : List Tm → List Tm → Bool
  | [], [] => true
  | ⟨s, a⟩ :: r, t :: ts => ((s.toList == t.name.toList) && ((a.length == t.args.length) && eqL a t.args)) && eqL r ts
  | _, _ => false
/-- Two terms are the same. -/
def sameB (a b : Tm) : Bool := (a.name.toList == b.name.toList) && ((a.args.length == b.args.length) && eqL a.args b.args)
theorem eqL_cons (x t : Tm) (r ts : List Tm) : eqL (x :: r) (t :: ts) = (sameB x t && eqL r ts) := by obtain ⟨s, a⟩ := x; simp only [eqL, sameB]
theorem eqL_append : ∀ (a b c d : List Tm), a.length = b.length → eqL (a ++ c) (b ++ d) = (eqL a b && eqL c d)
  | [], [], c, d, _ => by simp [eqL]
  | [], _ :: _, _, _, h => by simp at h
  | _ :: _, [], _, _, h => by simp at h
  | x :: r, t :: ts, c, d, h => by rw [List.cons_append, List.cons_append, eqL_cons, eqL_cons, eqL_append r ts c d (by simpa using h), Bool.and_assoc]
theorem eqL_take {l m : List Tm} {k : Nat} (h : k < l.length) (h2 : k < m.length) : eqL (l.take (k + 1)) (m.take (k + 1)) = (eqL (l.take k) (m.take k) && sameB l[k] m[k]) := by
  rw [List.take_succ_eq_append_getElem h, List.take_succ_eq_append_getElem h2, eqL_append _ _ _ _ (by simp; omega), eqL_cons]
  simp [eqL]
theorem eqL_no {l m : List Tm} {k : Nat} (h : k < l.length) (hlm : l.length = m.length) (h0 : sameB l[k] (m[k]'(by omega)) = false) : eqL l m = false := by
  have e1 : l = l.take (k + 1) ++ l.drop (k + 1) := (List.take_append_drop _ _).symm
  have e2 : m = m.take (k + 1) ++ m.drop (k + 1) := (List.take_append_drop _ _).symm
  rw [e1, e2, eqL_append _ _ _ _ (by simp; omega), eqL_take h (by omega), h0]
  simp

def SaInv (w : World) (l m : List Tm) (a a2 : Option Addr) (c c2 : Nat) (i : Value) (wr : World) : Prop :=
  ∃ (k : Nat), k ≤ l.length ∧ i = .int .i64 k ∧ eqL (l.take k) (m.take k) = true ∧ Below w.heap.size w wr ∧ wr.cell? ⟨w.heap.size, 1, none⟩ = some (.slice a l.length c) ∧ wr.cell? ⟨w.heap.size + 1, 1, none⟩ = some (.slice a2 l.length c2) ∧ w.heap.size + 2 ≤ wr.heap.size

set_option maxHeartbeats 2000000 in
theorem sameR_all (t : Tm) : ∀ (x : Tm) (v u : Value) (w : World) (X Y : Nat → Prop), TV w X v t → TV w Y u x →
    Calls Tryd.prog 26 #[v, u] w fun e w' => e = .returned (.bool (sameB t x)) ∧ Below w.heap.size w w' := by
  induction t using Tm.ind with
  | h s l ih =>
    intro x v u w X Y hv hu
    obtain ⟨s2, m⟩ := x
    have IH := hide ih
    clear ih
    obtain ⟨a, c, rfl, hs⟩ := hv
    obtain ⟨a2, c2, rfl, hs2⟩ := hu
    have hl := hs.1
    have hl2 := hs2.1
    dsimp only
    cases hn : (s.toList == s2.toList) with
    | false =>
      have HR : Hid (false = sameB ⟨s, l⟩ ⟨s2, m⟩) := by unfold Hid sameB; rw [hn]; rfl
      go_enter Tryd.func26, Tryd.ntmps26
      go_wp2_with fail
      go_ret
      exact ⟨ret_bool HR.out, below2 _ _⟩
    | true =>
      by_cases hm : l.length = m.length
      · have HR : Hid (eqL l m = sameB ⟨s, l⟩ ⟨s2, m⟩) := by unfold Hid sameB; simp [hn, hm]
        have HM := hide hm
        rw [← hm]
        clear hm
        go_enter Tryd.func26, Tryd.ntmps26
        go_wp2_with fail
        go_loopw [5] (fun i wr => SaInv w l m a a2 c c2 i wr) (fun i wr => l.length - (intOf i).toNat)
        case atStart => exact ⟨0, Nat.zero_le _, rfl, by simp [eqL], below2 _ _, by simp, by simp, by simp⟩
        case round =>
          obtain ⟨k, hk, rfl, hq, hb, hc1, hc2, hsz⟩ := hrel
          have HQ := hide hq
          clear hq
          by_cases hlt : k < l.length
          · obtain ⟨b, o, a', c', rfl, d0, d1, hx⟩ := hs.get hb (fun _ _ h => h) k hlt
            obtain ⟨b2, o2, a2', c2', rfl, e0, e1, hx2⟩ := hs2.get hb (fun _ _ h => h) k (by have := HM.out; omega)
            have hltm : k < m.length := by have := HM.out; omega
            have HX := hide hx
            have HX2 := hide hx2
            have HB := hide hb
            have HS0 := hide (And.intro hc1 (And.intro hc2 (And.intro d0 (And.intro d1 (And.intro e0 e1)))))
            have IHK := hide (fun (w' : World) => IH.out l[k] (List.getElem_mem hlt) m[k] (.agg #[.string l[k].name, .slice a' l[k].args.length c']) (.agg #[.string m[k].name, .slice a2' m[k].args.length c2']) w' X Y)
            have HT := hide (eqL_take hlt hltm)
            have HNO := hide (eqL_no hlt HM.out)
            clear hx hx2 hb
            generalize l[k] = y at *
            generalize m[k] = z at *
            go_wp2_with fail
            cases hsm : sameB y z with
            | true =>
              rw [hsm] at IHK HT
              go_region_held3 (fun w' => w'.cell? ⟨w.heap.size, 1, none⟩ = some (.slice (some ⟨b, o, none⟩) l.length c) ∧ w'.cell? ⟨w.heap.size + 1, 1, none⟩ = some (.slice (some ⟨b2, o2, none⟩) l.length c2) ∧ w'.cell? ⟨b, o + k * 2, none⟩ = some (.string y.name) ∧ w'.cell? ⟨b, o + k * 2 + 1, none⟩ = some (.slice a' y.args.length c') ∧ w'.cell? ⟨b2, o2 + k * 2, none⟩ = some (.string z.name) ∧ w'.cell? ⟨b2, o2 + k * 2 + 1, none⟩ = some (.slice a2' z.args.length c2')) (first | exact HS0.out | exact hS1 | go_keep)
                ((go_at_call 26; refine (IHK.out _ (by exact HX.out.later (below_drewN (Below.refl _ _) 1)) (by exact HX2.out.later (below_drewN (Below.refl _ _) 1))).mono ?_; rintro e w1 ⟨rfl, hb1⟩; have hS1 := same_cells (n := 1) hb1 HS0.out))
              go_wp2_with fail
              go_roundw
              case rel => exact ⟨k + 1, by omega, by go_num, by rw [HT.out, HQ.out]; rfl, (HB.out.trans (below_drewN (Below.refl _ _) 1)).trans (hb1.mono (by simp; omega)), hS1.1, hS1.2.1, by have := hb1.size; simp at this; omega⟩
              case measure => simp [intOf]; omega
            | false =>
              have HF : Hid (false = sameB ⟨s, l⟩ ⟨s2, m⟩) := by unfold Hid; rw [← HR.out, HNO.out hsm]
              rw [hsm] at IHK
              go_region_held3 (fun w' => w'.cell? ⟨w.heap.size, 1, none⟩ = some (.slice (some ⟨b, o, none⟩) l.length c) ∧ w'.cell? ⟨w.heap.size + 1, 1, none⟩ = some (.slice (some ⟨b2, o2, none⟩) l.length c2) ∧ w'.cell? ⟨b, o + k * 2, none⟩ = some (.string y.name) ∧ w'.cell? ⟨b, o + k * 2 + 1, none⟩ = some (.slice a' y.args.length c') ∧ w'.cell? ⟨b2, o2 + k * 2, none⟩ = some (.string z.name) ∧ w'.cell? ⟨b2, o2 + k * 2 + 1, none⟩ = some (.slice a2' z.args.length c2')) (first | exact HS0.out | exact hS1 | go_keep)
                ((go_at_call 26; refine (IHK.out _ (by exact HX.out.later (below_drewN (Below.refl _ _) 1)) (by exact HX2.out.later (below_drewN (Below.refl _ _) 1))).mono ?_; rintro e w1 ⟨rfl, hb1⟩; have hS1 := same_cells (n := 1) hb1 HS0.out))
              go_wp2_with fail
              go_ret
              exact ⟨ret_bool HF.out, (HB.out.trans (below_drewN (Below.refl _ _) 1)).trans (hb1.mono (by simp; omega))⟩
          · have HF : Hid (true = sameB ⟨s, l⟩ ⟨s2, m⟩) := by
              unfold Hid
              rw [← HR.out, ← HQ.out, List.take_of_length_le (by omega), List.take_of_length_le (by have := HM.out; omega)]
            go_wp2_with fail
            go_ret
            exact ⟨ret_bool HF.out, hb⟩
      · have HR : Hid (false = sameB ⟨s, l⟩ ⟨s2, m⟩) := by unfold Hid sameB; simp [hn, hm]
        have hm2 : ((l.length : Int) == (m.length : Int)) = false := beq_eq_false_iff_ne.2 (by omega)
        clear hm
        go_enter Tryd.func26, Tryd.ntmps26
        go_wp2_with fail
        go_ret
        exact ⟨ret_bool HR.out, below2 _ _⟩
end Go.Proofs.YtakmclheffbeaaaDoor

/- Texts read as terms: what both readers do. -/
namespace Go.Proofs.YtakmclheffbeaaaDoor
open Go.RowKit
set_option linter.unusedSimpArgs false
set_option linter.unusedVariables false

/-- What reading gives: an error (0: none), a term, where it ended, how many knots there were. -/
structure Rd where
  err : Int
  t : Tm
  pos : Nat
  k : Nat
end Go.Proofs.YtakmclheffbeaaaDoor

/- The text of a term. -/
namespace Go.Proofs.YtakmclheffbeaaaDoor

/-- The texts of a list of terms, commas between. -/
def txtL : List Tm → List UInt8
  | [] => []
  | ⟨s, l⟩ :: r => s.data.toList ++ (if l.isEmpty = true then [] else 40 :: (txtL l ++ [41])) ++ (if r.isEmpty = true then [] else 44 :: txtL r)

/-- A name, and the first k below it, without the last bracket. -/
def txtTo (s : ByteArray) (l : List Tm) (k : Nat) : List UInt8 := if k = 0 then s.data.toList else s.data.toList ++ 40 :: txtL (l.take k)

theorem txtL_one (s : ByteArray) (l : List Tm) : txtL [(⟨s, l⟩ : Tm)] = s.data.toList ++ (if l.isEmpty = true then [] else 40 :: (txtL l ++ [41])) := by simp [txtL]

theorem txtL_cons (t : Tm) (r : List Tm) (h : r ≠ []) : txtL (t :: r) = txtL [t] ++ 44 :: txtL r := by
  obtain ⟨s, l⟩ := t
  rw [txtL_one]
  have hr : (r.isEmpty = true) = False := by simpa using h
  simp only [txtL, hr, if_false]

theorem txtL_append (a b : List Tm) (ha : a ≠ []) (hb : b ≠ []) : txtL (a ++ b) = txtL a ++ 44 :: txtL b := by
  induction a with
  | nil => exact absurd rfl ha
  | cons t r ih =>
    by_cases hr : r = []
    · subst hr; simpa using txtL_cons t b hb
    · rw [List.cons_append, txtL_cons t (r ++ b) (by simp [hr]), ih hr, txtL_cons t r hr]
      simp

theorem txt_nil (s : ByteArray) : txtL [(⟨s, []⟩ : Tm)] = s.data.toList := by simp [txtL]

theorem txtTo_len (s : ByteArray) (l : List Tm) (k : Nat) (hk : k ≤ l.length) : (txtTo s l k).length ≤ (txtL [(⟨s, l⟩ : Tm)]).length := by
  rw [txtL_one]
  unfold txtTo
  by_cases h0 : k = 0
  · rw [if_pos h0]; simp
  · rw [if_neg h0]
    have hl : l ≠ [] := by intro e; subst e; simp at hk; omega
    rw [if_neg (by simpa using hl)]
    by_cases hd : l.drop k = []
    · have : l.take k = l := by have h2 := List.take_append_drop k l; rw [hd] at h2; simpa using h2
      rw [this]; simp
    · have ht : l.take k ≠ [] := by
        intro e
        have h3 := congrArg List.length e
        rw [List.length_take] at h3
        simp only [List.length_nil] at h3
        have hlp := List.length_pos_iff.2 hl
        omega
      have h2 := txtL_append (l.take k) (l.drop k) ht hd
      rw [List.take_append_drop] at h2
      rw [h2]; simp only [List.length_append, List.length_cons]; omega
end Go.Proofs.YtakmclheffbeaaaDoor

/- What was written is read again. -/
namespace Go.Proofs.YtakmclheffbeaaaDoor
open Go.RowKit
set_option linter.unusedSimpArgs false
set_option linter.unusedVariables false

theorem byteAt_list (s : ByteArray) (j : Nat) (c : UInt8) (h : s.data.toList[j]? = some c) : byteAt s j = (c.toNat : Int) := by
  have hj : j < s.data.toList.length := by
    rcases Nat.lt_or_ge j s.data.toList.length with h' | h'
    · exact h'
    · rw [List.getElem?_eq_none h'] at h; cases h
  have hs : j < s.size := by simpa using hj
  unfold byteAt
  rw [dif_pos hs]
  have : s.data.toList[j]? = some s[j] := by
    rw [List.getElem?_eq_getElem hj]; rfl
  rw [this] at h
  cases h
  rfl

theorem size_list (s : ByteArray) : s.size = s.data.toList.length := by simp

/-- The letters of a name are letters or digits. -/
theorem name_aln {nm : ByteArray} (h : nameB nm = true) : ∀ c ∈ nm.data.toList, alnB (c.toNat : Int) = true := by
  intro c hc
  obtain ⟨j, hj, hjc⟩ := List.getElem_of_mem hc
  have h2 : alnTo nm nm.size = true := by
    unfold nameB at h
    simp only [Bool.and_eq_true] at h
    exact h.2
  unfold alnTo at h2
  rw [List.all_eq_true] at h2
  have h3 := h2 j (by rw [List.mem_range, size_list]; exact hj)
  rw [byteAt_list nm j c (by rw [List.getElem?_eq_getElem hj, hjc])] at h3
  exact h3
/-- What may stand behind a term. -/
def Behind (post : List UInt8) : Prop := post = [] ∨ ∃ c r, post = c :: r ∧ (c = 41 ∨ c = 44)

end Go.Proofs.YtakmclheffbeaaaDoor

/- No two terms have one text, nor two pairs of terms, with a sign between them: plain. -/
namespace Go.Proofs.YtakmclheffbeaaaDoor
open Go.RowKit
set_option linter.unusedSimpArgs false
set_option linter.unusedVariables false

/-- What may stand behind a term. -/
def Beh (x : List UInt8) : Prop := x = [] ∨ ∃ c r, x = c :: r ∧ (c = 41 ∨ c = 44 ∨ c = 61)
/-- What ends a name. -/
def Ends (x : List UInt8) : Prop := x = [] ∨ ∃ c r, x = c :: r ∧ alnB (c.toNat : Int) = false
theorem Beh.ends {x : List UInt8} (h : Beh x) : Ends x := by
  rcases h with h | ⟨c, r, e, h⟩
  · exact Or.inl h
  · refine Or.inr ⟨c, r, e, ?_⟩
    rcases h with rfl | rfl | rfl <;> decide
theorem name_split : ∀ (n m : List UInt8) {x y : List UInt8}, (∀ c ∈ n, alnB (c.toNat : Int) = true) → (∀ c ∈ m, alnB (c.toNat : Int) = true) → Ends x → Ends y → n ++ x = m ++ y → n = m ∧ x = y
  | [], [], x, y, _, _, _, _, h => ⟨rfl, by simpa using h⟩
  | [], c :: m, x, y, _, hm, hx, _, h => by
    exfalso
    have h : x = c :: (m ++ y) := by simpa using h
    have h1 := hm c (by simp)
    rcases hx with hx | ⟨d, r, e, h2⟩
    · rw [hx] at h; cases h
    · rw [e] at h
      injection h with h3 h4
      rw [← h3, h2] at h1
      cases h1
  | c :: n, [], x, y, hn, _, _, hy, h => by
    exfalso
    have h : c :: (n ++ x) = y := by simpa using h
    have h1 := hn c (by simp)
    rcases hy with hy | ⟨d, r, e, h2⟩
    · rw [hy] at h; cases h
    · rw [e] at h
      injection h with h3 h4
      rw [h3, h2] at h1
      cases h1
  | c :: n, d :: m, x, y, hn, hm, hx, hy, h => by
    have h : c :: (n ++ x) = d :: (m ++ y) := by simpa using h
    injection h with h1 h2
    obtain ⟨e1, e2⟩ := name_split n m (fun z hz => hn z (by simp [hz])) (fun z hz => hm z (by simp [hz])) hx hy h2
    exact ⟨by rw [h1, e1], e2⟩
theorem errL_parts0 {s : ByteArray} {l : List Tm} (h : errL [(⟨s, l⟩ : Tm)] = 0) : errL l = 0 := by
  simp only [errL] at h
  repeat' split at h
  all_goals first | (cases h; done) | assumption | simp_all
theorem errL_name0 {s : ByteArray} {l : List Tm} (h : errL [(⟨s, l⟩ : Tm)] = 0) : nameB s = true := by
  simp only [errL] at h
  repeat' split at h
  all_goals first | (cases h; done) | assumption | simp_all
def OneT (t : Tm) : Prop := ∀ (u : Tm) (x y : List UInt8), errL [t] = 0 → errL [u] = 0 → Beh x → Beh y → txtL [t] ++ x = txtL [u] ++ y → t = u ∧ x = y
theorem oneL : ∀ (l : List Tm), (∀ t ∈ l, OneT t) → ∀ (k : List Tm) (x y : List UInt8), l ≠ [] → k ≠ [] → errL l = 0 → errL k = 0 → txtL l ++ 41 :: x = txtL k ++ 41 :: y → l = k ∧ x = y
  | [], _, k, x, y, h, _, _, _, _ => absurd rfl h
  | t :: r, hT, [], x, y, _, h, _, _, _ => absurd rfl h
  | t :: r, hT, u :: q, x, y, _, _, he, hf, hh => by
    have e1 : errL [t] = 0 ∧ errL r = 0 := by
      rw [errL_cons] at he
      split at he
      · rename_i h; exact ⟨h, he⟩
      · rename_i h; exact absurd he h
    have e2 : errL [u] = 0 ∧ errL q = 0 := by
      rw [errL_cons] at hf
      split at hf
      · rename_i h; exact ⟨h, hf⟩
      · rename_i h; exact absurd hf h
    have T := hT t (by simp)
    by_cases hr : r = []
    · subst hr
      by_cases hq : q = []
      · subst hq
        obtain ⟨h1, h2⟩ := T u _ _ e1.1 e2.1 (Or.inr ⟨41, x, rfl, by simp⟩) (Or.inr ⟨41, y, rfl, by simp⟩) hh
        injection h2 with _ h2
        exact ⟨by rw [h1], h2⟩
      · rw [txtL_cons u q hq, List.append_assoc, List.cons_append] at hh
        obtain ⟨_, h2⟩ := T u _ _ e1.1 e2.1 (Or.inr ⟨41, x, rfl, by simp⟩) (Or.inr ⟨44, _, rfl, by simp⟩) hh
        injection h2 with h2 _
        cases h2
    · rw [txtL_cons t r hr, List.append_assoc, List.cons_append] at hh
      by_cases hq : q = []
      · subst hq
        obtain ⟨_, h2⟩ := T u _ _ e1.1 e2.1 (Or.inr ⟨44, _, rfl, by simp⟩) (Or.inr ⟨41, y, rfl, by simp⟩) hh
        injection h2 with h2 _
        cases h2
      · rw [txtL_cons u q hq, List.append_assoc, List.cons_append] at hh
        obtain ⟨h1, h2⟩ := T u _ _ e1.1 e2.1 (Or.inr ⟨44, _, rfl, by simp⟩) (Or.inr ⟨44, _, rfl, by simp⟩) hh
        injection h2 with _ h2
        obtain ⟨h3, h4⟩ := oneL r (fun t ht => hT t (by simp [ht])) q x y hr hq e1.2 e2.2 h2
        exact ⟨by rw [h1, h3], h4⟩
/-- No two terms have one text. -/
theorem oneT (t : Tm) : OneT t := by
  induction t using Tm.ind with
  | h s l ih =>
    rintro ⟨s', k⟩ x y he hf hx hy hh
    have nm : nameB s = true := errL_name0 he
    have nm' : nameB s' = true := errL_name0 hf
    rw [txtL_one, txtL_one, List.append_assoc, List.append_assoc] at hh
    have ends : ∀ (l : List Tm) (x : List UInt8), Beh x → Ends ((if l.isEmpty = true then [] else 40 :: (txtL l ++ [41])) ++ x) := fun l x hx => by
      by_cases hl : l.isEmpty = true
      · rw [if_pos hl]; exact hx.ends
      · rw [if_neg hl]; exact Or.inr ⟨40, _, rfl, by decide⟩
    obtain ⟨h1, h2⟩ := name_split _ _ (name_aln nm) (name_aln nm') (ends l x hx) (ends k y hy) hh
    have hs : s = s' := by
      obtain ⟨⟨a⟩⟩ := s
      obtain ⟨⟨b⟩⟩ := s'
      have : a = b := h1
      rw [this]
    have no40 : ∀ {x z : List UInt8}, Beh x → x ≠ 40 :: z := fun {x z} hx h => by
      rcases hx with hx | ⟨c, r, e, hc⟩
      · rw [hx] at h; cases h
      · rw [e] at h
        injection h with h _
        rw [h] at hc
        revert hc
        decide
    have e1 : errL l = 0 := (errL_parts0 he)
    have e2 : errL k = 0 := (errL_parts0 hf)
    cases l with
    | nil =>
      cases k with
      | nil => exact ⟨by rw [hs], by simpa using h2⟩
      | cons u k => exact absurd (by simpa using h2) (no40 (z := txtL (u :: k) ++ 41 :: y) hx)
    | cons t l =>
      cases k with
      | nil => exact absurd (by simpa using h2.symm) (no40 (z := txtL (t :: l) ++ 41 :: x) hy)
      | cons u k =>
        have h3 : txtL (t :: l) ++ 41 :: x = txtL (u :: k) ++ 41 :: y := by simpa using h2
        obtain ⟨h4, h5⟩ := oneL (t :: l) ih (u :: k) x y (by simp) (by simp) e1 e2 h3
        exact ⟨by rw [hs, h4], h5⟩
theorem txt_inj {t u : Tm} (ht : errL [t] = 0) (hu : errL [u] = 0) (h : txtL [t] = txtL [u]) : t = u := (oneT t u [] [] ht hu (Or.inl rfl) (Or.inl rfl) (by rw [h])).1
/-- Nor two pairs of terms. -/
theorem key_inj {a b c d : Tm} (ha : errL [a] = 0) (hb : errL [b] = 0) (hc : errL [c] = 0) (hd : errL [d] = 0) (h : txtL [a] ++ 61 :: txtL [b] = txtL [c] ++ 61 :: txtL [d]) : a = c ∧ b = d := by
  obtain ⟨h1, h2⟩ := oneT a c _ _ ha hc (Or.inr ⟨61, _, rfl, by simp⟩) (Or.inr ⟨61, _, rfl, by simp⟩) h
  injection h2 with _ h2
  exact ⟨h1, txt_inj hb hd h2⟩
end Go.Proofs.YtakmclheffbeaaaDoor

/- Plain: what two terms have in common, by the pairs that were met. -/
namespace Go.Proofs.YtakmclheffbeaaaDoor
open Go.RowKit
set_option linter.unusedSimpArgs false
set_option linter.unusedVariables false
set_option maxRecDepth 8000

/-- The text of a pair. -/
def kyT (p : Pr) : ByteArray := ⟨(txtL [p.l] ++ 61 :: txtL [p.r]).toArray⟩
def OkPr (p : Pr) : Prop := errL [p.l] = 0 ∧ errL [p.r] = 0
theorem kyT_inj {p q : Pr} (hp : OkPr p) (hq : OkPr q) (h : kyT p = kyT q) : p = q := by
  unfold kyT at h
  simp only [ByteArray.mk.injEq] at h
  have h1 := congrArg Array.toList h
  simp only [List.toList_toArray] at h1
  obtain ⟨e1, e2⟩ := key_inj hp.1 hp.2 hq.1 hq.2 h1
  obtain ⟨a, b⟩ := p
  obtain ⟨c, d⟩ := q
  simp only at e1 e2
  rw [e1, e2]
/-- The place of a pair among those met. -/
def idxP (p : Pr) (h : List Pr) : Nat := idxS (kyT p) (h.map kyT)
def addP (h : List Pr) (p : Pr) : List Pr := if idxP p h < h.length then h else h ++ [p]
theorem addP_keys (h : List Pr) (p : Pr) : (addP h p).map kyT = addS (h.map kyT) (kyT p) := by
  unfold addP addS idxP
  simp only [List.length_map]
  split <;> simp
theorem idxP_le (p : Pr) (h : List Pr) : idxP p h ≤ h.length := by
  have := idxS_le (kyT p) (h.map kyT)
  simpa [idxP] using this
theorem idxS_at (s : ByteArray) : ∀ (l : List ByteArray) (h : idxS s l < l.length), l[idxS s l] = s
  | n :: r, h => by
    by_cases e : n = s
    · simp [idxS, e]
    · have h2 : idxS s r < r.length := by simp [idxS, e] at h; omega
      have := idxS_at s r h2
      simp [idxS, e, this]
theorem idxS_first (s : ByteArray) : ∀ (l : List ByteArray) (k : Nat) (h : k < l.length), k < idxS s l → l[k] ≠ s
  | n :: r, 0, h, hk => by
    intro e
    simp at e
    simp [idxS, e] at hk
  | n :: r, k + 1, h, hk => by
    by_cases e : n = s
    · simp [idxS, e] at hk
    · simp [idxS, e] at hk
      simpa using idxS_first s r k (by simpa using h) hk
/-- The pair that stands there is it; none ahead of it is. -/
theorem idxP_at {p : Pr} {h : List Pr} (hp : OkPr p) (hh : ∀ q ∈ h, OkPr q) (hl : idxP p h < h.length) : h[idxP p h] = p := by
  have h1 := idxS_at (kyT p) (h.map kyT) (by simpa [idxP] using hl)
  simp only [List.getElem_map] at h1
  exact kyT_inj (hh _ (List.getElem_mem _)) hp h1
theorem idxP_first {p : Pr} {h : List Pr} {k : Nat} (hk : k < h.length) (hi : k < idxP p h) : h[k] ≠ p := by
  intro e
  have := idxS_first (kyT p) (h.map kyT) k (by simpa using hk) hi
  simp only [List.getElem_map] at this
  exact this (by rw [e])
/-- One symbol. -/
def symB (a b : Tm) : Bool := !varB a.name && decide (a.name = b.name) && decide (a.args.length = b.args.length)
def vrP (h : List Pr) (a b : Tm) : Tm × List Pr := (⟨nmZ (idxP ⟨a, b⟩ h + 1), []⟩, addP h ⟨a, b⟩)
def gnL : List Pr → List Tm → List Tm → List Tm × List Pr
  | h, ⟨s, l⟩ :: r, u :: q =>
    if symB ⟨s, l⟩ u = true then (⟨s, (gnL h l u.args).1⟩ :: (gnL (gnL h l u.args).2 r q).1, (gnL (gnL h l u.args).2 r q).2)
    else ((vrP h ⟨s, l⟩ u).1 :: (gnL (vrP h ⟨s, l⟩ u).2 r q).1, (gnL (vrP h ⟨s, l⟩ u).2 r q).2)
  | h, _, _ => ([], h)
def gnT (h : List Pr) (a b : Tm) : Tm × List Pr := if symB a b = true then (⟨a.name, (gnL h a.args b.args).1⟩, (gnL h a.args b.args).2) else vrP h a b
theorem gnL_nil (h : List Pr) (q : List Tm) : gnL h [] q = ([], h) := by rw [gnL]; simp
theorem gnL_cons (h : List Pr) (t u : Tm) (r q : List Tm) : gnL h (t :: r) (u :: q) = ((gnT h t u).1 :: (gnL (gnT h t u).2 r q).1, (gnL (gnT h t u).2 r q).2) := by
  obtain ⟨s, l⟩ := t
  rw [gnL]
  unfold gnT
  by_cases e : symB ⟨s, l⟩ u = true
  · simp [e]
  · simp [e]
theorem gnL_append (b d : List Tm) : ∀ (a c : List Tm) (h : List Pr), a.length = c.length → gnL h (a ++ b) (c ++ d) = ((gnL h a c).1 ++ (gnL (gnL h a c).2 b d).1, (gnL (gnL h a c).2 b d).2)
  | [], [], h, _ => by simp [gnL_nil]
  | t :: r, u :: q, h, e => by
    rw [List.cons_append, List.cons_append, gnL_cons, gnL_append b d r q _ (by simpa using e), gnL_cons]
    simp
theorem gnL_take (h : List Pr) (l q : List Tm) (e : l.length = q.length) (k : Nat) (hk : k < l.length) : gnL h (l.take (k + 1)) (q.take (k + 1)) = ((gnL h (l.take k) (q.take k)).1 ++ [(gnT (gnL h (l.take k) (q.take k)).2 l[k] q[k]).1], (gnT (gnL h (l.take k) (q.take k)).2 l[k] q[k]).2) := by
  rw [List.take_succ_eq_append_getElem hk, List.take_succ_eq_append_getElem (by omega : k < q.length), gnL_append _ _ _ _ _ (by simp; omega), gnL_cons, gnL_nil]
theorem gnL_len : ∀ (l q : List Tm) (h : List Pr), l.length = q.length → (gnL h l q).1.length = l.length
  | [], q, h, _ => by simp [gnL_nil]
  | t :: r, u :: q, h, e => by rw [gnL_cons]; simp [gnL_len r q _ (by simpa using e)]
theorem addP_len (h : List Pr) (p : Pr) : (addP h p).length ≤ h.length + 1 := by unfold addP; split <;> simp
theorem addP_ok {h : List Pr} {p : Pr} (hh : ∀ q ∈ h, OkPr q) (hp : OkPr p) : ∀ q ∈ addP h p, OkPr q := by
  unfold addP
  split
  · exact hh
  · intro q hq
    rcases List.mem_append.1 hq with h1 | h1
    · exact hh q h1
    · have e : q = p := by simpa using h1
      rw [e]; exact hp
theorem errL_two {t : Tm} {r : List Tm} (h : errL (t :: r) = 0) : errL [t] = 0 ∧ errL r = 0 := by
  rw [errL_cons] at h
  split at h
  · rename_i h1; exact ⟨h1, h⟩
  · rename_i h1; exact absurd h h1
theorem errL_mem {l : List Tm} (h : errL l = 0) : ∀ (k : Nat) (hk : k < l.length), errL [l[k]] = 0 := by
  induction l with
  | nil => intro k hk; simp at hk
  | cons t r ih =>
    intro k hk
    obtain ⟨h1, h2⟩ := errL_two h
    cases k with
    | zero => exact h1
    | succ k => exact ih h2 k (by simpa using hk)
theorem errL_args {t : Tm} (h : errL [t] = 0) : errL t.args = 0 := by
  obtain ⟨s, l⟩ := t
  exact errL_parts0 h
/-- How many are met at the most; all may be. -/
theorem gn_ok (l : List Tm) : ∀ (q : List Tm) (h : List Pr), errL l = 0 → errL q = 0 → (∀ p ∈ h, OkPr p) → (∀ p ∈ (gnL h l q).2, OkPr p) ∧ (gnL h l q).2.length ≤ h.length + sizeL l := by
  induction l using Tm.indL with
  | h0 => intro q h _ _ hh; rw [gnL_nil]; exact ⟨hh, by simp⟩
  | h s l r ihl ihr =>
    intro q h e1 e2 hh
    have e : sizeL ((⟨s, l⟩ : Tm) :: r) = 1 + sizeL l + sizeL r := by simp [sizeL]
    rw [e]
    cases q with
    | nil =>
      have : gnL h (⟨s, l⟩ :: r) [] = ([], h) := by rw [gnL]; simp
      rw [this]
      exact ⟨hh, by simp only; omega⟩
    | cons u q =>
      rw [gnL_cons]
      obtain ⟨a1, a2⟩ := errL_two e1
      obtain ⟨b1, b2⟩ := errL_two e2
      have h3 : (∀ p ∈ (gnT h ⟨s, l⟩ u).2, OkPr p) ∧ (gnT h ⟨s, l⟩ u).2.length ≤ h.length + (1 + sizeL l) := by
        unfold gnT
        split
        · obtain ⟨c1, c2⟩ := ihl u.args h (errL_parts0 a1) (errL_args b1) hh
          exact ⟨c1, by simp only; omega⟩
        · exact ⟨addP_ok hh ⟨a1, b1⟩, by have := addP_len h ⟨⟨s, l⟩, u⟩; simp only [vrP]; omega⟩
      obtain ⟨d1, d2⟩ := ihr q (gnT h ⟨s, l⟩ u).2 a2 b2 h3.1
      exact ⟨d1, by simp only; omega⟩
end Go.Proofs.YtakmclheffbeaaaDoor

/- Memory: maps from the new names to the terms that stand for them. -/
namespace Go.Proofs.YtakmclheffbeaaaDoor
open Go.RowKit
set_option linter.unusedSimpArgs false
set_option linter.unusedVariables false
set_option maxRecDepth 8000

/-- What a number's digits are worth. -/
def decZ (l : List UInt8) : Nat := l.foldl (fun a b => 10 * a + (b.toNat - 48)) 0
theorem decZ_snoc (l : List UInt8) (b : UInt8) : decZ (l ++ [b]) = 10 * decZ l + (b.toNat - 48) := by simp [decZ]
theorem digZ {n : Nat} (h : n < 10) : (UInt8.ofNat (48 + n)).toNat - 48 = n := by
  rw [UInt8.toNat_ofNat']
  omega
theorem decZ_dec (n : Nat) : decZ (Lib.decDigits n) = n := by
  induction n using Nat.strongRecOn with
  | ind n ih =>
    by_cases h : n < 10
    · rw [Lib.decDigits, dif_pos h]
      have := decZ_snoc [] (UInt8.ofNat (48 + n))
      simp only [List.nil_append] at this
      rw [this, digZ h]
      simp [decZ]
    · have e : Lib.decDigits n = Lib.decDigits (n / 10) ++ [UInt8.ofNat (48 + n % 10)] := by
        conv => lhs; rw [Lib.decDigits, dif_neg h]
      rw [e, decZ_snoc, ih (n / 10) (by omega), digZ (by omega)]
      omega
theorem nmZ_inj {j k : Nat} (h : nmZ j = nmZ k) : j = k := by
  unfold nmZ at h
  simp only [ByteArray.mk.injEq] at h
  have h1 := congrArg Array.toList h
  simp only [List.toList_toArray, List.cons.injEq, true_and] at h1
  rw [← decZ_dec j, h1, decZ_dec]
/-- The new names, and what stands for them. -/
def bdL (f : Pr → Tm) : Nat → List Pr → List Bd
  | _, [] => []
  | k, p :: r => ⟨nmZ (k + 1), f p⟩ :: bdL f (k + 1) r
theorem bdL_len (f : Pr → Tm) : ∀ (k : Nat) (h : List Pr), (bdL f k h).length = h.length
  | _, [] => rfl
  | k, p :: r => by simp [bdL, bdL_len f (k + 1) r]
theorem bdL_get (f : Pr → Tm) : ∀ (k : Nat) (h : List Pr) (i : Nat) (hi : i < h.length), (bdL f k h)[i]'(by rw [bdL_len]; exact hi) = ⟨nmZ (k + i + 1), f h[i]⟩
  | k, p :: r, 0, _ => by simp [bdL]
  | k, p :: r, i + 1, hi => by
    simp only [bdL, List.getElem_cons_succ]
    rw [bdL_get f (k + 1) r i (by simpa using hi)]
    congr 2
    omega
theorem bdL_push (f : Pr → Tm) (p : Pr) : ∀ (k : Nat) (h : List Pr), bdL f k (h ++ [p]) = bdL f k h ++ [⟨nmZ (k + h.length + 1), f p⟩]
  | k, [] => by simp [bdL]
  | k, q :: r => by
    simp only [List.cons_append, bdL, bdL_push f p (k + 1) r, List.length_cons]
    rw [show k + 1 + r.length + 1 = k + (r.length + 1) + 1 by omega]
theorem bdL_apart (f : Pr → Tm) (h : List Pr) (k : Nat) : ApartB (bdL f k h) := by
  unfold ApartB
  rw [List.pairwise_iff_getElem]
  intro i j hi hj hij e
  rw [bdL_len] at hi hj
  rw [bdL_get f k h i hi, bdL_get f k h j hj] at e
  have := nmZ_inj e
  omega
/-- A map that has them. -/
def MapZ (w : World) (Y : Nat → Prop) (r : Nat) (ls : List Bd) : Prop := ∃ Z : List Bc, MapAt w r (Z.map toP) ∧ Z.map (·.1) = ls ∧ ∀ x ∈ Z, Sl w Y x.2.1 x.1.t.args
theorem MapZ.kept {w w' : World} {Y : Nat → Prop} {r : Nat} {ls : List Bd} (h : MapZ w Y r ls) (hr : w'.heap[r]? = w.heap[r]?) (hs : ∀ a l, Sl w Y a l → Sl w' Y a l) : MapZ w' Y r ls := by
  obtain ⟨Z, h1, h2, h3⟩ := h
  exact ⟨Z, h1.kept hr, h2, fun x hx => hs _ _ (h3 x hx)⟩
theorem MapZ.lt {w : World} {Y : Nat → Prop} {r : Nat} {ls : List Bd} (h : MapZ w Y r ls) : r < w.heap.size := by obtain ⟨Z, h1, _⟩ := h; exact h1.lt
theorem MapZ.later {w w' : World} {Y : Nat → Prop} {r : Nat} {ls : List Bd} (h : MapZ w Y r ls) (hb : Below w.heap.size w w') : MapZ w' Y r ls := h.kept (hb.block r h.lt) (fun a l hs => hs.later hb)
theorem mapGet_noneZ (n : ByteArray) : ∀ Z : List Bc, (∀ x ∈ Z, x.1.nm ≠ n) → mapGet (Z.map toP) n = none
  | [], _ => rfl
  | x :: r, h => by
    simp only [List.map_cons, mapGet, toP]
    rw [if_neg (h x (by simp))]
    exact mapGet_noneZ n r fun y hy => h y (by simp [hy])
theorem setAt_Z (n : ByteArray) (y : Bc) : ∀ (Z : List Bc) (i : Nat) (hi : i < Z.length), Z[i].1.nm = n → y.1.nm = n → (∀ j (hj : j < Z.length), j < i → Z[j].1.nm ≠ n) → setAt (Z.map toP) n (toP y).2 = (Z.set i y).map toP ∧ ∃ old, mapGet (Z.map toP) n = some old
  | x :: r, 0, _, h1, h2, _ => by
    simp only [List.getElem_cons_zero] at h1
    simp only [List.map_cons, setAt, mapGet, toP, List.set_cons_zero]
    rw [if_pos h1, if_pos h1, h1, h2]
    exact ⟨rfl, _, rfl⟩
  | x :: r, i + 1, hi, h1, h2, h3 => by
    have h4 := h3 0 (by simp) (by omega)
    simp only [List.getElem_cons_zero] at h4
    obtain ⟨e1, old, e2⟩ := setAt_Z n y r i (by simpa using hi) (by simpa using h1) h2 (fun j hj hji => by have := h3 (j + 1) (by simpa using hj) (by omega); simpa using this)
    simp only [List.map_cons, setAt, mapGet, List.set_cons_succ]
    have h5 : (toP x).1 ≠ n := h4
    rw [if_neg h5, if_neg h5, e1]
    exact ⟨rfl, old, e2⟩
/-- A pair's term is put for its name. -/
theorem mz_put (f : Pr → Tm) {w : World} {Y : Nat → Prop} {r : Nat} {h : List Pr} {p : Pr} (hM : MapZ w Y r (bdL f 0 h)) (hr : ∀ b, Y b → b ≠ r) (hp : OkPr p) (hh : ∀ q ∈ h, OkPr q) {a : Option Addr} {c : Nat} (hs : Sl w Y a (f p).args) :
    ∃ w', (Instr.mapUpdate 59 (.map (some r)) (.string (nmZ (idxP p h + 1))) (.agg #[.string (f p).name, .slice a (f p).args.length c])).run Tryd.prog w = .ok () w' ∧ MapZ w' Y r (bdL f 0 (addP h p)) ∧ w'.heap.size = w.heap.size ∧ w'.os = w.os ∧ w'.tape = w.tape ∧ w'.output = w.output ∧ (∀ b, b ≠ r → w'.heap[b]? = w.heap[b]?) := by
  obtain ⟨Z, h1, h2, h3⟩ := hM
  have hzl : Z.length = h.length := by have := congrArg List.length h2; simpa [bdL_len] using this
  have hnm : ∀ j (hj : j < Z.length), Z[j].1 = ⟨nmZ (j + 1), f (h[j]'(by omega))⟩ := fun j hj => by
    have e : (Z.map (·.1))[j]'(by simpa using hj) = (bdL f 0 h)[j]'(by rw [bdL_len]; omega) := by simp only [h2]
    rw [bdL_get f 0 h j (by omega)] at e
    simpa using e
  by_cases hin : idxP p h < h.length
  · have e1 : (Z[idxP p h]'(by omega)).1 = ⟨nmZ (idxP p h + 1), f p⟩ := by rw [hnm _ (by omega), idxP_at hp hh hin]
    obtain ⟨e2, old, e3⟩ := setAt_Z (nmZ (idxP p h + 1)) (⟨nmZ (idxP p h + 1), f p⟩, a, c) Z (idxP p h) (by omega) (by rw [e1]) rfl (fun j hj hji e => by rw [hnm j hj] at e; have := nmZ_inj e; omega)
    obtain ⟨w', g1, g2, g3, g4, g5, g6, g7⟩ := run_set (P := Tryd.prog) Tryd.underlying59 Tryd.underlying9 h1 (nmZ (idxP p h + 1)) (.agg #[.string (f p).name, .slice a (f p).args.length c]) old e3
    refine ⟨w', g1, ⟨Z.set (idxP p h) (⟨nmZ (idxP p h + 1), f p⟩, a, c), by rw [← e2]; exact g2, ?_, fun x hx => ?_⟩, g3, g4, g5, g6, g7⟩
    · have : addP h p = h := by unfold addP; rw [if_pos hin]
      rw [this, ← h2, List.map_set]
      apply List.ext_getElem (by simp)
      intro j hj1 hj2
      rw [List.getElem_set]
      split
      · rename_i e
        subst e
        simp only [List.getElem_map]
        exact e1.symm
      · rfl
    · have hk : ∀ a l, Sl w Y a l → Sl w' Y a l := fun a l hs => hs.kept fun b hb => g7 b (hr b hb)
      rcases List.mem_or_eq_of_mem_set hx with h4 | h4
      · exact hk _ _ (h3 x h4)
      · rw [h4]; exact hk _ _ hs
  · have hle := idxP_le p h
    have hidx : idxP p h = h.length := by omega
    have hnone : mapGet (Z.map toP) (nmZ (idxP p h + 1)) = none := mapGet_noneZ _ Z fun x hx => by
      obtain ⟨j, hj, rfl⟩ := List.mem_iff_getElem.1 hx
      rw [hnm j hj]
      intro e
      have := nmZ_inj e
      omega
    obtain ⟨w', g1, g2, g3, g4, g5, g6, g7⟩ := run_put (P := Tryd.prog) Tryd.underlying59 Tryd.underlying9 h1 (nmZ (idxP p h + 1)) (.agg #[.string (f p).name, .slice a (f p).args.length c]) hnone
    refine ⟨w', g1, ⟨Z ++ [(⟨nmZ (idxP p h + 1), f p⟩, a, c)], by rw [List.map_append]; exact g2, ?_, fun x hx => ?_⟩, g3, g4, g5, g6, g7⟩
    · have : addP h p = h ++ [p] := by unfold addP; rw [if_neg hin]
      rw [this, bdL_push, ← h2, hidx]
      simp
    · have hk : ∀ a l, Sl w Y a l → Sl w' Y a l := fun a l hs => hs.kept fun b hb => g7 b (hr b hb)
      rcases List.mem_append.1 hx with h4 | h4
      · exact hk _ _ (h3 x h4)
      · have e : x = (⟨nmZ (idxP p h + 1), f p⟩, a, c) := by simpa using h4
        rw [e]; exact hk _ _ hs
end Go.Proofs.YtakmclheffbeaaaDoor

/- What comes of putting a term at a place. -/
namespace Go.Proofs.YtakmclheffbeaaaDoor

end Go.Proofs.YtakmclheffbeaaaDoor

/- A slice without its first. -/
namespace Go.Proofs.YtakmclheffbeaaaDoor
open Go.RowKit
set_option linter.unusedSimpArgs false
set_option linter.unusedVariables false

end Go.Proofs.YtakmclheffbeaaaDoor


/- The library's Clone at rows of terms. -/
namespace Go.Proofs.YtakmclheffbeaaaDoor
open Go.RowKit Go.Shelf
set_option linter.unusedSimpArgs false
set_option linter.unusedVariables false
set_option maxRecDepth 8000

end Go.Proofs.YtakmclheffbeaaaDoor


/- Walks: a term with another one at a place that it has. -/
namespace Go.Proofs.YtakmclheffbeaaaDoor
open Go.RowKit
set_option linter.unusedSimpArgs false
set_option linter.unusedVariables false
set_option maxRecDepth 8000

theorem RowT.put {w : World} {X : Nat → Prop} {y : Tm} {a : Option Addr} {c : Nat} (hy : Sl w X a y.args) : ∀ {l : List Tm} {xs : List Value} (k : Nat), RowT w X l xs → k < l.length → RowT w X (l.set k y) ((xs.set (k * 2) (.string y.name)).set (k * 2 + 1) (.slice a y.args.length c))
  | [], xs, k, h, hk => by simp at hk
  | t :: l, xs, 0, h, _ => by
    obtain ⟨a', c', r, rfl, h1, h2⟩ := h
    exact ⟨a, c, r, by simp, hy, h2⟩
  | t :: l, xs, k + 1, h, hk => by
    obtain ⟨a', c', r, rfl, h1, h2⟩ := h
    refine ⟨a', c', (r.set (k * 2) (.string y.name)).set (k * 2 + 1) (.slice a y.args.length c), ?_, h1, RowT.put hy k h2 (by simpa using hk)⟩
    have e : (k + 1) * 2 = k * 2 + 1 + 1 := by omega
    rw [e]
    simp
end Go.Proofs.YtakmclheffbeaaaDoor


/- Walks: a term with another one at a place, as the document says. -/
namespace Go.Proofs.YtakmclheffbeaaaDoor
open Go.RowKit
set_option linter.unusedSimpArgs false
set_option linter.unusedVariables false
set_option maxRecDepth 8000

end Go.Proofs.YtakmclheffbeaaaDoor

/- Walks: two answers that are terms. -/
namespace Go.Proofs.YtakmclheffbeaaaDoor
open Go.RowKit
set_option linter.unusedSimpArgs false
set_option linter.unusedVariables false

set_option maxHeartbeats 1000000 in
theorem term2_ok (t : Tm) (v u : Value) (w : World) (X Y : Nat → Prop) (hv : TV w X v t) (hu : TV w Y u t) :
    Calls Tryd.prog 10 #[v, .int .i64 0, u, .int .i64 0] w fun e w' => e = .returned (.bool true) ∧ Below w.heap.size w w' := by
  obtain ⟨a, c, rfl, hs⟩ := hv
  obtain ⟨a2, c2, rfl, hs2⟩ := hu
  have HV := hide (show TV w X (.agg #[.string t.name, .slice a t.args.length c]) t from ⟨a, c, rfl, hs⟩)
  have HU := hide (show TV w Y (.agg #[.string t.name, .slice a2 t.args.length c2]) t from ⟨a2, c2, rfl, hs2⟩)
  clear hs hs2
  go_enter Tryd.func10, Tryd.ntmps10
  go_wp2_with fail
  refine (same_any t _ _ _ X Y (by exact HV.out.later (below2 _ _)) (by exact HU.out.later (below2 _ _))).mono ?_
  rintro e w1 ⟨rfl, hb1⟩
  go_wp2_with fail
  go_ret
  exact ⟨rfl, (below2 _ _).trans (hb1.mono (by simp; omega))⟩

set_option maxHeartbeats 1000000 in
theorem term2_err (f : Int) (u : Value) (s2 : ByteArray) (a2 : Option Addr) (n2 c2 : Nat) (hu : u = .agg #[.string s2, .slice a2 n2 c2]) (w : World) (hf : f ≠ 0) :
    Calls Tryd.prog 10 #[zeroT, .int .i64 f, u, .int .i64 f] w fun e w' => e = .returned (.bool true) ∧ Below w.heap.size w w' := by
  subst hu
  unfold zeroT
  have hf' : (f == 0) = false := by simpa using hf
  go_enter Tryd.func10, Tryd.ntmps10
  go_wp2_with fail
  go_ret
  exact ⟨rfl, below2 _ _⟩
end Go.Proofs.YtakmclheffbeaaaDoor


/- Walks: Put, and the law on it. -/
namespace Go.Proofs.YtakmclheffbeaaaDoor
open Go.RowKit
set_option linter.unusedSimpArgs false
set_option linter.unusedVariables false
set_option maxRecDepth 8000

end Go.Proofs.YtakmclheffbeaaaDoor

/- Walks: the text of a term, as the program writes it. -/
namespace Go.Proofs.YtakmclheffbeaaaDoor
open Go.RowKit
set_option linter.unusedSimpArgs false
set_option linter.unusedVariables false
set_option maxRecDepth 8000

theorem TV.bfr {w w' : World} {X : Nat → Prop} {v q q' : Value} {t : Tm} {b : Nat} (h : TV w X v t) (hf : BFr w w' b q q') (hX : ∀ x, X x → x ≠ b ∧ some x ≠ q.ownBlock) : TV w' X v t := by
  have h1 : TV w (fun x => X x ∧ x < w.heap.size) v t := h.mono fun b h1 h2 => ⟨h1, h2⟩
  have h2 : TV w' (fun x => X x ∧ x < w.heap.size) v t := h1.kept fun x hx => hf.2.2.2.2.1 x hx.2 (hX x hx.1).1 (hX x hx.1).2
  exact h2.mono fun b hx _ => hx.1
theorem Sl.bfr {w w' : World} {X : Nat → Prop} {a : Option Addr} {q q' : Value} {l : List Tm} {b : Nat} (h : Sl w X a l) (hf : BFr w w' b q q') (hX : ∀ x, X x → x ≠ b ∧ some x ≠ q.ownBlock) : Sl w' X a l := by
  have h1 : Sl w (fun x => X x ∧ x < w.heap.size) a l := h.mono fun b h1 h2 => ⟨h1, h2⟩
  have h2 : Sl w' (fun x => X x ∧ x < w.heap.size) a l := h1.kept fun x hx => hf.2.2.2.2.1 x hx.2 (hX x hx.1).1 (hX x hx.1).2
  exact h2.mono fun b hx _ => hx.1
theorem Bld.alloc {w : World} {B b : Nat} {bs : List Value} {v : Value} (h : Bld w B b bs v) (o : Obj) : Bld (w.alloc o) B b bs v := by
  obtain ⟨hB, ⟨p, hp, hb⟩, hown⟩ := h
  exact ⟨hB, ⟨p, hp, by rw [Below.heap_alloc _ _ _ (bd_lt hb)]; exact hb⟩, hown.alloc o⟩
theorem Bld.lt {w : World} {B b : Nat} {bs : List Value} {v : Value} (h : Bld w B b bs v) : b < w.heap.size := by
  obtain ⟨_, ⟨p, _, hb⟩, _⟩ := h
  exact bd_lt hb
theorem Bld.old {w : World} {B b : Nat} {bs : List Value} {v : Value} (h : Bld w B b bs v) {x : Nat} (hx : x < B) : x ≠ b ∧ some x ≠ v.ownBlock := by
  refine ⟨by have := h.1; omega, fun e => ?_⟩
  have := (h.2.2.lt x e.symm).1; omega
theorem Blk.bfr {w w' : World} {b k T : Nat} {q q' : Value} {cs : Array Value} (h : Blk w k cs T) (hf : BFr w w' b q q') (hk : k ≠ b) (hq : some k ≠ q.ownBlock) : Blk w' k cs T := by
  unfold Blk at *; rw [hf.2.2.2.2.1 k (Blk.lt h) hk hq]; exact h

def bytesV (l : List UInt8) : List Value := l.map fun b => Value.int .u8 b.toNat
theorem bytesV_len (l : List UInt8) : (bytesV l).length = l.length := by simp [bytesV]
theorem bytesV_str (pre : List UInt8) (s : ByteArray) : bytesV pre ++ Lib.strCells s = bytesV (pre ++ s.data.toList) := by simp [bytesV, Lib.strCells]
theorem bytesV_one (pre : List UInt8) (c : UInt8) : bytesV pre ++ [.int .u8 c.toNat] = bytesV (pre ++ [c]) := by simp [bytesV]

/-- The new box is none of the Builder's. -/
theorem Bld.box {w : World} {B b : Nat} {bs : List Value} {v : Value} (h : Bld w B b bs v) : w.heap.size ≠ b ∧ some w.heap.size ≠ v.ownBlock := by
  refine ⟨by have := h.lt; omega, fun e => ?_⟩
  have := (h.2.2.lt _ e.symm).2; omega

theorem own_box {w wr : World} {b : Nat} {q0 q : Value} {o : Obj} (h : some w.heap.size ≠ q0.ownBlock) (hf : BFr (w.alloc o) wr b q0 q) : some w.heap.size ≠ q.ownBlock := fun e => by
  rcases hf.2.2.2.2.2 _ e.symm with h1 | h1
  · exact h h1.symm
  · simp at h1; omega

/-- What holds at each round's head of writing. -/
def WrInv (w : World) (B b : Nat) (v0 : Value) (pre : List UInt8) (s : ByteArray) (l : List Tm) (i : Value) (wr : World) : Prop :=
  ∃ (k : Nat) (q : Value), k ≤ l.length ∧ i = .int .i64 k ∧ Bld wr B b (bytesV (pre ++ s.data.toList ++ 40 :: txtL (l.take k))) q ∧ BFr w wr b v0 q

theorem wr_take0 (pre : List UInt8) (s : ByteArray) (l : List Tm) : pre ++ s.data.toList ++ ([40] : List UInt8) = pre ++ s.data.toList ++ 40 :: txtL (l.take 0) := by simp [txtL]
theorem wr_take1 (pre : List UInt8) (s : ByteArray) (l : List Tm) (h : 0 < l.length) : pre ++ s.data.toList ++ 40 :: txtL (l.take 0) ++ txtL [l[0]'h] = pre ++ s.data.toList ++ 40 :: txtL (l.take (0 + 1)) := by
  rw [List.take_succ_eq_append_getElem h]; simp [txtL]
theorem wr_takeS (pre : List UInt8) (s : ByteArray) (l : List Tm) (k : Nat) (hk : 0 < k) (h : k < l.length) : pre ++ s.data.toList ++ 40 :: txtL (l.take k) ++ ([44] : List UInt8) ++ txtL [l[k]] = pre ++ s.data.toList ++ 40 :: txtL (l.take (k + 1)) := by
  have h1 : l.take k ≠ [] := by
    intro e
    have h3 := congrArg List.length e
    rw [List.length_take] at h3
    simp only [List.length_nil] at h3
    omega
  rw [List.take_succ_eq_append_getElem h, txtL_append _ _ h1 (by simp)]; simp
theorem wr_end (pre : List UInt8) (s : ByteArray) (l : List Tm) (h : l ≠ []) : pre ++ s.data.toList ++ 40 :: txtL l ++ ([41] : List UInt8) = pre ++ txtL [(⟨s, l⟩ : Tm)] := by
  rw [txtL_one, if_neg (by simpa using h)]; simp
theorem wr_len (pre : List UInt8) (s : ByteArray) (l : List Tm) (k : Nat) (h : l ≠ []) (hk : k ≤ l.length) : (pre ++ s.data.toList ++ 40 :: txtL (l.take k)).length ≤ pre.length + (txtL [(⟨s, l⟩ : Tm)]).length := by
  by_cases h0 : k = 0
  · subst h0
    rw [txtL_one, if_neg (by simpa using h)]
    simp [txtL]
  · have h1 := txtTo_len s l k hk
    unfold txtTo at h1
    rw [if_neg h0] at h1
    simp only [List.length_append] at *
    omega

set_option maxHeartbeats 2000000 in
theorem write_any (t : Tm) : ∀ (v q0 : Value) (pre : List UInt8) (B b : Nat) (w : World) (X : Nat → Prop), TV w X v t → (∀ x, X x → x < B) → Bld w B b (bytesV pre) q0 → B ≤ w.heap.size → pre.length + (txtL [t]).length ≤ 900000000 →
    Calls Tryd.prog 65 #[.pointer (some ⟨b, 0, none⟩), v] w fun e w' => e = .returned (.tuple #[]) ∧ ∃ q, Bld w' B b (bytesV (pre ++ txtL [t])) q ∧ BFr w w' b q0 q := by
  induction t using Tm.ind with
  | h s l ih =>
    intro v q0 pre B b w X hv hX hbd hB hsm
    have IH := hide ih
    clear ih
    obtain ⟨a, c, rfl, hs⟩ := hv
    have hl := hs.1
    have hsz : s.size ≤ (txtL [(⟨s, l⟩ : Tm)]).length := by
      rw [txtL_one]; have h2 : s.data.toList.length = s.size := by rw [Array.length_toList]; rfl
      simp only [List.length_append]; omega
    have HBD := hide hbd
    have hbox := hbd.box
    clear hbd
    go_enter Tryd.func65, Tryd.ntmps65
    go_wp2_with fail
    refine (writeString_any B b _ q0 s _ (by exact HBD.out.alloc _) (by rw [bytesV_len]; omega) (by simp; omega)).mono ?_
    rintro e w1 ⟨rfl, q1, hbd1, hfr1⟩
    rw [bytesV_str] at hbd1
    have K1 := hide ((Blk.new w #[.string s, .slice a l.length c] 24).bfr hfr1 hbox.1 hbox.2)
    have HFR1 := hide hfr1
    have HW0 := hide (BFr.of_below ((Below.refl w.heap.size w).alloc (Nat.le_refl _) (.cells #[.string s, .slice a l.length c] 24)) b q0)
    have c1 : w1.cell? ⟨w.heap.size, 1, none⟩ = some (.slice a l.length c) := K1.out.cell 1
    have HBD1 := hide hbd1
    clear hfr1 hbd1
    by_cases hn : l = []
    · subst hn
      have HE := hide (txt_nil s)
      go_wp2_with fail
      refine bodyPost_ret (v := .tuple #[]) (by simp [results, Tryd.results65, go_sem]) rfl ?_
      exact ⟨rfl, q1, by rw [HE.out]; exact HBD1.out, HW0.out.trans HFR1.out⟩
    · have hlp : 0 < l.length := List.length_pos_iff.2 hn
      have hlp' : (((l.length : Nat) : Int) == 0) = false := by simp; omega
      have HN := hide hn
      have hw0 := wr_len pre s l 0 hn (Nat.zero_le _)
      have hp1 : (bytesV (pre ++ s.data.toList)).length ≤ 900000000 := by rw [bytesV_len]; simp only [List.length_append, List.length_cons] at hw0 ⊢; omega
      clear hn hw0
      go_wp2_with fail
      refine (writeByte_any B b _ q1 40 _ (by exact HBD1.out) (by omega) (by have := HFR1.out.2.2.2.1; simp at this; omega)).mono ?_
      rintro e w2 ⟨rfl, q2, hbd2, hfr2⟩
      have hbd2' : Bld w2 B b (bytesV (pre ++ s.data.toList ++ 40 :: txtL (l.take 0))) q2 := by
        have h3 := bytesV_one (pre ++ s.data.toList) 40
        rw [← wr_take0, ← h3]; exact hbd2
      have HBD2 := hide hbd2'
      have HFR2 := hide (HFR1.out.trans hfr2)
      have K2 := hide (K1.out.bfr hfr2 hbox.1 (own_box hbox.2 HFR1.out))
      have c2 : w2.cell? ⟨w.heap.size, 1, none⟩ = some (.slice a l.length c) := K2.out.cell 1
      clear hbd2 hbd2' hfr2 c1
      go_wp2_with fail
      go_loopw [19] (fun i wr => WrInv (w.alloc (.cells #[.string s, .slice a l.length c] 24)) B b q0 pre s l i wr) (fun i wr => l.length - (intOf i).toNat)
      case atStart => exact ⟨0, q2, Nat.zero_le _, rfl, HBD2.out, HFR2.out⟩
      case round =>
        obtain ⟨k, q, hk, rfl, hbdk, hfrk⟩ := hrel
        have HBK := hide hbdk
        have HFK := hide hfrk
        have hwl := wr_len pre s l k HN.out hk
        have hBr : B ≤ wr.heap.size := by have := hfrk.2.2.2.1; simp at this; omega
        by_cases hlt : k < l.length
        · have hsr := (hs.later ((Below.refl w.heap.size w).alloc (Nat.le_refl _) (.cells #[.string s, .slice a l.length c] 24))).bfr hfrk (fun x hx => HBD.out.old (hX x hx))
          obtain ⟨bx, o, a', c', rfl, d0, d1, hx⟩ := hsr.get (Below.refl wr.heap.size wr) (fun _ _ h => h) k hlt
          have HX := hide hx
          have hwl2 := wr_len pre s l (k + 1) HN.out (by omega)
          clear hbdk hfrk hsr hx
          by_cases hk0 : k = 0
          · subst hk0
            simp only [Nat.zero_mul, Nat.add_zero] at d0 d1
            have HE := hide (wr_take1 pre s l hlt)
            have hln : (pre ++ s.data.toList ++ 40 :: txtL (l.take 0)).length + (txtL [l[0]]).length ≤ 900000000 := by
              rw [← HE.out] at hwl2; simp only [List.length_append] at hwl2 ⊢; omega
            clear hwl hwl2
            go_wp2_with fail
            refine (IH.out _ (List.getElem_mem hlt) _ q _ B b _ X (by exact HX.out.alloc _) hX (by exact HBK.out.alloc _) (by simp; omega) hln).mono ?_
            rintro e w5 ⟨rfl, q5, hbd5, hfr5⟩
            have HBD5 := hide hbd5
            have HFR5 := hide (HFK.out.trans ((BFr.of_below ((Below.refl wr.heap.size wr).alloc (Nat.le_refl _) _) b q).trans hfr5))
            clear hbd5 hfr5
            go_wp2_with fail
            go_roundw
            case rel => exact ⟨0 + 1, q5, by omega, by go_num, by rw [← HE.out]; exact HBD5.out, HFR5.out⟩
            case measure => simp [intOf]; omega
          · have hkp : 0 < k := by omega
            have HE := hide (wr_takeS pre s l k hkp hlt)
            have hln : (pre ++ s.data.toList ++ 40 :: txtL (l.take k) ++ ([44] : List UInt8)).length + (txtL [l[k]]).length ≤ 900000000 := by
              rw [← HE.out] at hwl2; simp only [List.length_append] at hwl2 ⊢; omega
            have hbk : (bytesV (pre ++ s.data.toList ++ 40 :: txtL (l.take k))).length ≤ 1000000000 := by rw [bytesV_len]; omega
            clear hwl hwl2 hk0
            go_wp2_with fail
            refine (writeByte_any B b _ q 44 _ (by exact HBK.out.alloc _) hbk (by simp; omega)).mono ?_
            rintro e w4 ⟨rfl, q4, hbd4, hfr4⟩
            have hbd4' : Bld w4 B b (bytesV (pre ++ s.data.toList ++ 40 :: txtL (l.take k) ++ ([44] : List UInt8))) q4 := by
              have h3 := bytesV_one (pre ++ s.data.toList ++ 40 :: txtL (l.take k)) 44
              rw [← h3]; exact hbd4
            have HX4 := hide ((HX.out.alloc (.cells #[.string l[k].name, .slice a' l[k].args.length c'] 24)).bfr hfr4 (fun x hx => HBK.out.old (hX x hx)))
            have hb4 := HBK.out.box
            have K4 := hide ((Blk.new wr #[.string l[k].name, .slice a' l[k].args.length c'] 24).bfr hfr4 hb4.1 hb4.2)
            have e0 : w4.cell? ⟨wr.heap.size, 0, none⟩ = some (.string l[k].name) := K4.out.cell 0
            have e1 : w4.cell? ⟨wr.heap.size, 1, none⟩ = some (.slice a' l[k].args.length c') := K4.out.cell 1
            have hB4 : B ≤ w4.heap.size := by have := hfr4.2.2.2.1; simp at this; omega
            have HBD4 := hide hbd4'
            have HFR4 := hide (HFK.out.trans ((BFr.of_below ((Below.refl wr.heap.size wr).alloc (Nat.le_refl _) _) b q).trans hfr4))
            clear hbd4 hbd4' hfr4 hb4
            go_wp2_with fail
            refine (IH.out _ (List.getElem_mem hlt) _ q4 _ B b _ X (by exact HX4.out) hX (by exact HBD4.out) hB4 hln).mono ?_
            rintro e w5 ⟨rfl, q5, hbd5, hfr5⟩
            have HBD5 := hide hbd5
            have HFR5 := hide (HFR4.out.trans hfr5)
            clear hbd5 hfr5
            go_wp2_with fail
            go_roundw
            case rel => exact ⟨k + 1, q5, by omega, by go_num, by rw [← HE.out]; exact HBD5.out, HFR5.out⟩
            case measure => simp [intOf]; omega
        · have htk : l.take k = l := List.take_of_length_le (by omega)
          have hbk : (bytesV (pre ++ s.data.toList ++ 40 :: txtL (l.take k))).length ≤ 1000000000 := by rw [bytesV_len]; omega
          rw [htk] at hbdk hbk
          have HBE := hide hbdk
          have HE := hide (wr_end pre s l HN.out)
          clear hbdk hfrk hwl htk
          go_wp2_with fail
          refine (writeByte_any B b _ q 41 _ (by exact HBE.out) hbk hBr).mono ?_
          rintro e w4 ⟨rfl, q4, hbd4, hfr4⟩
          have hbd4' : Bld w4 B b (bytesV (pre ++ txtL [(⟨s, l⟩ : Tm)])) q4 := by
            have h3 := bytesV_one (pre ++ s.data.toList ++ 40 :: txtL l) 41
            rw [← HE.out, ← h3]; exact hbd4
          have HBD4 := hide hbd4'
          have HFR4 := hide (HW0.out.trans (HFK.out.trans hfr4))
          clear hbd4 hbd4' hfr4
          go_wp2_with fail
          go_end0
          exact ⟨rfl, q4, HBD4.out, HFR4.out⟩
end Go.Proofs.YtakmclheffbeaaaDoor


/- Walks: the variables of a term, as the program gathers them. -/
namespace Go.Proofs.YtakmclheffbeaaaDoor
open Go.RowKit
set_option linter.unusedSimpArgs false
set_option linter.unusedVariables false

theorem Sl.grown {w w' : World} {X : Nat → Prop} {a : Option Addr} {l : List Tm} {r : Option Nat} (h : Sl w X a l) (hg : w.grownBy w' r) (hX : ∀ b, X b → some b ≠ r) : Sl w' X a l := by
  have h1 : Sl w (fun b => X b ∧ b < w.heap.size) a l := h.mono fun b h1 h2 => ⟨h1, h2⟩
  have h2 : Sl w' (fun b => X b ∧ b < w.heap.size) a l := h1.kept fun b hx => hg.block b hx.2 (hX b hx.1)
  exact h2.mono fun b hx _ => hx.1

theorem err_name {s : ByteArray} {l : List Tm} (h : errL [(⟨s, l⟩ : Tm)] = 0) : nameB s = true ∧ errL l = 0 := by
  simp only [errL] at h
  split at h
  · refine ⟨by assumption, ?_⟩
    split at h
    · exact absurd h (by decide)
    · split at h
      · assumption
      · exact h
  · exact absurd h (by decide)

theorem NamesAt.refl {w : World} {B : Nat} {q : Value} {acc : List ByteArray} (h : w.ownsRow B 9 1 q acc.length (acc.map Value.string)) : NamesAt w B q acc q w :=
  ⟨h, grown_of_below (Below.refl _ _) _, fun _ h => Or.inl h⟩

end Go.Proofs.YtakmclheffbeaaaDoor


/- Walks: Text. -/
namespace Go.Proofs.YtakmclheffbeaaaDoor
open Go.RowKit
set_option linter.unusedSimpArgs false
set_option linter.unusedVariables false
set_option maxRecDepth 8000

theorem name_le {s : ByteArray} (h : nameB s = true) : s.size ≤ 8 := by
  simp [nameB] at h; omega

/-- A text is not long. -/
theorem txt_len (l : List Tm) (h : errL l = 0) : (txtL l).length ≤ 11 * sizeL l := by
  induction l using Tm.indL with
  | h0 => simp [txtL]
  | h s l r ihl ihr =>
    rw [errL_cons] at h
    by_cases h0 : errL [(⟨s, l⟩ : Tm)] = 0
    · rw [if_pos h0] at h
      obtain ⟨hn, hl⟩ := err_name h0
      have h1 := ihl hl
      have h2 := ihr h
      have h3 := name_le hn
      have h4 : s.data.toList.length = s.size := by rw [Array.length_toList]; rfl
      simp only [txtL, sizeL, List.length_append]
      split <;> split <;> simp only [List.length_nil, List.length_cons, List.length_append] <;> omega
    · rw [if_neg h0] at h; exact absurd h h0

theorem bytes_cells (l : List UInt8) : bytesV l = Lib.byteCells l := rfl

set_option maxHeartbeats 1000000 in
theorem ktext_any (t : Tm) (v : Value) (w : World) (X : Nat → Prop) (hv : TV w X v t) (hlen : (txtL [t]).length ≤ 1000000) :
    Calls Tryd.prog 56 #[v] w fun e w' => e = .returned (.string ⟨(txtL [t]).toArray⟩) ∧ Below w.heap.size w w' := by
  obtain ⟨X', hX, hv'⟩ : ∃ X' : Nat → Prop, (∀ b, X' b → b < w.heap.size) ∧ TV w X' v t := ⟨fun b => X b ∧ b < w.heap.size, fun _ h => h.2, hv.mono fun b h1 h2 => ⟨h1, h2⟩⟩
  clear hv
  obtain ⟨a, c, rfl, hs⟩ := hv'
  have HV := hide (show TV w X' (.agg #[.string t.name, .slice a t.args.length c]) t from ⟨a, c, rfl, hs⟩)
  clear hs
  generalize hR : (.string ⟨(txtL [t]).toArray⟩ : Value) = R
  have HR := hide hR
  clear hR
  have K1 := hide (Blk.new w #[.string t.name, .slice a t.args.length c] 24)
  have HB := hide ((Below.refl w.heap.size w).alloc (Nat.le_refl _) (.cells #[.string t.name, .slice a t.args.length c] 24))
  have c0 : ∀ o, ((w.alloc (.cells #[.string t.name, .slice a t.args.length c] 24)).alloc o).cell? ⟨w.heap.size, 0, none⟩ = some (.string t.name) := fun o => (K1.out.alloc o).cell 0
  have c1 : ∀ o, ((w.alloc (.cells #[.string t.name, .slice a t.args.length c] 24)).alloc o).cell? ⟨w.heap.size, 1, none⟩ = some (.slice a t.args.length c) := fun o => (K1.out.alloc o).cell 1
  have HBD : Hid (Bld ((w.alloc (.cells #[.string t.name, .slice a t.args.length c] 24)).alloc (.cells #[.pointer none, .slice none 0 0] 94)) (w.heap.size + 1) (w.heap.size + 1) (bytesV []) (.slice none 0 0)) := ⟨Nat.le_refl _, ⟨_, Or.inl rfl, by have h := heap_alloc_new (w.alloc (.cells #[.string t.name, .slice a t.args.length c] 24)) (.cells #[.pointer none, .slice none 0 0] 94); simpa using h⟩, World.ownsRow_nil _ _ _ _⟩
  go_enter Tryd.func56, Tryd.ntmps56
  go_wp2_with fail
  have hz1 : (w.alloc (.cells #[.string t.name, .slice a t.args.length c] 24)).heap.size = w.heap.size + 1 := by simp
  generalize (w.alloc (.cells #[.string t.name, .slice a t.args.length c] 24)) = w1 at *
  rw [← hz1] at HBD ⊢
  clear hz1
  refine (write_any t _ _ [] w1.heap.size w1.heap.size _ X' (by exact (HV.out.later HB.out).alloc _) (fun b hb => by have := hX b hb; have := HB.out.size; omega) (by exact HBD.out) (by simp) (by simp; omega)).mono ?_
  rintro e w3 ⟨rfl, q3, hbd3, hfr3⟩
  have HISB : Hid (Lib.IsBuilder 94 5 w1.heap.size w1.heap.size (Lib.byteCells (txtL [t])) w3) := by
    have h1 : Bld w3 w1.heap.size w1.heap.size (Lib.byteCells (txtL [t])) q3 := by simpa [bytes_cells] using hbd3
    have hne := bd_ne h1
    obtain ⟨g1, ⟨p, hp, hb⟩, hown⟩ := h1
    rcases hp with rfl | rfl
    · exact Or.inl ⟨g1, q3, hb, hown, hne⟩
    · exact Or.inr ⟨g1, q3, hb, hown, hne⟩
  have hsz3 : w1.heap.size ≤ w3.heap.size := by have := hfr3.2.2.2.1; simp at this; omega
  have HB3 : Hid (Below w.heap.size w w3) := by
    refine HB.out.trans ⟨hfr3.1, hfr3.2.1, hfr3.2.2.1, hsz3, fun k hk => ?_⟩
    have hk1 : k < w1.heap.size := Nat.lt_of_lt_of_le hk HB.out.size
    rw [hfr3.2.2.2.2.1 k (by simp; omega) (by omega) (by simp [Value.ownBlock]), Below.heap_alloc _ _ _ hk1]
  clear hbd3 hfr3 c0 c1
  go_wp2_with fail
  refine (Tryd.Builder_String_any w1.heap.size w1.heap.size (txtL [t]) _ HISB.out hsz3).mono ?_
  rintro e w4 ⟨rfl, hb4⟩
  go_wp2_with fail
  go_ret
  exact ⟨by rw [← HR.out]; rfl, HB3.out.trans (hb4.mono HB.out.size)⟩

end Go.Proofs.YtakmclheffbeaaaDoor

/- Walks: one symbol; a new variable for two terms (general.sameSymbol, general.common.variable). -/
namespace Go.Proofs.YtakmclheffbeaaaDoor
open Go.RowKit
set_option linter.unusedSimpArgs false
set_option linter.unusedVariables false
set_option maxRecDepth 8000

theorem name_eqZ (a b : ByteArray) : (a.toList == b.toList) = decide (a = b) := by
  rw [ByteArray.toList_eq, ByteArray.toList_eq]
  by_cases h : a = b
  · subst h; simp
  · have : ¬ a.data.toList = b.data.toList := fun e => h (ByteArray.ext (Array.ext' e))
    simp [h]
    intro e
    exact h (ByteArray.ext e)

set_option maxHeartbeats 2000000 in
theorem sameSymbol_any (a b : Tm) (va vb : Value) (w : World) (X Y : Nat → Prop) (ha : TV w X va a) (hb : TV w Y vb b) :
    Calls Tryd.prog 42 #[va, vb] w fun e w' => e = .returned (.bool (symB a b)) ∧ Below w.heap.size w w' := by
  obtain ⟨aa, ca, rfl, hsa⟩ := ha
  obtain ⟨ab, cb, rfl, hsb⟩ := hb
  have hl1 := hsa.1
  have hl2 := hsb.1
  have HB2 : Hid (Below w.heap.size w ((w.alloc (.cells #[.string a.name, .slice aa a.args.length ca] 24)).alloc (.cells #[.string b.name, .slice ab b.args.length cb] 24))) := ((Below.refl _ _).alloc (Nat.le_refl _) _).alloc (by simp) _
  have KA : Hid (Blk ((w.alloc (.cells #[.string a.name, .slice aa a.args.length ca] 24)).alloc (.cells #[.string b.name, .slice ab b.args.length cb] 24)) w.heap.size #[.string a.name, .slice aa a.args.length ca] 24) := (Blk.new w _ _).alloc _
  have KB : Hid (Blk ((w.alloc (.cells #[.string a.name, .slice aa a.args.length ca] 24)).alloc (.cells #[.string b.name, .slice ab b.args.length cb] 24)) (w.heap.size + 1) #[.string b.name, .slice ab b.args.length cb] 24) := by
    have h := Blk.new (w.alloc (.cells #[.string a.name, .slice aa a.args.length ca] 24)) #[.string b.name, .slice ab b.args.length cb] 24
    rw [World.size_alloc] at h
    exact h
  have c0 := KA.out.cell 0
  have c1 := KA.out.cell 1
  have d0 := KB.out.cell 0
  have d1 := KB.out.cell 1
  clear hsa hsb
  have HV := hide (isVariable_all a.name ((w.alloc (.cells #[.string a.name, .slice aa a.args.length ca] 24)).alloc (.cells #[.string b.name, .slice ab b.args.length cb] 24)))
  cases hv : varB a.name with
  | true =>
    have HZ : Hid (symB a b = false) := by unfold Hid symB; simp [hv]
    have HVV := hide hv
    clear hv
    go_enter Tryd.func42, Tryd.ntmps42
    go_wp2_with fail
    refine HV.out.mono ?_
    rintro e w2 ⟨rfl, rfl⟩
    rw [HVV.out]
    go_wp2_with fail
    go_ret
    rw [HZ.out]
    exact ⟨rfl, HB2.out⟩
  | false =>
    have HVV := hide hv
    clear hv
    by_cases hn : a.name = b.name
    · by_cases hl : a.args.length = b.args.length
      · have HZ : Hid (symB a b = true) := by unfold Hid symB; simp [HVV.out, hn, hl]; rw [← hn]; exact HVV.out
        have hni : (a.name.toList == b.name.toList) = true := by rw [name_eqZ]; simpa using hn
        have hli : ((a.args.length : Int) == (b.args.length : Int)) = true := by simpa using (by omega : (a.args.length : Int) = (b.args.length : Int))
        have HN := hide hn
        have HL := hide hl
        clear hn hl
        go_enter Tryd.func42, Tryd.ntmps42
        go_wp2_with fail
        refine HV.out.mono ?_
        rintro e w2 ⟨rfl, rfl⟩
        rw [HVV.out]
        go_wp2_with fail
        go_ret
        rw [HZ.out]
        exact ⟨rfl, HB2.out⟩
      · have HZ : Hid (symB a b = false) := by unfold Hid symB; simp [hl]
        have hni : (a.name.toList == b.name.toList) = true := by rw [name_eqZ]; simpa using hn
        have hli : ((a.args.length : Int) == (b.args.length : Int)) = false := by simpa using (by omega : ¬ (a.args.length : Int) = (b.args.length : Int))
        have HN := hide hn
        have HL := hide hl
        clear hn hl
        go_enter Tryd.func42, Tryd.ntmps42
        go_wp2_with fail
        refine HV.out.mono ?_
        rintro e w2 ⟨rfl, rfl⟩
        rw [HVV.out]
        go_wp2_with fail
        go_ret
        rw [HZ.out]
        exact ⟨rfl, HB2.out⟩
    · have HZ : Hid (symB a b = false) := by unfold Hid symB; simp [hn]
      have hni : (a.name.toList == b.name.toList) = false := by rw [name_eqZ]; simpa using hn
      have HN := hide hn
      clear hn
      go_enter Tryd.func42, Tryd.ntmps42
      go_wp2_with fail
      refine HV.out.mono ?_
      rintro e w2 ⟨rfl, rfl⟩
      rw [HVV.out]
      go_wp2_with fail
      go_ret
      rw [HZ.out]
      exact ⟨rfl, HB2.out⟩

/-- What two terms have got so far. -/
structure GmAt (w : World) (B r r1 r2 : Nat) (Y : Nat → Prop) (h : List Pr) : Prop where
  nm : NmAt w B r (h.map kyT)
  lf : MapZ w Y r1 (bdL (·.l) 0 h)
  rt : MapZ w Y r2 (bdL (·.r) 0 h)
  n1 : r ≠ r1
  n2 : r ≠ r2
  n3 : r1 ≠ r2
  b1 : B ≠ r1
  b2 : B ≠ r2
  ok : ∀ q ∈ h, OkPr q
def Mps (r r1 r2 : Nat) (b : Nat) : Prop := b = r ∨ b = r1 ∨ b = r2
theorem GmAt.later {w w' : World} {B r r1 r2 : Nat} {Y : Nat → Prop} {h : List Pr} (g : GmAt w B r r1 r2 Y h) (hb : Below w.heap.size w w') : GmAt w' B r r1 r2 Y h := ⟨g.nm.later hb, g.lf.later hb, g.rt.later hb, g.n1, g.n2, g.n3, g.b1, g.b2, g.ok⟩
theorem GmAt.alloc {w : World} {B r r1 r2 : Nat} {Y : Nat → Prop} {h : List Pr} (g : GmAt w B r r1 r2 Y h) (o : Obj) : GmAt (w.alloc o) B r r1 r2 Y h := g.later ((Below.refl _ _).alloc (Nat.le_refl _) o)
theorem GmAt.kept {w w' : World} {B r r1 r2 : Nat} {Y : Nat → Prop} {h : List Pr} (g : GmAt w B r r1 r2 Y h) (hk : ∀ b, b < w.heap.size → (b = B ∨ Mps r r1 r2 b ∨ Y b) → w'.heap[b]? = w.heap[b]?) : GmAt w' B r r1 r2 Y h := by
  have hs : ∀ a l, Sl w Y a l → Sl w' Y a l := fun a l hs => ((hs.mono (Y := fun b => Y b ∧ b < w.heap.size) fun b h1 h2 => ⟨h1, h2⟩).kept fun b hb => hk b hb.2 (Or.inr (Or.inr hb.1))).mono fun b hb _ => hb.1
  exact ⟨⟨(hk B g.nm.box.lt (Or.inl rfl)).trans g.nm.box, g.nm.map.kept (hk r g.nm.map.lt (Or.inr (Or.inl (Or.inl rfl)))), g.nm.ne⟩, g.lf.kept (hk r1 g.lf.lt (Or.inr (Or.inl (Or.inr (Or.inl rfl))))) hs, g.rt.kept (hk r2 g.rt.lt (Or.inr (Or.inl (Or.inr (Or.inr rfl))))) hs, g.n1, g.n2, g.n3, g.b1, g.b2, g.ok⟩
theorem cat_ky (a b : Tm) : ((⟨(txtL [a]).toArray⟩ : ByteArray) ++ ⟨#[61]⟩) ++ ⟨(txtL [b]).toArray⟩ = kyT ⟨a, b⟩ := by
  apply ByteArray.ext
  unfold kyT
  apply Array.ext'
  simp [ByteArray.toList_data_append]

set_option maxHeartbeats 4000000 in
theorem variable_any (BT B r r1 r2 : Nat) (hBr : BT ≤ r ∧ BT ≤ r1 ∧ BT ≤ r2) (h : List Pr) (a b : Tm) (va vb : Value) (w : World) (Y : Nat → Prop) (ha : TV w Y va a) (hb : TV w Y vb b) (hY : ∀ x, Y x → ¬ Mps r r1 r2 x) (hYw : ∀ x, Y x → x < w.heap.size) (hg : GmAt w B r r1 r2 Y h) (hT : Tb BT w) (hea : errL [a] = 0) (heb : errL [b] = 0) (hza : sizeL [a] ≤ 200) (hzb : sizeL [b] ≤ 200) (hl : h.length ≤ 100000) :
    Calls Tryd.prog 43 #[.agg #[.func (.func 40) #[] #[.pointer (some ⟨B, 0, none⟩)], .map (some r1), .map (some r2)], va, vb] w fun e w' => e = .returned (.agg #[.string (vrP h a b).1.name, .slice none 0 0]) ∧ GmAt w' B r r1 r2 Y (vrP h a b).2 ∧ ExQ (Mps r r1 r2) w w' := by
  obtain ⟨aa, ca, rfl, hsa⟩ := ha
  obtain ⟨ab, cb, rfl, hsb⟩ := hb
  obtain ⟨p, hp⟩ : ∃ p : Pr, p = ⟨a, b⟩ := ⟨_, rfl⟩
  have HKY : Hid (((⟨(txtL [a]).toArray⟩ : ByteArray) ++ ⟨#[61]⟩) ++ ⟨(txtL [b]).toArray⟩ = kyT p) := by rw [hp]; exact cat_ky a b
  have HOK : Hid (OkPr p) := by rw [hp]; exact ⟨hea, heb⟩
  have HVR : Hid (vrP h a b = (⟨nmZ (idxP p h + 1), []⟩, addP h p)) := by rw [hp]; rfl
  have HPL : Hid (p.l = a ∧ p.r = b) := by rw [hp]; exact ⟨rfl, rfl⟩
  have HSA := hide hsa
  have HSB := hide hsb
  have HY := hide hY
  have HYW := hide hYw
  have HG := hide hg
  have HT := hide hT
  have HRL : Hid (B < w.heap.size ∧ r < w.heap.size ∧ r1 < w.heap.size ∧ r2 < w.heap.size) := ⟨hg.nm.box.lt, hg.nm.map.lt, hg.lf.lt, hg.rt.lt⟩
  have lta := txt_len [a] hea
  have ltb := txt_len [b] heb
  clear hsa hsb hY hYw hg hT hp hea heb
  have W4 : Hid (Below w.heap.size w ((((w.alloc (.cells #[.func (.func 40) #[] #[.pointer (some ⟨B, 0, none⟩)], .map (some r1), .map (some r2)] 61)).alloc (.cells #[.string a.name, .slice aa a.args.length ca] 24)).alloc (.cells #[.string b.name, .slice ab b.args.length cb] 24)).alloc (.cells #[.string ⟨#[]⟩, .slice none 0 0] 24))) := ((((Below.refl _ _).alloc (Nat.le_refl _) _).alloc (by simp) _).alloc (by simp; omega) _).alloc (by simp; omega) _
  have KC : Hid (Blk ((((w.alloc (.cells #[.func (.func 40) #[] #[.pointer (some ⟨B, 0, none⟩)], .map (some r1), .map (some r2)] 61)).alloc (.cells #[.string a.name, .slice aa a.args.length ca] 24)).alloc (.cells #[.string b.name, .slice ab b.args.length cb] 24)).alloc (.cells #[.string ⟨#[]⟩, .slice none 0 0] 24)) w.heap.size #[.func (.func 40) #[] #[.pointer (some ⟨B, 0, none⟩)], .map (some r1), .map (some r2)] 61) := (((Blk.new w _ _).alloc _).alloc _).alloc _
  have KA : Hid (Blk ((((w.alloc (.cells #[.func (.func 40) #[] #[.pointer (some ⟨B, 0, none⟩)], .map (some r1), .map (some r2)] 61)).alloc (.cells #[.string a.name, .slice aa a.args.length ca] 24)).alloc (.cells #[.string b.name, .slice ab b.args.length cb] 24)).alloc (.cells #[.string ⟨#[]⟩, .slice none 0 0] 24)) (w.heap.size + 1) #[.string a.name, .slice aa a.args.length ca] 24) := by
    have h := ((Blk.new (w.alloc (.cells #[.func (.func 40) #[] #[.pointer (some ⟨B, 0, none⟩)], .map (some r1), .map (some r2)] 61)) #[.string a.name, .slice aa a.args.length ca] 24).alloc (.cells #[.string b.name, .slice ab b.args.length cb] 24)).alloc (.cells #[.string ⟨#[]⟩, .slice none 0 0] 24)
    rw [World.size_alloc] at h
    exact h
  have KB : Hid (Blk ((((w.alloc (.cells #[.func (.func 40) #[] #[.pointer (some ⟨B, 0, none⟩)], .map (some r1), .map (some r2)] 61)).alloc (.cells #[.string a.name, .slice aa a.args.length ca] 24)).alloc (.cells #[.string b.name, .slice ab b.args.length cb] 24)).alloc (.cells #[.string ⟨#[]⟩, .slice none 0 0] 24)) (w.heap.size + 2) #[.string b.name, .slice ab b.args.length cb] 24) := by
    have h := (Blk.new ((w.alloc (.cells #[.func (.func 40) #[] #[.pointer (some ⟨B, 0, none⟩)], .map (some r1), .map (some r2)] 61)).alloc (.cells #[.string a.name, .slice aa a.args.length ca] 24)) #[.string b.name, .slice ab b.args.length cb] 24).alloc (.cells #[.string ⟨#[]⟩, .slice none 0 0] 24)
    rw [World.size_alloc, World.size_alloc] at h
    exact h
  have KR : Hid (Blk ((((w.alloc (.cells #[.func (.func 40) #[] #[.pointer (some ⟨B, 0, none⟩)], .map (some r1), .map (some r2)] 61)).alloc (.cells #[.string a.name, .slice aa a.args.length ca] 24)).alloc (.cells #[.string b.name, .slice ab b.args.length cb] 24)).alloc (.cells #[.string ⟨#[]⟩, .slice none 0 0] 24)) (w.heap.size + 3) #[.string ⟨#[]⟩, .slice none 0 0] 24) := by
    have h := Blk.new (((w.alloc (.cells #[.func (.func 40) #[] #[.pointer (some ⟨B, 0, none⟩)], .map (some r1), .map (some r2)] 61)).alloc (.cells #[.string a.name, .slice aa a.args.length ca] 24)).alloc (.cells #[.string b.name, .slice ab b.args.length cb] 24)) #[.string ⟨#[]⟩, .slice none 0 0] 24
    rw [World.size_alloc, World.size_alloc, World.size_alloc] at h
    exact h
  go_enter Tryd.func43, Tryd.ntmps43
  go_upto_region 1 with fail
  generalize ((((w.alloc (.cells #[.func (.func 40) #[] #[.pointer (some ⟨B, 0, none⟩)], .map (some r1), .map (some r2)] 61)).alloc (.cells #[.string a.name, .slice aa a.args.length ca] 24)).alloc (.cells #[.string b.name, .slice ab b.args.length cb] 24)).alloc (.cells #[.string ⟨#[]⟩, .slice none 0 0] 24)) = w4 at *
  have KP : Hid (∀ w', ExQ (Mps r r1 r2) w4 w' → (w'.cell? ⟨w.heap.size, 0, none⟩ = some (.func (.func 40) #[] #[.pointer (some ⟨B, 0, none⟩)]) ∧ w'.cell? ⟨w.heap.size, 1, none⟩ = some (.map (some r1)) ∧ w'.cell? ⟨w.heap.size, 2, none⟩ = some (.map (some r2))) ∧ (w'.cell? ⟨w.heap.size + 1, 0, none⟩ = some (.string a.name) ∧ w'.cell? ⟨w.heap.size + 1, 1, none⟩ = some (.slice aa a.args.length ca)) ∧ w'.cell? ⟨w.heap.size + 2, 0, none⟩ = some (.string b.name) ∧ w'.cell? ⟨w.heap.size + 2, 1, none⟩ = some (.slice ab b.args.length cb)) := fun w' he => by
    have hr := HRL.out
    have k1 := KC.out.exq he (by unfold Mps; omega)
    have k2 := KA.out.exq he (by unfold Mps; omega)
    have k3 := KB.out.exq he (by unfold Mps; omega)
    exact ⟨⟨k1.cell 0, k1.cell 1, k1.cell 2⟩, ⟨k2.cell 0, k2.cell 1⟩, k3.cell 0, k3.cell 1⟩
  have VA : Hid (∀ w', Below w4.heap.size w4 w' → TV w' Y (.agg #[.string a.name, .slice aa a.args.length ca]) a) := fun w' hb' => ⟨aa, ca, rfl, (HSA.out.later W4.out).later hb'⟩
  have VB : Hid (∀ w', Below w4.heap.size w4 w' → TV w' Y (.agg #[.string b.name, .slice ab b.args.length cb]) b) := fun w' hb' => ⟨ab, cb, rfl, (HSB.out.later W4.out).later hb'⟩
  have kd : Below w4.heap.size w4 w4.drew := (Below.refl _ _).drew
  have HSd := hide (KP.out _ (ExQ.ofBelow kd))
  have l1 : (txtL [a]).length + 1 ≤ 9223372036854775807 := by omega
  have l2 : ¬ 9223372036854775807 < (txtL [a]).length + 1 := by omega
  have l3 : (txtL [a]).length + 1 + (txtL [b]).length ≤ 9223372036854775807 := by omega
  have l4 : ¬ 9223372036854775807 < (txtL [a]).length + 1 + (txtL [b]).length := by omega
  refine wp_region_held_drew (S := (fun w' => (w'.cell? ⟨w.heap.size, 0, none⟩ = some (.func (.func 40) #[] #[.pointer (some ⟨B, 0, none⟩)]) ∧ w'.cell? ⟨w.heap.size, 1, none⟩ = some (.map (some r1)) ∧ w'.cell? ⟨w.heap.size, 2, none⟩ = some (.map (some r2))) ∧ (w'.cell? ⟨w.heap.size + 1, 0, none⟩ = some (.string a.name) ∧ w'.cell? ⟨w.heap.size + 1, 1, none⟩ = some (.slice aa a.args.length ca)) ∧ w'.cell? ⟨w.heap.size + 2, 0, none⟩ = some (.string b.name) ∧ w'.cell? ⟨w.heap.size + 2, 1, none⟩ = some (.slice ab b.args.length cb))) (by kernel_rfl) HSd.out (fun hHeld => ?_)
  refine wpAnyH_take (i := 0) (v := ?_) rfl (by kernel_rfl) (by kernel_rfl) (by kernel_rfl) (fun _ _ _ h => h) (Or.inl ⟨by rfl, ?_⟩) (by assumption) ?_
  rotate_left
  · intro w' hSw
    go_simp <;> with_reducible rfl
  try simp only [Act.put, List.setIfInBounds_toArray, List.set_cons_zero, List.set_cons_succ, List.getElem_toArray, List.getElem_cons_succ, List.getElem_cons_zero]
  refine wpAnyH_take (i := 1) (v := ?_) rfl (by kernel_rfl) (by kernel_rfl) (by kernel_rfl) (fun _ _ _ h => h) (Or.inl ⟨by rfl, ?_⟩) (by assumption) ?_
  rotate_left
  · intro w' hSw
    obtain ⟨⟨x0, x1, x2⟩, ⟨x3, x4⟩, x5, x6⟩ := hSw
    go_simp <;> with_reducible rfl
  try simp only [Act.put, List.setIfInBounds_toArray, List.set_cons_zero, List.set_cons_succ, List.getElem_toArray, List.getElem_cons_succ, List.getElem_cons_zero]
  refine wpAnyH_take (i := 2) (v := ?_) rfl (by kernel_rfl) (by kernel_rfl) (by kernel_rfl) (fun _ _ _ h => h) (Or.inl ⟨by rfl, ?_⟩) (by assumption) ?_
  rotate_left
  · intro w' hSw
    obtain ⟨⟨x0, x1, x2⟩, ⟨x3, x4⟩, x5, x6⟩ := hSw
    go_simp <;> with_reducible rfl
  try simp only [Act.put, List.setIfInBounds_toArray, List.set_cons_zero, List.set_cons_succ, List.getElem_toArray, List.getElem_cons_succ, List.getElem_cons_zero]
  refine wpAnyH_take (i := 5) (v := ?_) rfl (by kernel_rfl) (by kernel_rfl) (by kernel_rfl) (fun _ _ _ h => h) (Or.inl ⟨by rfl, ?_⟩) (by assumption) ?_
  rotate_left
  · intro w' hSw
    obtain ⟨⟨x0, x1, x2⟩, ⟨x3, x4⟩, x5, x6⟩ := hSw
    go_simp <;> with_reducible rfl
  try simp only [Act.put, List.setIfInBounds_toArray, List.set_cons_zero, List.set_cons_succ, List.getElem_toArray, List.getElem_cons_succ, List.getElem_cons_zero]
  refine wpAnyH_ready (rs := [3]) (by kernel_rfl) (by simp) ?_
  refine AllReadyH.cons rfl (fun K hK => ?_) AllReadyH.nil
  go_simp
  go_at_call 56
  refine (ktext_any a _ _ _ (VA.out _ kd) (by omega)).mono ?_
  rintro e w5 ⟨rfl, hb5⟩
  have k5 : Below w4.heap.size w4 w5 := kd.trans (hb5.mono kd.size)
  clear hb5
  go_simp
  refine hK.out _ _ (by exact KP.out _ (ExQ.ofBelow k5)) (fun hHeld => ?_)
  clear hK K
  try simp only [Act.put, List.setIfInBounds_toArray, List.set_cons_zero, List.set_cons_succ, List.getElem_toArray, List.getElem_cons_succ, List.getElem_cons_zero]
  refine wpAnyH_take (i := 4) (v := ?_) rfl (by kernel_rfl) (by kernel_rfl) (by kernel_rfl) (fun _ _ _ h => h) (Or.inl ⟨by rfl, ?_⟩) (by assumption) ?_
  rotate_left
  · intro w' hSw
    go_simp <;> with_reducible rfl
  try simp only [Act.put, List.setIfInBounds_toArray, List.set_cons_zero, List.set_cons_succ, List.getElem_toArray, List.getElem_cons_succ, List.getElem_cons_zero]
  refine wpAnyH_ready (rs := [6]) (by kernel_rfl) (by simp) ?_
  refine AllReadyH.cons rfl (fun K hK => ?_) AllReadyH.nil
  go_simp
  go_at_call 56
  refine (ktext_any b _ _ _ (VB.out _ k5) (by omega)).mono ?_
  rintro e w6 ⟨rfl, hb6⟩
  have k6 : Below w4.heap.size w4 w6 := k5.trans (hb6.mono k5.size)
  clear hb6
  go_simp
  refine hK.out _ _ (by exact KP.out _ (ExQ.ofBelow k6)) (fun hHeld => ?_)
  clear hK K
  try simp only [Act.put, List.setIfInBounds_toArray, List.set_cons_zero, List.set_cons_succ, List.getElem_toArray, List.getElem_cons_succ, List.getElem_cons_zero]
  refine wpAnyH_take (i := 7) (v := ?_) rfl (by kernel_rfl) (by kernel_rfl) (by kernel_rfl) (fun _ _ _ h => h) (Or.inl ⟨by rfl, ?_⟩) (by assumption) ?_
  rotate_left
  · intro w' hSw
    go_simp <;> with_reducible rfl
  try simp only [Act.put, List.setIfInBounds_toArray, List.set_cons_zero, List.set_cons_succ, List.getElem_toArray, List.getElem_cons_succ, List.getElem_cons_zero]
  have W6 := hide (W4.out.trans (k6.mono W4.out.size))
  have NM := hide (namer_any BT (kyT p) (h.map kyT) B r w6 ((HG.out.nm.later W6.out)) (HT.out.on (W6.out.mono (by have := HRL.out; omega))) hBr.1 (by have := HRL.out; have := W6.out.size; omega) (by simpa using hl))
  refine wpAnyH_ready (rs := [8]) (by kernel_rfl) (by simp) ?_
  refine AllReadyH.cons rfl (fun K hK => ?_) AllReadyH.nil
  go_simp
  rw [HKY.out]
  go_at_call 40
  refine NM.out.mono ?_
  rintro e w7 ⟨rfl, hn7, hx7⟩
  have X7 : Hid (ExQ (Mps r r1 r2) w4 w7) := (ExQ.ofBelow k6).transN hx7 (fun i h _ => Or.inl h)
  have HN7 := hide hn7
  have HX7 := hide hx7
  clear hn7 hx7
  go_simp
  refine hK.out _ _ (by exact KP.out _ X7.out) (fun hHeld => ?_)
  clear hK K
  try simp only [Act.put, List.setIfInBounds_toArray, List.set_cons_zero, List.set_cons_succ, List.getElem_toArray, List.getElem_cons_succ, List.getElem_cons_zero]
  refine wpAnyH_take (i := 9) (v := ?_) rfl (by kernel_rfl) (by kernel_rfl) (by kernel_rfl) (fun _ _ _ h => h) (Or.inl ⟨by rfl, ?_⟩) (by assumption) ?_
  rotate_left
  · intro w' hSw
    go_simp <;> with_reducible rfl
  try simp only [Act.put, List.setIfInBounds_toArray, List.set_cons_zero, List.set_cons_succ, List.getElem_toArray, List.getElem_cons_succ, List.getElem_cons_zero]
  refine wpAnyH_done (by kernel_rfl) ?_ _
  have G7 : Hid (NmAt w7 B r ((addP h p).map kyT) ∧ MapZ w7 Y r1 (bdL (·.l) 0 h) ∧ MapZ w7 Y r2 (bdL (·.r) 0 h)) := by
    have hr := HRL.out
    have hz := W6.out.size
    have hs : ∀ a l, Sl w6 Y a l → Sl w7 Y a l := fun a l hs => hs.exq HX7.out (fun x hx e => HY.out x hx (Or.inl e))
    refine ⟨by rw [addP_keys]; exact HN7.out, ?_, ?_⟩
    · exact (HG.out.lf.later W6.out).kept (HX7.out.block r1 (by omega) (fun e => HG.out.n1 e.symm)) hs
    · exact (HG.out.rt.later W6.out).kept (HX7.out.block r2 (by omega) (fun e => HG.out.n2 e.symm)) hs
  have kd7 : Below w7.heap.size w7 w7.drew := (Below.refl _ _).drew
  have SA7 : Hid (Sl w7 Y aa a.args) := ((HSA.out.later W6.out)).exq HX7.out (fun x hx e => HY.out x hx (Or.inl e))
  have SB7 : Hid (Sl w7 Y ab b.args) := ((HSB.out.later W6.out)).exq HX7.out (fun x hx e => HY.out x hx (Or.inl e))
  have hidx : idxS (kyT p) (h.map kyT) = idxP p h := rfl
  rw [hidx]
  obtain ⟨w8, run8, M8, z8, o8, t8, u8, k8⟩ := mz_put (w := w7.drew) (·.l) (p := p) (a := aa) (c := ca) (G7.out.2.1.later kd7) (fun x hx e => HY.out x hx (Or.inr (Or.inl e))) HOK.out HG.out.ok (by rw [HPL.out.1]; exact SA7.out.later kd7)
  have SB8 : Hid (Sl w8 Y ab b.args) := (SB7.out.later kd7).kept fun x hx => k8 x (fun e => HY.out x hx (Or.inr (Or.inl e)))
  have R8 : Hid (MapZ w8 Y r2 (bdL (·.r) 0 h)) := (G7.out.2.2.later kd7).kept (k8 r2 (fun e => HG.out.n3 e.symm)) (fun a l hs => hs.kept fun x hx => k8 x (fun e => HY.out x hx (Or.inr (Or.inl e))))
  obtain ⟨w9, run9, M9, z9, o9, t9, u9, k9⟩ := mz_put (·.r) (p := p) (a := ab) (c := cb) R8.out (fun x hx e => HY.out x hx (Or.inr (Or.inr e))) HOK.out HG.out.ok (by rw [HPL.out.2]; exact SB8.out)
  simp only [HPL.out.1] at run8
  simp only [HPL.out.2] at run9
  have X8 : Hid (ExQ (Mps r r1 r2) w4 w8) := X7.out.drew.trans ⟨o8, t8, u8, by omega, fun x _ hn => k8 x (fun e => hn (Or.inr (Or.inl e)))⟩
  have X9 : Hid (ExQ (Mps r r1 r2) w4 w9) := X8.out.trans ⟨o9, t9, u9, by omega, fun x _ hn => k9 x (fun e => hn (Or.inr (Or.inr e)))⟩
  have N7 := hide (G7.out.1.later kd7)
  have G9 : Hid (GmAt w9 B r r1 r2 Y (addP h p)) := by
    have hr := HRL.out
    refine ⟨⟨(k9 B HG.out.b2).trans ((k8 B HG.out.b1).trans N7.out.box), N7.out.map.kept ((k9 r HG.out.n2).trans (k8 r HG.out.n1)), N7.out.ne⟩, M8.kept (k9 r1 HG.out.n3) (fun a l hs => hs.kept fun x hx => k9 x (fun e => HY.out x hx (Or.inr (Or.inr e)))), M9, HG.out.n1, HG.out.n2, HG.out.n3, HG.out.b1, HG.out.b2, addP_ok HG.out.ok HOK.out⟩
  have R9 := hide (KR.out.exq X9.out (by have := HRL.out; unfold Mps; omega))
  have RUN8 := hide run8
  have RUN9 := hide run9
  have HS7 := hide (KP.out _ X7.out.drew)
  have HS8 := hide (KP.out _ X8.out)
  have HS9 := hide (KP.out _ X9.out)
  generalize nmZ (idxP p h + 1) = nm at *
  clear kd7 run8 run9 M8 M9 z8 z9 o8 o9 t8 t9 u8 u9 k8 k9 hidx NM l1 l2 l3 l4 lta ltb
  go_upto_region 2 with fail
  refine wp_region_held_drew (S := (fun w' => (w'.cell? ⟨w.heap.size, 0, none⟩ = some (.func (.func 40) #[] #[.pointer (some ⟨B, 0, none⟩)]) ∧ w'.cell? ⟨w.heap.size, 1, none⟩ = some (.map (some r1)) ∧ w'.cell? ⟨w.heap.size, 2, none⟩ = some (.map (some r2))) ∧ (w'.cell? ⟨w.heap.size + 1, 0, none⟩ = some (.string a.name) ∧ w'.cell? ⟨w.heap.size + 1, 1, none⟩ = some (.slice aa a.args.length ca)) ∧ w'.cell? ⟨w.heap.size + 2, 0, none⟩ = some (.string b.name) ∧ w'.cell? ⟨w.heap.size + 2, 1, none⟩ = some (.slice ab b.args.length cb))) (by kernel_rfl) HS7.out (fun hHeld => ?_)
  refine wpAnyH_take (i := 0) (v := ?_) rfl (by kernel_rfl) (by kernel_rfl) (by kernel_rfl) (fun _ _ _ h => h) (Or.inl ⟨by rfl, ?_⟩) (by assumption) ?_
  rotate_left
  · intro w' hSw
    go_simp <;> with_reducible rfl
  try simp only [Act.put, List.setIfInBounds_toArray, List.set_cons_zero, List.set_cons_succ, List.getElem_toArray, List.getElem_cons_succ, List.getElem_cons_zero]
  refine wpAnyH_take (i := 1) (v := ?_) rfl (by kernel_rfl) (by kernel_rfl) (by kernel_rfl) (fun _ _ _ h => h) (Or.inl ⟨by rfl, ?_⟩) (by assumption) ?_
  rotate_left
  · intro w' hSw
    obtain ⟨⟨x0, x1, x2⟩, ⟨x3, x4⟩, x5, x6⟩ := hSw
    go_simp <;> with_reducible rfl
  try simp only [Act.put, List.setIfInBounds_toArray, List.set_cons_zero, List.set_cons_succ, List.getElem_toArray, List.getElem_cons_succ, List.getElem_cons_zero]
  refine wpAnyH_take (i := 2) (v := ?_) rfl (by kernel_rfl) (by kernel_rfl) (by kernel_rfl) (fun _ _ _ h => h) (Or.inl ⟨by rfl, ?_⟩) (by assumption) ?_
  rotate_left
  · intro w' hSw
    go_simp <;> with_reducible rfl
  try simp only [Act.put, List.setIfInBounds_toArray, List.set_cons_zero, List.set_cons_succ, List.getElem_toArray, List.getElem_cons_succ, List.getElem_cons_zero]
  refine wpAnyH_take (i := 3) (v := ?_) rfl (by kernel_rfl) (by kernel_rfl) (by kernel_rfl) (fun _ _ _ h => h) (Or.inl ⟨by rfl, ?_⟩) (by assumption) ?_
  rotate_left
  · intro w' hSw
    go_simp <;> with_reducible rfl
  try simp only [Act.put, List.setIfInBounds_toArray, List.set_cons_zero, List.set_cons_succ, List.getElem_toArray, List.getElem_cons_succ, List.getElem_cons_zero]
  refine wpAnyH_take (i := 4) (v := ?_) rfl (by kernel_rfl) (by kernel_rfl) (by kernel_rfl) (fun _ _ _ h => h) (Or.inl ⟨by rfl, ?_⟩) (by assumption) ?_
  rotate_left
  · intro w' hSw
    obtain ⟨⟨x0, x1, x2⟩, ⟨x3, x4⟩, x5, x6⟩ := hSw
    go_simp <;> with_reducible rfl
  try simp only [Act.put, List.setIfInBounds_toArray, List.set_cons_zero, List.set_cons_succ, List.getElem_toArray, List.getElem_cons_succ, List.getElem_cons_zero]
  refine wpAnyH_take (i := 5) (v := ?_) rfl (by kernel_rfl) (by kernel_rfl) (by kernel_rfl) (fun _ _ _ h => h) (Or.inl ⟨by rfl, ?_⟩) (by assumption) ?_
  rotate_left
  · intro w' hSw
    go_simp <;> with_reducible rfl
  try simp only [Act.put, List.setIfInBounds_toArray, List.set_cons_zero, List.set_cons_succ, List.getElem_toArray, List.getElem_cons_succ, List.getElem_cons_zero]
  refine wpAnyH_take (i := 6) (v := ?_) rfl (by kernel_rfl) (by kernel_rfl) (by kernel_rfl) (fun _ _ _ h => h) (Or.inl ⟨by rfl, ?_⟩) (by assumption) ?_
  rotate_left
  · intro w' hSw
    obtain ⟨⟨x0, x1, x2⟩, ⟨x3, x4⟩, x5, x6⟩ := hSw
    go_simp <;> with_reducible rfl
  try simp only [Act.put, List.setIfInBounds_toArray, List.set_cons_zero, List.set_cons_succ, List.getElem_toArray, List.getElem_cons_succ, List.getElem_cons_zero]
  refine wpAnyH_take (i := 7) (v := ?_) rfl (by kernel_rfl) (by kernel_rfl) (by kernel_rfl) (fun _ _ _ h => h) (Or.inl ⟨by rfl, ?_⟩) (by assumption) ?_
  rotate_left
  · intro w' hSw
    obtain ⟨⟨x0, x1, x2⟩, ⟨x3, x4⟩, x5, x6⟩ := hSw
    go_simp <;> with_reducible rfl
  try simp only [Act.put, List.setIfInBounds_toArray, List.set_cons_zero, List.set_cons_succ, List.getElem_toArray, List.getElem_cons_succ, List.getElem_cons_zero]
  have run8 := RUN8.out
  refine wpAnyH_ready (rs := [8]) (by kernel_rfl) (by simp) ?_
  refine AllReadyH.cons rfl (fun K hK => ?_) AllReadyH.nil
  go_simp
  refine hK.out _ _ (by exact HS8.out) (fun hHeld => ?_)
  clear hK K
  try simp only [Act.put, List.setIfInBounds_toArray, List.set_cons_zero, List.set_cons_succ, List.getElem_toArray, List.getElem_cons_succ, List.getElem_cons_zero]
  clear run8
  have run9 := RUN9.out
  refine wpAnyH_ready (rs := [9]) (by kernel_rfl) (by simp) ?_
  refine AllReadyH.cons rfl (fun K hK => ?_) AllReadyH.nil
  go_simp
  refine hK.out _ _ (by exact HS9.out) (fun hHeld => ?_)
  clear hK K
  try simp only [Act.put, List.setIfInBounds_toArray, List.set_cons_zero, List.set_cons_succ, List.getElem_toArray, List.getElem_cons_succ, List.getElem_cons_zero]
  clear run9
  refine wpAnyH_done (by kernel_rfl) ?_ _
  have q0 : w9.cell? ⟨w.heap.size + 3, 0, none⟩ = some (.string ⟨#[]⟩) := R9.out.cell 0
  have q1 : w9.cell? ⟨w.heap.size + 3, 1, none⟩ = some (.slice none 0 0) := R9.out.cell 1
  have qf := R9.out.frozen
  have hRl : w.heap.size + 3 < w9.heap.size := R9.out.lt
  clear HS7 HS8 HS9 KP VA VB
  go_wp2_with fail
  refine bodyPost_ret (v := .agg #[.string nm, .slice none 0 0]) (by simp [results, Tryd.results43, go_sem, World.cell?_setCell_same, World.cell?_setCell_other, q0, q1, hRl]) rfl ?_
  rw [HVR.out]
  have hr := HRL.out
  refine ⟨rfl, G9.out.kept fun x hx hc => ?_, ?_⟩
  · have hne : x ≠ w.heap.size + 3 := by
      rcases hc with h1 | h1 | h1
      · omega
      · unfold Mps at h1; omega
      · intro e
        subst e
        exact absurd (HYW.out _ h1) (by omega)
    rw [Below.heap_setCell _ _ _ _ (by simpa using hne), Below.heap_setCell _ _ _ _ (by simpa using hne)]
  · exact (((ExQ.ofBelow W4.out).trans X9.out).setNew (by omega) _ _).setNew (by omega) _ _
end Go.Proofs.YtakmclheffbeaaaDoor

/- Which term is above another one, by paths and by weights: plain. -/
namespace Go.Proofs.YtakmclheffbeaaaDoor
open Go.RowKit
set_option linter.unusedSimpArgs false
set_option linter.unusedVariables false

end Go.Proofs.YtakmclheffbeaaaDoor

/- Which term is above another one by weights: plain. -/
namespace Go.Proofs.YtakmclheffbeaaaDoor
open Go.RowKit
set_option linter.unusedSimpArgs false
set_option linter.unusedVariables false

end Go.Proofs.YtakmclheffbeaaaDoor

/- Where those below a knot stand among all knots: plain. -/
namespace Go.Proofs.YtakmclheffbeaaaDoor
open Go.RowKit
set_option linter.unusedSimpArgs false
set_option linter.unusedVariables false

end Go.Proofs.YtakmclheffbeaaaDoor

/- Terms that are told by numbers: plain. -/
namespace Go.Proofs.YtakmclheffbeaaaDoor
open Go.RowKit
set_option linter.unusedSimpArgs false
set_option linter.unusedVariables false

theorem eqL_all : ∀ l k : List Tm, l.length = k.length → eqL l k = true → l = k := by
  intro l
  induction l using Tm.indL with
  | h0 => intro k h _; cases k with
    | nil => rfl
    | cons _ _ => simp at h
  | h s a r iha ihr =>
    intro k h he
    cases k with
    | nil => simp at h
    | cons u q =>
      obtain ⟨s', b⟩ := u
      rw [eqL_cons] at he
      simp only [Bool.and_eq_true] at he
      obtain ⟨h1, h2⟩ := he
      unfold sameB at h1
      simp only [Bool.and_eq_true, beq_iff_eq] at h1
      obtain ⟨h3, h4, h5⟩ := h1
      rw [ihr q (by simpa using h) h2, iha b h4 h5, bytes_inj h3]
theorem eqL_self : ∀ l : List Tm, eqL l l = true := by
  intro l
  induction l using Tm.indL with
  | h0 => simp [eqL]
  | h s a r iha ihr =>
    rw [eqL_cons, ihr]
    simp [sameB, iha]
theorem sameB_iff {a b : Tm} : sameB a b = true ↔ a = b := by
  constructor
  · intro h
    obtain ⟨s, l⟩ := a
    obtain ⟨s', k⟩ := b
    unfold sameB at h
    simp only [Bool.and_eq_true, beq_iff_eq] at h
    rw [bytes_inj h.1, eqL_all l k h.2.1 h.2.2]
  · rintro rfl
    unfold sameB
    simp [eqL_self]
end Go.Proofs.YtakmclheffbeaaaDoor

/- Walks: the document's generalization (least, GeneralOf). -/
namespace Go.Proofs.YtakmclheffbeaaaDoor
open Go.RowKit
set_option linter.unusedSimpArgs false
set_option linter.unusedVariables false
set_option maxRecDepth 8000

theorem str_catL (a b : List UInt8) : (⟨a.toArray⟩ : ByteArray) ++ ⟨b.toArray⟩ = ⟨(a ++ b).toArray⟩ := by
  apply ByteArray.ext
  simp
theorem RowZ.sl {w : World} {N : Nat} {Z : Nat → Prop} {v : Value} {l : List Tm} {xs : List Value} (h : RowZ w N Z v l xs) : ∃ a c, v = .slice a l.length c ∧ Sl w (fun b => Z b ∨ some b = v.ownBlock) a l := by
  have hml : l.length ≤ 9223372036854775807 := by
    rcases h.own.2 with ⟨_, h0⟩ | ⟨g, cap, cur, _, _, _, h1, h2, _⟩
    · omega
    · unfold maxLen at h2; omega
  by_cases h0 : 0 < l.length
  · obtain ⟨g, cap, rfl, hg, hlt, hc⟩ := owned_val h.own h0
    exact ⟨_, _, rfl, hml, Or.inr ⟨g, 0, rfl, lies_of_rowT g (Or.inr rfl) l xs 0 h.row (fun a k hs => hs.mono fun b hb _ => Or.inl hb) (fun j u hj => by simpa using hc j u hj)⟩⟩
  · have e : l = [] := List.length_eq_zero_iff.1 (by omega)
    subst e
    rcases h.own.2 with ⟨hv, _⟩ | ⟨g, cap, cur, hv, _⟩
    · exact ⟨none, 0, hv, hml, Or.inl rfl⟩
    · exact ⟨_, _, hv, hml, Or.inl rfl⟩
/-- As a list of pairs. -/
theorem LRow.qv {w : World} {N : Nat} {Y : Nat → Prop} {v : Value} {cs : List Pc} (h : LRow w N Y v cs) : QV w (fun b => Y b ∨ N ≤ b) v (cs.map (·.1)) := by
  have hml : cs.length ≤ 9223372036854775807 := by
    rcases h.own.2 with ⟨_, h0⟩ | ⟨g, cap, cur, _, _, _, h1, h2, _⟩
    · omega
    · unfold maxLen at h2; omega
  by_cases h0 : 0 < cs.length
  · obtain ⟨g, cap, rfl, hg, hlt, hc⟩ := owned_val h.own h0
    have hcap : cs.length ≤ cap := by
      rcases h.own.2 with ⟨e, _⟩ | ⟨g', cap', cur, e, _, _, h1, _⟩
      · cases e
      · simp at e; omega
    refine ⟨_, cap, by simp, ⟨by simpa using hml, by simpa using hcap⟩, Or.inr ⟨g, 0, rfl, Or.inr hg, fun i hi => ?_⟩⟩
    have hi' : i < cs.length := by simpa using hi
    have g0 := hc (i * 4 + 0) (.string cs[i].1.l.name) (by rw [flat4_get cs i hi' 0 (by decide)]; rfl)
    have g1 := hc (i * 4 + 1) (.slice cs[i].2.1.1 cs[i].1.l.args.length cs[i].2.1.2) (by rw [flat4_get cs i hi' 1 (by decide)]; rfl)
    have g2 := hc (i * 4 + 2) (.string cs[i].1.r.name) (by rw [flat4_get cs i hi' 2 (by decide)]; rfl)
    have g3 := hc (i * 4 + 3) (.slice cs[i].2.2.1 cs[i].1.r.args.length cs[i].2.2.2) (by rw [flat4_get cs i hi' 3 (by decide)]; rfl)
    simp only [List.getElem_map, Nat.zero_add]
    obtain ⟨r1, r2⟩ := h.row cs[i] (List.getElem_mem hi')
    exact ⟨_, _, _, _, g0, g1, g2, g3, r1.mono fun b hb _ => Or.inl hb, r2.mono fun b hb _ => Or.inl hb⟩
  · have e : cs = [] := List.length_eq_zero_iff.1 (by omega)
    subst e
    rcases h.own.2 with ⟨hv, _⟩ | ⟨g, cap, cur, hv, _⟩
    · exact ⟨none, 0, hv, by simp, Or.inl rfl⟩
    · exact ⟨_, _, hv, by simp, Or.inl rfl⟩
/-- The boxes at the start. -/
structure LsW (w : World) (va vb : Array Value) (w' : World) : Prop where
  bl : Below w.heap.size w w'
  ka : Blk w' w.heap.size va 24
  kb : Blk w' (w.heap.size + 1) vb 24
  kr : Blk w' (w.heap.size + 2) #[.string ⟨#[]⟩, .slice none 0 0] 24
theorem LsW.later {w w' w2 : World} {va vb : Array Value} (h : LsW w va vb w') (hb : Below w'.heap.size w' w2) : LsW w va vb w2 :=
  ⟨h.bl.trans (hb.mono h.bl.size), h.ka.below hb h.ka.lt, h.kb.below hb h.kb.lt, h.kr.below hb h.kr.lt⟩
/-- What least tells. -/
def LsP (N : Nat) (Y : Nat → Prop) (hv : Value) (y : Tm × List Pr) (w : World) (e : Ending) (w' : World) : Prop :=
  ∃ a c hv' cs', e = .returned (.tuple #[.agg #[.string y.1.name, .slice a y.1.args.length c], hv']) ∧ Sl w' (fun b => w.heap.size ≤ b ∧ some b ≠ hv'.ownBlock) a y.1.args ∧ LRow w' N Y hv' cs' ∧ cs'.map (·.1) = y.2 ∧ ExQ (fun b => some b = hv.ownBlock) w w' ∧ (hv'.ownBlock = hv.ownBlock ∨ ∃ g, hv'.ownBlock = some g ∧ w.heap.size ≤ g)
/-- How far the loop is. -/
structure LsI (w : World) (O N : Nat) (Y : Nat → Prop) (hv : Value) (s : ByteArray) (va vb : Array Value) (u : Value) (L : List Tm) (xs : List Value) (hq : Value) (cs : List Pc) (wr : World) : Prop where
  row : RowZ wr (O + 1) (fun b => O + 1 ≤ b ∧ some b ≠ hq.ownBlock ∧ some b ≠ u.ownBlock) u L xs
  lr : LRow wr N Y hq cs
  ex : ExQ (fun b => some b = hv.ownBlock) w wr
  ka : Blk wr w.heap.size va 24
  kb : Blk wr (w.heap.size + 1) vb 24
  kr : Blk wr (w.heap.size + 2) #[.string ⟨#[]⟩, .slice none 0 0] 24
  out : Blk wr O #[.string s, u] 24
  ol : w.heap.size + 3 ≤ O
  sz : O + 1 ≤ wr.heap.size
  hw : hq.ownBlock = hv.ownBlock ∨ ∃ g, hq.ownBlock = some g ∧ O + 1 ≤ g
  ne : ∀ b, u.ownBlock = some b → some b ≠ hq.ownBlock
theorem exq_setA (w : World) (A i : Nat) (v : Value) : ExQ (fun b => b = A) w (w.setCell ⟨A, i, none⟩ v) := (ExQ.refl (fun b => b = A) w).set (show (fun b => b = A) A from rfl) i v
theorem ls_round {w wr w6 : World} {O N : Nat} {Y : Nat → Prop} {hv : Value} {s : ByteArray} {va vb : Array Value} {u : Value} {L : List Tm} {xs : List Value} {hq h5 : Value} {cs cs5 : List Pc} {t : Tm} {a5 : Option Addr} {c5 : Nat} (hNw : N ≤ w.heap.size) (hY : ∀ b, Y b → b < N) (hhv : ∀ b, hv.ownBlock = some b → b < w.heap.size) (hI : LsI w O N Y hv s va vb u L xs hq cs wr) (hl : L.length ≤ 1000000)
    (hx : ExQ (fun b => some b = hq.ownBlock) wr w6) (hs5 : Sl w6 (fun b => wr.heap.size ≤ b ∧ some b ≠ h5.ownBlock) a5 t.args) (hr5 : LRow w6 N Y h5 cs5) (hw5 : h5.ownBlock = hq.ownBlock ∨ ∃ g, h5.ownBlock = some g ∧ wr.heap.size ≤ g) :
    ∃ g cap w3, (Builtin.append_ #[22, 22] 22 #[u, .slice (some ⟨w6.heap.size, 0, none⟩) 1 1]).run Tryd.prog (w6.alloc (.cells #[.string t.name, .slice a5 t.args.length c5] 24)) = .ok (.slice (some ⟨g, 0, none⟩) (L.length + 1) cap) w3 ∧
      w6.cell? ⟨O, 1, none⟩ = some u ∧ w3.cell? ⟨O, 1, none⟩ = some u ∧ w3.frozen? ⟨O, 1, none⟩ = false ∧ O < w3.heap.size ∧
      LsI w O N Y hv s va vb (.slice (some ⟨g, 0, none⟩) (L.length + 1) cap) (L ++ [t]) (xs ++ [.string t.name, .slice a5 t.args.length c5]) h5 cs5 (w3.setCell ⟨O, 1, none⟩ (.slice (some ⟨g, 0, none⟩) (L.length + 1) cap)) := by
  obtain ⟨hrow, hlr, hex, hka, hkb, hkr, hout, hol, hsz, hhw, hne⟩ := hI
  have hult := hrow.own.lt
  have hqlt := hlr.own.lt
  have h5lt := hr5.own.lt
  have hs6 := hx.size
  -- what is no block of the pairs'
  have nq : ∀ b, w.heap.size ≤ b → b < O + 1 → ¬ some b = hq.ownBlock := fun b h1 h2 e => by
    rcases hhw with h | ⟨g, h, h3⟩
    · rw [h] at e; have := hhv b e.symm; omega
    · rw [h] at e; simp at e; omega
  have hrow6 : RowZ w6 (O + 1) (fun b => O + 1 ≤ b ∧ some b ≠ h5.ownBlock ∧ some b ≠ u.ownBlock) u L xs := by
    refine ((hrow.mono (Z' := fun b => (O + 1 ≤ b ∧ some b ≠ hq.ownBlock ∧ some b ≠ u.ownBlock) ∧ b < wr.heap.size) fun b h1 h2 => ⟨h1, h2⟩).exq hx (fun b hb => hne b hb) (fun b hb => hb.1.2.1)).mono fun b hb _ => ⟨hb.1.1, ?_, hb.1.2.2⟩
    rcases hw5 with h | ⟨g, h, h3⟩
    · rw [h]; exact hb.1.2.1
    · rw [h]; intro e; simp at e; have := hb.2; omega
  obtain ⟨g, cap, w3, hr, hrow3, he3, hat⟩ := app_termZ (c := c5) (z := t) (a1 := a5) hrow6 (by omega) (fun b hb => hb.2.2) hl (hs5.mono fun b hb _ => ⟨by omega, hb.2, fun e => by have := (hult b e.symm).2; omega⟩)
  have h5u : ∀ b, h5.ownBlock = some b → ¬ some b = u.ownBlock := fun b hb e => by
    rcases hw5 with h | ⟨g', h, h3⟩
    · exact hne b e.symm (by rw [← h, hb])
    · rw [h] at hb; simp at hb; have := (hult b e.symm).2; omega
  have h5O : ∀ b, h5.ownBlock = some b → b ≠ O := fun b hb e => by
    rcases hw5 with h | ⟨g', h, h3⟩
    · exact nq b (by omega) (by omega) (by rw [← h, hb])
    · rw [h] at hb; simp at hb; omega
  have hlr3 : LRow w3 N Y h5 cs5 := hr5.exq he3 (fun b e => by have := (hult b e.symm).1; omega) hY h5u
  have nu : ∀ b, b < O + 1 → ¬ some b = u.ownBlock := fun b h1 e => by have := (hult b e.symm).1; omega
  have hx3 : ExQ (fun b => some b = hv.ownBlock) w w3 := (hex.transN hx (fun i h1 h2 => by
    rcases hhw with h | ⟨g', h, h3⟩
    · rw [← h]; exact h1
    · rw [h] at h1; simp at h1; omega)).transN he3 (fun i h1 h2 => by have := (hult i h1.symm).1; omega)
  have o6 := hout.exq hx (nq _ (by omega) (by omega))
  have o3 := o6.exq he3 (nu _ (by omega))
  have a3 := ((hka.exq hx (nq _ (by omega) (by omega))).exq he3 (nu _ (by omega))).setOther (b' := O) 1 (.slice (some ⟨g, 0, none⟩) (L.length + 1) cap) (by omega)
  have b3 := ((hkb.exq hx (nq _ (by omega) (by omega))).exq he3 (nu _ (by omega))).setOther (b' := O) 1 (.slice (some ⟨g, 0, none⟩) (L.length + 1) cap) (by omega)
  have r3 := ((hkr.exq hx (nq _ (by omega) (by omega))).exq he3 (nu _ (by omega))).setOther (b' := O) 1 (.slice (some ⟨g, 0, none⟩) (L.length + 1) cap) (by omega)
  have hs3 := he3.size
  have hE : ExQ (fun b => b = O) w3 (w3.setCell ⟨O, 1, none⟩ (.slice (some ⟨g, 0, none⟩) (L.length + 1) cap)) := exq_setA w3 O 1 _
  have hgO : O + 1 ≤ g := by
    rcases hat with h | h
    · exact (hult g h).1
    · omega
  refine ⟨g, cap, w3, hr, o6.cell 1, o3.cell 1, o3.frozen 1, by omega, ⟨?_, hlr3.exq hE (fun b e => by omega) hY h5O, hx3.setNew (by omega) _ _, a3, b3, r3, o3.set 1 _, hol, by simp [World.setCell]; omega, ?_, ?_⟩⟩
  · refine (hrow3.exq hE (fun b hb e => ?_) (fun b hb e => by have := hb.1.1; omega)).mono fun b hb _ => ⟨hb.1.1, hb.1.2.1, fun e => hb.2 (by simpa [Value.ownBlock] using e)⟩
    simp [Value.ownBlock] at hb; omega
  · rcases hw5 with h | ⟨g', h, h3⟩
    · rw [h]; exact hhw
    · exact Or.inr ⟨g', h, by omega⟩
  · intro b hb e
    have hbg : b = g := by simpa [Value.ownBlock, eq_comm] using hb
    subst hbg
    rcases hat with h | h
    · exact h5u b e.symm h.symm
    · have := (h5lt b e.symm).2; omega
/-- Old memory but for the pairs' own row. -/
def KpS (wr : World) (hq : Value) (w' : World) : Prop := wr.heap.size ≤ w'.heap.size ∧ ∀ x, x < wr.heap.size → some x ≠ hq.ownBlock → w'.heap[x]? = wr.heap[x]?
theorem KpS.ex {wr w1 w2 : World} {hq : Value} (h : KpS wr hq w1) (he : ExQ (fun b => some b = hq.ownBlock) w1 w2) : KpS wr hq w2 := ⟨Nat.le_trans h.1 he.size, fun x h1 h2 => (he.block x (Nat.lt_of_lt_of_le h1 h.1) h2).trans (h.2 x h1 h2)⟩
theorem KpS.al {wr w1 : World} {hq : Value} (h : KpS wr hq w1) (o : Obj) : KpS wr hq (w1.alloc o) := h.ex ((ExQ.refl _ _).alloc o)
theorem KpS.st {wr w1 : World} {hq : Value} (h : KpS wr hq w1) {A : Nat} (hA : wr.heap.size ≤ A) (i : Nat) (v : Value) : KpS wr hq (w1.setCell ⟨A, i, none⟩ v) := ⟨by simpa [World.setCell] using h.1, fun x h1 h2 => (Below.heap_setCell _ _ _ _ (by simp; omega)).trans (h.2 x h1 h2)⟩
theorem KpS.cell {wr w1 : World} {hq : Value} (h : KpS wr hq w1) {b o : Nat} {v : Value} (hc : wr.cell? ⟨b, o, none⟩ = some v) (hp : some b ≠ hq.ownBlock) : w1.cell? ⟨b, o, none⟩ = some v := by
  rw [World.cell?_of_block (h.2 b (cell_lt hc) hp)]; exact hc

theorem lies_inL {w : World} {X : Nat → Prop} : ∀ (l : List Tm) (b o : Nat), Lies w X b o l → ∀ (k : Nat), k < l.length → X b
  | ⟨s, m⟩ :: r, b, o, h, _, _ => by
    simp only [Lies] at h
    exact h.1
theorem errL_takeL (k : Nat) : ∀ {l : List Tm}, errL l = 0 → errL (l.take k) = 0 := by
  induction k with
  | zero => intro l _; simp [errL]
  | succ k ih =>
    intro l h
    cases l with
    | nil => simpa using h
    | cons t r =>
      obtain ⟨h1, h2⟩ := errL_two h
      rw [List.take_succ_cons, errL_cons, if_pos h1]
      exact ih h2

set_option maxHeartbeats 4000000 in
theorem least_any (N : Nat) (Y : Nat → Prop) (hY : ∀ b, Y b → b < N) (a : Tm) : ∀ (b : Tm) (hv : Value) (cs : List Pc) (va vb : Value) (w : World), TV w Y va a → TV w Y vb b → LRow w N Y hv cs → N ≤ w.heap.size → (∀ p ∈ cs.map (·.1), OkPr p) → errL [a] = 0 → errL [b] = 0 → cs.length + sizeL [a] ≤ 100000 →
    Calls Tryd.prog 21 #[va, vb, hv] w fun e w' => LsP N Y hv (gnT (cs.map (·.1)) a b) w e w' := by
  induction a using Tm.ind with
  | h s l ih =>
    intro b hv cs va vb w ha hb hlr hN hok hea heb hlh
    have IH := hide ih
    clear ih
    obtain ⟨a, hae⟩ : ∃ a : Tm, a = ⟨s, l⟩ := ⟨_, rfl⟩
    rw [← hae] at ha hea hlh ⊢
    have HAE : Hid (a.name = s ∧ a.args = l) := by rw [hae]; exact ⟨rfl, rfl⟩
    obtain ⟨aa, ca, rfl, hsa⟩ := ha
    obtain ⟨ab, cb, rfl, hsb⟩ := hb
    have HSA := hide hsa
    have HSB := hide hsb
    have HLR := hide hlr
    have HY := hide hY
    have hla := hsa.1
    have hlb := hsb.1
    have HEA := hide hea
    have HEB := hide heb
    have HLH := hide hlh
    have HOK := hide hok
    have HHV : Hid (∀ b, hv.ownBlock = some b → b < w.heap.size) := fun b hb => (hlr.own.lt b hb).2
    obtain ⟨ps, hps⟩ : ∃ ps, ps = cs.map (·.1) := ⟨_, rfl⟩
    have HPS := hide hps
    have hpl : ps.length = cs.length := by rw [hps]; simp
    have HPL := hide hpl
    have hqv := hlr.qv
    rw [← hps] at hqv hok ⊢
    have HQV := hide hqv
    obtain ⟨ah, ch, hve, hcl, _⟩ := id hqv
    have HVE := hide hve
    rw [hpl] at hcl
    clear hsa hsb hlr hea heb hae hlh hok hps hqv hve hpl hY
    have W3 : Hid (LsW w #[.string a.name, .slice aa a.args.length ca] #[.string b.name, .slice ab b.args.length cb] (((w.alloc (.cells #[.string a.name, .slice aa a.args.length ca] 24)).alloc (.cells #[.string b.name, .slice ab b.args.length cb] 24)).alloc (.cells #[.string ⟨#[]⟩, .slice none 0 0] 24))) := by
      refine ⟨(((Below.refl _ _).alloc (Nat.le_refl _) _).alloc (by simp) _).alloc (by simp; omega) _, ((Blk.new w _ _).alloc _).alloc _, ?_, ?_⟩
      · have h := (Blk.new (w.alloc (.cells #[.string a.name, .slice aa a.args.length ca] 24)) #[.string b.name, .slice ab b.args.length cb] 24).alloc (.cells #[.string ⟨#[]⟩, .slice none 0 0] 24)
        rw [World.size_alloc] at h
        exact h
      · have h := Blk.new ((w.alloc (.cells #[.string a.name, .slice aa a.args.length ca] 24)).alloc (.cells #[.string b.name, .slice ab b.args.length cb] 24)) #[.string ⟨#[]⟩, .slice none 0 0] 24
        rw [World.size_alloc, World.size_alloc] at h
        exact h
    go_enter Tryd.func21, Tryd.ntmps21
    go_upto_region 1 with fail
    generalize (((w.alloc (.cells #[.string a.name, .slice aa a.args.length ca] 24)).alloc (.cells #[.string b.name, .slice ab b.args.length cb] 24)).alloc (.cells #[.string ⟨#[]⟩, .slice none 0 0] 24)) = w3 at *
    have c0 := W3.out.ka.cell 0
    have c1 := W3.out.ka.cell 1
    have d0 := W3.out.kb.cell 0
    have d1 := W3.out.kb.cell 1
    go_cut [32] (fun v w' => v = .bool (symB a b) ∧ LsW w #[.string a.name, .slice aa a.args.length ca] #[.string b.name, .slice ab b.args.length cb] w')
    case first =>
      have HV := hide (isVarR_any a.name w3)
      cases hvr : varB a.name with
      | true =>
        have HZ : Hid (symB a b = false) := by unfold Hid symB; simp [hvr]
        have HVV := hide hvr
        clear hvr
        go_wp2_with fail
        refine HV.out.mono ?_
        rintro e w2 ⟨rfl, rfl⟩
        rw [HVV.out]
        go_wp2_with fail
        go_meet
        rw [HZ.out]
        exact ⟨rfl, W3.out⟩
      | false =>
        have HVV := hide hvr
        clear hvr
        by_cases hn : a.name = b.name
        · by_cases hl : a.args.length = b.args.length
          · have HZ : Hid (symB a b = true) := by unfold Hid symB; simp [HVV.out, hn, hl]; rw [← hn]; exact HVV.out
            have hni : (a.name.toList == b.name.toList) = true := by rw [name_eqZ]; simpa using hn
            have hli : ((a.args.length : Int) == (b.args.length : Int)) = true := by simpa using (by omega : (a.args.length : Int) = (b.args.length : Int))
            have HN := hide hn
            have HL := hide hl
            clear hn hl
            go_wp2_with fail
            refine HV.out.mono ?_
            rintro e w2 ⟨rfl, rfl⟩
            rw [HVV.out]
            go_wp2_with fail
            go_meet
            rw [HZ.out]
            exact ⟨rfl, W3.out⟩
          · have HZ : Hid (symB a b = false) := by unfold Hid symB; simp [hl]
            have hni : (a.name.toList == b.name.toList) = true := by rw [name_eqZ]; simpa using hn
            have hli : ((a.args.length : Int) == (b.args.length : Int)) = false := by simpa using (by omega : ¬ (a.args.length : Int) = (b.args.length : Int))
            have HN := hide hn
            have HL := hide hl
            clear hn hl
            go_wp2_with fail
            refine HV.out.mono ?_
            rintro e w2 ⟨rfl, rfl⟩
            rw [HVV.out]
            go_wp2_with fail
            go_meet
            rw [HZ.out]
            exact ⟨rfl, W3.out⟩
        · have HZ : Hid (symB a b = false) := by unfold Hid symB; simp [hn]
          have hni : (a.name.toList == b.name.toList) = false := by rw [name_eqZ]; simpa using hn
          have HN := hide hn
          clear hn
          go_wp2_with fail
          refine HV.out.mono ?_
          rintro e w2 ⟨rfl, rfl⟩
          rw [HVV.out]
          go_wp2_with fail
          go_meet
          rw [HZ.out]
          exact ⟨rfl, W3.out⟩
    case rest =>
      obtain ⟨rfl, hw4⟩ := hcut
      rename World => w4
      have W4 := hide hw4
      clear hw4 c0 c1 d0 d1 W3 w3
      cases hsy : symB a b with
      | false =>
        have HGN : Hid (gnT ps a b = vrP ps a b) := by unfold Hid gnT; rw [hsy]; simp
        clear hsy IH
        have HIL : Hid (idxP ⟨a, b⟩ ps ≤ cs.length) := by have := idxP_le ⟨a, b⟩ ps; rw [HPL.out] at this; exact this
        have HOKP : Hid (OkPr ⟨a, b⟩) := ⟨HEA.out, HEB.out⟩
        have hvv := HVE.out
        rw [HPL.out] at hvv
        subst hvv
        go_wp2_with fail
        go_loopw [12] (fun i wr => ∃ k : Nat, k ≤ idxP ⟨a, b⟩ ps ∧ i = .int .i64 (k : Int) ∧ LsW w #[.string a.name, .slice aa a.args.length ca] #[.string b.name, .slice ab b.args.length cb] wr) (fun i wr => cs.length - (intOf i).toNat)
        case atStart => exact ⟨0, Nat.zero_le _, rfl, W4.out⟩
        case round =>
          obtain ⟨k, hk, rfl, hin⟩ := hrel
          have SET := hide hin
          have HK := hide hk
          have hkl : k ≤ cs.length := Nat.le_trans hk HIL.out
          clear hin hk
          have kd : Below wr.heap.size wr wr.drew := (Below.refl _ _).drew
          by_cases hlt : k < cs.length
          · have hltp : k < ps.length := by rw [HPL.out]; exact hlt
            have hqv : QV wr (fun b => Y b ∨ N ≤ b) (.slice ah cs.length ch) ps := by have h := HQV.out.later SET.out.bl; exact h
            obtain ⟨bh, oh, p1, q1, p2, q2, rfl, x0, x1, x2, x3, hl1, hl2⟩ := hqv.get k hltp
            have HPK : Hid (ps[k] = (ps[k] : Pr)) := rfl
            obtain ⟨p, hp⟩ : ∃ p, p = ps[k] := ⟨_, rfl⟩
            rw [← hp] at x0 x1 x2 x3 hl1 hl2
            have HP := hide hp
            have HL1 := hide hl1
            have HL2 := hide hl2
            have KP : Hid (∀ w', Below wr.heap.size wr w' → (w'.cell? ⟨bh, oh + k * 4, none⟩ = some (.string p.l.name) ∧ w'.cell? ⟨bh, oh + k * 4 + 1, none⟩ = some (.slice p1 p.l.args.length q1) ∧ w'.cell? ⟨bh, oh + k * 4 + 2, none⟩ = some (.string p.r.name) ∧ w'.cell? ⟨bh, oh + k * 4 + 3, none⟩ = some (.slice p2 p.r.args.length q2)) ∧ (w'.cell? ⟨w.heap.size, 0, none⟩ = some (.string a.name) ∧ w'.cell? ⟨w.heap.size, 1, none⟩ = some (.slice aa a.args.length ca)) ∧ w'.cell? ⟨w.heap.size + 1, 0, none⟩ = some (.string b.name) ∧ w'.cell? ⟨w.heap.size + 1, 1, none⟩ = some (.slice ab b.args.length cb)) := fun w' hb =>
              ⟨⟨cell_later hb x0, cell_later hb x1, cell_later hb x2, cell_later hb x3⟩, ⟨(SET.out.later hb).ka.cell 0, (SET.out.later hb).ka.cell 1⟩, (SET.out.later hb).kb.cell 0, (SET.out.later hb).kb.cell 1⟩
            have S1 : Hid (∀ w', Below wr.heap.size wr w' → Calls Tryd.prog 26 #[.agg #[.string p.l.name, .slice p1 p.l.args.length q1], .agg #[.string a.name, .slice aa a.args.length ca]] w' fun e w'' => e = .returned (.bool (sameB p.l a)) ∧ Below w'.heap.size w' w'') := fun w' hb => sameR_all p.l a _ _ w' _ Y ⟨_, _, rfl, HL1.out.later hb⟩ ⟨_, _, rfl, (HSA.out.later SET.out.bl).later hb⟩
            have S2 : Hid (∀ w', Below wr.heap.size wr w' → Calls Tryd.prog 26 #[.agg #[.string p.r.name, .slice p2 p.r.args.length q2], .agg #[.string b.name, .slice ab b.args.length cb]] w' fun e w'' => e = .returned (.bool (sameB p.r b)) ∧ Below w'.heap.size w' w'') := fun w' hb => sameR_all p.r b _ _ w' _ Y ⟨_, _, rfl, HL2.out.later hb⟩ ⟨_, _, rfl, (HSB.out.later SET.out.bl).later hb⟩
            have hlt2 : (k : Int) < (cs.length : Int) := by omega
            clear x0 x1 x2 x3 hl1 hl2 hp hqv
            cases h1 : sameB p.l a with
            | false =>
              have HK1 : Hid (k + 1 ≤ idxP ⟨a, b⟩ ps) := by
                rcases Nat.lt_or_ge k (idxP ⟨a, b⟩ ps) with h | h
                · exact h
                · exfalso
                  have e : k = idxP ⟨a, b⟩ ps := Nat.le_antisymm HK.out h
                  subst e
                  have e2 := idxP_at HOKP.out (by rw [HPS.out]; exact HOK.out) hltp
                  rw [← HP.out] at e2
                  rw [e2, sameB_iff.2 rfl] at h1; cases h1
              have HS1 := hide h1
              clear h1 S2
              go_upto_region 11 with fail
              refine wp_region_held_drew (S := Below wr.heap.size wr) (by kernel_rfl) kd (fun hHeld => ?_)
              refine wpAnyH_take (i := 0) (v := ?_) rfl (by kernel_rfl) (by kernel_rfl) (by kernel_rfl) (fun _ _ _ h => h) (Or.inl ⟨by rfl, ?_⟩) (by assumption) ?_
              rotate_left
              · intro w' hSw
                go_simp <;> with_reducible rfl
              try simp only [Act.put, List.setIfInBounds_toArray, List.set_cons_zero, List.set_cons_succ, List.getElem_toArray, List.getElem_cons_succ, List.getElem_cons_zero]
              refine wpAnyH_take (i := 1) (v := ?_) rfl (by kernel_rfl) (by kernel_rfl) (by kernel_rfl) (fun _ _ _ h => h) (Or.inl ⟨by rfl, ?_⟩) (by assumption) ?_
              rotate_left
              · intro w' hSw
                go_simp <;> with_reducible rfl
              try simp only [Act.put, List.setIfInBounds_toArray, List.set_cons_zero, List.set_cons_succ, List.getElem_toArray, List.getElem_cons_succ, List.getElem_cons_zero]
              refine wpAnyH_take (i := 2) (v := ?_) rfl (by kernel_rfl) (by kernel_rfl) (by kernel_rfl) (fun _ _ _ h => h) (Or.inl ⟨by rfl, ?_⟩) (by assumption) ?_
              rotate_left
              · intro w' hSw
                go_simp <;> with_reducible rfl
              try simp only [Act.put, List.setIfInBounds_toArray, List.set_cons_zero, List.set_cons_succ, List.getElem_toArray, List.getElem_cons_succ, List.getElem_cons_zero]
              refine wpAnyH_take (i := 3) (v := ?_) rfl (by kernel_rfl) (by kernel_rfl) (by kernel_rfl) (fun _ _ _ h => h) (Or.inl ⟨by rfl, ?_⟩) (by assumption) ?_
              rotate_left
              · intro w' hSw
                go_simp <;> with_reducible rfl
              try simp only [Act.put, List.setIfInBounds_toArray, List.set_cons_zero, List.set_cons_succ, List.getElem_toArray, List.getElem_cons_succ, List.getElem_cons_zero]
              refine wpAnyH_take (i := 4) (v := ?_) rfl (by kernel_rfl) (by kernel_rfl) (by kernel_rfl) (fun _ _ _ h => h) (Or.inl ⟨by rfl, ?_⟩) (by assumption) ?_
              rotate_left
              · intro w' hSw
                go_simp <;> with_reducible rfl
              try simp only [Act.put, List.setIfInBounds_toArray, List.set_cons_zero, List.set_cons_succ, List.getElem_toArray, List.getElem_cons_succ, List.getElem_cons_zero]
              refine wpAnyH_take (i := 5) (v := ?_) rfl (by kernel_rfl) (by kernel_rfl) (by kernel_rfl) (fun _ _ _ h => h) (Or.inl ⟨by rfl, ?_⟩) (by assumption) ?_
              rotate_left
              · intro w' hSw
                go_simp <;> with_reducible rfl
              try simp only [Act.put, List.setIfInBounds_toArray, List.set_cons_zero, List.set_cons_succ, List.getElem_toArray, List.getElem_cons_succ, List.getElem_cons_zero]
              refine wpAnyH_take (i := 6) (v := ?_) rfl (by kernel_rfl) (by kernel_rfl) (by kernel_rfl) (fun _ _ _ h => h) (Or.inl ⟨by rfl, ?_⟩) (by assumption) ?_
              rotate_left
              · intro w' hSw
                go_simp <;> with_reducible rfl
              try simp only [Act.put, List.setIfInBounds_toArray, List.set_cons_zero, List.set_cons_succ, List.getElem_toArray, List.getElem_cons_succ, List.getElem_cons_zero]
              refine wpAnyH_take (i := 7) (v := ?_) rfl (by kernel_rfl) (by kernel_rfl) (by kernel_rfl) (fun _ _ _ h => h) (Or.inl ⟨by rfl, ?_⟩) (by assumption) ?_
              rotate_left
              · intro w' hSw
                go_simp <;> with_reducible rfl
              try simp only [Act.put, List.setIfInBounds_toArray, List.set_cons_zero, List.set_cons_succ, List.getElem_toArray, List.getElem_cons_succ, List.getElem_cons_zero]
              refine wpAnyH_take (i := 8) (v := ?_) rfl (by kernel_rfl) (by kernel_rfl) (by kernel_rfl) (fun _ _ _ h => h) (Or.inl ⟨by rfl, ?_⟩) (by assumption) ?_
              rotate_left
              · intro w' hSw
                go_simp <;> with_reducible rfl
              try simp only [Act.put, List.setIfInBounds_toArray, List.set_cons_zero, List.set_cons_succ, List.getElem_toArray, List.getElem_cons_succ, List.getElem_cons_zero]
              refine wpAnyH_take (i := 9) (v := ?_) rfl (by kernel_rfl) (by kernel_rfl) (by kernel_rfl) (fun _ _ _ h => h) (Or.inl ⟨by rfl, ?_⟩) (by assumption) ?_
              rotate_left
              · intro w' hSw
                obtain ⟨⟨x0, x1, x2, x3⟩, ⟨y0, y1⟩, z0, z1⟩ := KP.out w' hSw
                go_simp <;> with_reducible rfl
              try simp only [Act.put, List.setIfInBounds_toArray, List.set_cons_zero, List.set_cons_succ, List.getElem_toArray, List.getElem_cons_succ, List.getElem_cons_zero]
              refine wpAnyH_take (i := 10) (v := ?_) rfl (by kernel_rfl) (by kernel_rfl) (by kernel_rfl) (fun _ _ _ h => h) (Or.inl ⟨by rfl, ?_⟩) (by assumption) ?_
              rotate_left
              · intro w' hSw
                obtain ⟨⟨x0, x1, x2, x3⟩, ⟨y0, y1⟩, z0, z1⟩ := KP.out w' hSw
                go_simp <;> with_reducible rfl
              try simp only [Act.put, List.setIfInBounds_toArray, List.set_cons_zero, List.set_cons_succ, List.getElem_toArray, List.getElem_cons_succ, List.getElem_cons_zero]
              refine wpAnyH_ready (rs := [11]) (by kernel_rfl) (by simp) ?_
              refine AllReadyH.cons rfl (fun K hK => ?_) AllReadyH.nil
              go_simp
              go_at_call 26
              refine (S1.out _ kd).mono ?_
              rintro e w5 ⟨rfl, hb5⟩
              have k5 : Below wr.heap.size wr w5 := kd.trans (hb5.mono kd.size)
              rw [HS1.out]
              clear hb5
              go_simp
              refine hK.out _ _ (by exact k5) (fun hHeld => ?_)
              clear hK K
              try simp only [Act.put, List.setIfInBounds_toArray, List.set_cons_zero, List.set_cons_succ, List.getElem_toArray, List.getElem_cons_succ, List.getElem_cons_zero]
              refine wpAnyH_take (i := 12) (v := ?_) rfl (by kernel_rfl) (by kernel_rfl) (by kernel_rfl) (fun _ _ _ h => h) (Or.inl ⟨by rfl, ?_⟩) (by assumption) ?_
              rotate_left
              · intro w' hSw
                go_simp <;> with_reducible rfl
              try simp only [Act.put, List.setIfInBounds_toArray, List.set_cons_zero, List.set_cons_succ, List.getElem_toArray, List.getElem_cons_succ, List.getElem_cons_zero]
              refine wpAnyH_take (i := 13) (v := undef) rfl (by kernel_rfl) (by kernel_rfl) (by kernel_rfl) (fun _ _ _ h => h) (Or.inr ⟨by rfl, rfl⟩) (by assumption) ?_
              try simp only [Act.put, List.setIfInBounds_toArray, List.set_cons_zero, List.set_cons_succ, List.getElem_toArray, List.getElem_cons_succ, List.getElem_cons_zero]
              refine wpAnyH_take (i := 14) (v := undef) rfl (by kernel_rfl) (by kernel_rfl) (by kernel_rfl) (fun _ _ _ h => h) (Or.inr ⟨by rfl, rfl⟩) (by assumption) ?_
              try simp only [Act.put, List.setIfInBounds_toArray, List.set_cons_zero, List.set_cons_succ, List.getElem_toArray, List.getElem_cons_succ, List.getElem_cons_zero]
              refine wpAnyH_take (i := 15) (v := undef) rfl (by kernel_rfl) (by kernel_rfl) (by kernel_rfl) (fun _ _ _ h => h) (Or.inr ⟨by rfl, rfl⟩) (by assumption) ?_
              try simp only [Act.put, List.setIfInBounds_toArray, List.set_cons_zero, List.set_cons_succ, List.getElem_toArray, List.getElem_cons_succ, List.getElem_cons_zero]
              refine wpAnyH_take (i := 16) (v := undef) rfl (by kernel_rfl) (by kernel_rfl) (by kernel_rfl) (fun _ _ _ h => h) (Or.inr ⟨by rfl, rfl⟩) (by assumption) ?_
              try simp only [Act.put, List.setIfInBounds_toArray, List.set_cons_zero, List.set_cons_succ, List.getElem_toArray, List.getElem_cons_succ, List.getElem_cons_zero]
              refine wpAnyH_take (i := 17) (v := undef) rfl (by kernel_rfl) (by kernel_rfl) (by kernel_rfl) (fun _ _ _ h => h) (Or.inr ⟨by rfl, rfl⟩) (by assumption) ?_
              try simp only [Act.put, List.setIfInBounds_toArray, List.set_cons_zero, List.set_cons_succ, List.getElem_toArray, List.getElem_cons_succ, List.getElem_cons_zero]
              refine wpAnyH_take (i := 18) (v := undef) rfl (by kernel_rfl) (by kernel_rfl) (by kernel_rfl) (fun _ _ _ h => h) (Or.inr ⟨by rfl, rfl⟩) (by assumption) ?_
              try simp only [Act.put, List.setIfInBounds_toArray, List.set_cons_zero, List.set_cons_succ, List.getElem_toArray, List.getElem_cons_succ, List.getElem_cons_zero]
              refine wpAnyH_take (i := 19) (v := undef) rfl (by kernel_rfl) (by kernel_rfl) (by kernel_rfl) (fun _ _ _ h => h) (Or.inr ⟨by rfl, rfl⟩) (by assumption) ?_
              try simp only [Act.put, List.setIfInBounds_toArray, List.set_cons_zero, List.set_cons_succ, List.getElem_toArray, List.getElem_cons_succ, List.getElem_cons_zero]
              refine wpAnyH_take (i := 20) (v := ?_) rfl (by kernel_rfl) (by kernel_rfl) (by kernel_rfl) (fun _ _ _ h => h) (Or.inl ⟨by rfl, ?_⟩) (by assumption) ?_
              rotate_left
              · intro w' hSw
                go_simp <;> with_reducible rfl
              try simp only [Act.put, List.setIfInBounds_toArray, List.set_cons_zero, List.set_cons_succ, List.getElem_toArray, List.getElem_cons_succ, List.getElem_cons_zero]
              refine wpAnyH_take (i := 21) (v := ?_) rfl (by kernel_rfl) (by kernel_rfl) (by kernel_rfl) (fun _ _ _ h => h) (Or.inl ⟨by rfl, ?_⟩) (by assumption) ?_
              rotate_left
              · intro w' hSw
                go_simp <;> with_reducible rfl
              try simp only [Act.put, List.setIfInBounds_toArray, List.set_cons_zero, List.set_cons_succ, List.getElem_toArray, List.getElem_cons_succ, List.getElem_cons_zero]
              refine wpAnyH_take (i := 22) (v := ?_) rfl (by kernel_rfl) (by kernel_rfl) (by kernel_rfl) (fun _ _ _ h => h) (Or.inl ⟨by rfl, ?_⟩) (by assumption) ?_
              rotate_left
              · intro w' hSw
                go_simp <;> with_reducible rfl
              try simp only [Act.put, List.setIfInBounds_toArray, List.set_cons_zero, List.set_cons_succ, List.getElem_toArray, List.getElem_cons_succ, List.getElem_cons_zero]
              refine wpAnyH_done (by kernel_rfl) ?_ _
              go_wp2_with fail
              go_roundw
              case rel => exact ⟨k + 1, HK1.out, by go_num, SET.out.later k5⟩
              case measure => simp [intOf]; omega
            | true =>
              cases h2 : sameB p.r b with
              | false =>
                have HK1 : Hid (k + 1 ≤ idxP ⟨a, b⟩ ps) := by
                  rcases Nat.lt_or_ge k (idxP ⟨a, b⟩ ps) with h | h
                  · exact h
                  · exfalso
                    have e : k = idxP ⟨a, b⟩ ps := Nat.le_antisymm HK.out h
                    subst e
                    have e2 := idxP_at HOKP.out (by rw [HPS.out]; exact HOK.out) hltp
                    rw [← HP.out] at e2
                    rw [e2, sameB_iff.2 rfl] at h2; cases h2
                have HS1 := hide h1
                have HS2 := hide h2
                clear h1 h2
                go_upto_region 11 with fail
                refine wp_region_held_drew (S := Below wr.heap.size wr) (by kernel_rfl) kd (fun hHeld => ?_)
                refine wpAnyH_take (i := 0) (v := ?_) rfl (by kernel_rfl) (by kernel_rfl) (by kernel_rfl) (fun _ _ _ h => h) (Or.inl ⟨by rfl, ?_⟩) (by assumption) ?_
                rotate_left
                · intro w' hSw
                  go_simp <;> with_reducible rfl
                try simp only [Act.put, List.setIfInBounds_toArray, List.set_cons_zero, List.set_cons_succ, List.getElem_toArray, List.getElem_cons_succ, List.getElem_cons_zero]
                refine wpAnyH_take (i := 1) (v := ?_) rfl (by kernel_rfl) (by kernel_rfl) (by kernel_rfl) (fun _ _ _ h => h) (Or.inl ⟨by rfl, ?_⟩) (by assumption) ?_
                rotate_left
                · intro w' hSw
                  go_simp <;> with_reducible rfl
                try simp only [Act.put, List.setIfInBounds_toArray, List.set_cons_zero, List.set_cons_succ, List.getElem_toArray, List.getElem_cons_succ, List.getElem_cons_zero]
                refine wpAnyH_take (i := 2) (v := ?_) rfl (by kernel_rfl) (by kernel_rfl) (by kernel_rfl) (fun _ _ _ h => h) (Or.inl ⟨by rfl, ?_⟩) (by assumption) ?_
                rotate_left
                · intro w' hSw
                  go_simp <;> with_reducible rfl
                try simp only [Act.put, List.setIfInBounds_toArray, List.set_cons_zero, List.set_cons_succ, List.getElem_toArray, List.getElem_cons_succ, List.getElem_cons_zero]
                refine wpAnyH_take (i := 3) (v := ?_) rfl (by kernel_rfl) (by kernel_rfl) (by kernel_rfl) (fun _ _ _ h => h) (Or.inl ⟨by rfl, ?_⟩) (by assumption) ?_
                rotate_left
                · intro w' hSw
                  go_simp <;> with_reducible rfl
                try simp only [Act.put, List.setIfInBounds_toArray, List.set_cons_zero, List.set_cons_succ, List.getElem_toArray, List.getElem_cons_succ, List.getElem_cons_zero]
                refine wpAnyH_take (i := 4) (v := ?_) rfl (by kernel_rfl) (by kernel_rfl) (by kernel_rfl) (fun _ _ _ h => h) (Or.inl ⟨by rfl, ?_⟩) (by assumption) ?_
                rotate_left
                · intro w' hSw
                  go_simp <;> with_reducible rfl
                try simp only [Act.put, List.setIfInBounds_toArray, List.set_cons_zero, List.set_cons_succ, List.getElem_toArray, List.getElem_cons_succ, List.getElem_cons_zero]
                refine wpAnyH_take (i := 5) (v := ?_) rfl (by kernel_rfl) (by kernel_rfl) (by kernel_rfl) (fun _ _ _ h => h) (Or.inl ⟨by rfl, ?_⟩) (by assumption) ?_
                rotate_left
                · intro w' hSw
                  go_simp <;> with_reducible rfl
                try simp only [Act.put, List.setIfInBounds_toArray, List.set_cons_zero, List.set_cons_succ, List.getElem_toArray, List.getElem_cons_succ, List.getElem_cons_zero]
                refine wpAnyH_take (i := 6) (v := ?_) rfl (by kernel_rfl) (by kernel_rfl) (by kernel_rfl) (fun _ _ _ h => h) (Or.inl ⟨by rfl, ?_⟩) (by assumption) ?_
                rotate_left
                · intro w' hSw
                  go_simp <;> with_reducible rfl
                try simp only [Act.put, List.setIfInBounds_toArray, List.set_cons_zero, List.set_cons_succ, List.getElem_toArray, List.getElem_cons_succ, List.getElem_cons_zero]
                refine wpAnyH_take (i := 7) (v := ?_) rfl (by kernel_rfl) (by kernel_rfl) (by kernel_rfl) (fun _ _ _ h => h) (Or.inl ⟨by rfl, ?_⟩) (by assumption) ?_
                rotate_left
                · intro w' hSw
                  go_simp <;> with_reducible rfl
                try simp only [Act.put, List.setIfInBounds_toArray, List.set_cons_zero, List.set_cons_succ, List.getElem_toArray, List.getElem_cons_succ, List.getElem_cons_zero]
                refine wpAnyH_take (i := 8) (v := ?_) rfl (by kernel_rfl) (by kernel_rfl) (by kernel_rfl) (fun _ _ _ h => h) (Or.inl ⟨by rfl, ?_⟩) (by assumption) ?_
                rotate_left
                · intro w' hSw
                  go_simp <;> with_reducible rfl
                try simp only [Act.put, List.setIfInBounds_toArray, List.set_cons_zero, List.set_cons_succ, List.getElem_toArray, List.getElem_cons_succ, List.getElem_cons_zero]
                refine wpAnyH_take (i := 9) (v := ?_) rfl (by kernel_rfl) (by kernel_rfl) (by kernel_rfl) (fun _ _ _ h => h) (Or.inl ⟨by rfl, ?_⟩) (by assumption) ?_
                rotate_left
                · intro w' hSw
                  obtain ⟨⟨x0, x1, x2, x3⟩, ⟨y0, y1⟩, z0, z1⟩ := KP.out w' hSw
                  go_simp <;> with_reducible rfl
                try simp only [Act.put, List.setIfInBounds_toArray, List.set_cons_zero, List.set_cons_succ, List.getElem_toArray, List.getElem_cons_succ, List.getElem_cons_zero]
                refine wpAnyH_take (i := 10) (v := ?_) rfl (by kernel_rfl) (by kernel_rfl) (by kernel_rfl) (fun _ _ _ h => h) (Or.inl ⟨by rfl, ?_⟩) (by assumption) ?_
                rotate_left
                · intro w' hSw
                  obtain ⟨⟨x0, x1, x2, x3⟩, ⟨y0, y1⟩, z0, z1⟩ := KP.out w' hSw
                  go_simp <;> with_reducible rfl
                try simp only [Act.put, List.setIfInBounds_toArray, List.set_cons_zero, List.set_cons_succ, List.getElem_toArray, List.getElem_cons_succ, List.getElem_cons_zero]
                refine wpAnyH_ready (rs := [11]) (by kernel_rfl) (by simp) ?_
                refine AllReadyH.cons rfl (fun K hK => ?_) AllReadyH.nil
                go_simp
                go_at_call 26
                refine (S1.out _ kd).mono ?_
                rintro e w5 ⟨rfl, hb5⟩
                have k5 : Below wr.heap.size wr w5 := kd.trans (hb5.mono kd.size)
                rw [HS1.out]
                clear hb5
                go_simp
                refine hK.out _ _ (by exact k5) (fun hHeld => ?_)
                clear hK K
                try simp only [Act.put, List.setIfInBounds_toArray, List.set_cons_zero, List.set_cons_succ, List.getElem_toArray, List.getElem_cons_succ, List.getElem_cons_zero]
                refine wpAnyH_take (i := 12) (v := ?_) rfl (by kernel_rfl) (by kernel_rfl) (by kernel_rfl) (fun _ _ _ h => h) (Or.inl ⟨by rfl, ?_⟩) (by assumption) ?_
                rotate_left
                · intro w' hSw
                  go_simp <;> with_reducible rfl
                try simp only [Act.put, List.setIfInBounds_toArray, List.set_cons_zero, List.set_cons_succ, List.getElem_toArray, List.getElem_cons_succ, List.getElem_cons_zero]
                refine wpAnyH_take (i := 13) (v := ?_) rfl (by kernel_rfl) (by kernel_rfl) (by kernel_rfl) (fun _ _ _ h => h) (Or.inl ⟨by rfl, ?_⟩) (by assumption) ?_
                rotate_left
                · intro w' hSw
                  go_simp <;> with_reducible rfl
                try simp only [Act.put, List.setIfInBounds_toArray, List.set_cons_zero, List.set_cons_succ, List.getElem_toArray, List.getElem_cons_succ, List.getElem_cons_zero]
                refine wpAnyH_take (i := 14) (v := ?_) rfl (by kernel_rfl) (by kernel_rfl) (by kernel_rfl) (fun _ _ _ h => h) (Or.inl ⟨by rfl, ?_⟩) (by assumption) ?_
                rotate_left
                · intro w' hSw
                  go_simp <;> with_reducible rfl
                try simp only [Act.put, List.setIfInBounds_toArray, List.set_cons_zero, List.set_cons_succ, List.getElem_toArray, List.getElem_cons_succ, List.getElem_cons_zero]
                refine wpAnyH_take (i := 15) (v := ?_) rfl (by kernel_rfl) (by kernel_rfl) (by kernel_rfl) (fun _ _ _ h => h) (Or.inl ⟨by rfl, ?_⟩) (by assumption) ?_
                rotate_left
                · intro w' hSw
                  go_simp <;> with_reducible rfl
                try simp only [Act.put, List.setIfInBounds_toArray, List.set_cons_zero, List.set_cons_succ, List.getElem_toArray, List.getElem_cons_succ, List.getElem_cons_zero]
                refine wpAnyH_take (i := 16) (v := ?_) rfl (by kernel_rfl) (by kernel_rfl) (by kernel_rfl) (fun _ _ _ h => h) (Or.inl ⟨by rfl, ?_⟩) (by assumption) ?_
                rotate_left
                · intro w' hSw
                  go_simp <;> with_reducible rfl
                try simp only [Act.put, List.setIfInBounds_toArray, List.set_cons_zero, List.set_cons_succ, List.getElem_toArray, List.getElem_cons_succ, List.getElem_cons_zero]
                refine wpAnyH_take (i := 17) (v := ?_) rfl (by kernel_rfl) (by kernel_rfl) (by kernel_rfl) (fun _ _ _ h => h) (Or.inl ⟨by rfl, ?_⟩) (by assumption) ?_
                rotate_left
                · intro w' hSw
                  obtain ⟨⟨x0, x1, x2, x3⟩, ⟨y0, y1⟩, z0, z1⟩ := KP.out w' hSw
                  go_simp <;> with_reducible rfl
                try simp only [Act.put, List.setIfInBounds_toArray, List.set_cons_zero, List.set_cons_succ, List.getElem_toArray, List.getElem_cons_succ, List.getElem_cons_zero]
                refine wpAnyH_take (i := 18) (v := ?_) rfl (by kernel_rfl) (by kernel_rfl) (by kernel_rfl) (fun _ _ _ h => h) (Or.inl ⟨by rfl, ?_⟩) (by assumption) ?_
                rotate_left
                · intro w' hSw
                  obtain ⟨⟨x0, x1, x2, x3⟩, ⟨y0, y1⟩, z0, z1⟩ := KP.out w' hSw
                  go_simp <;> with_reducible rfl
                try simp only [Act.put, List.setIfInBounds_toArray, List.set_cons_zero, List.set_cons_succ, List.getElem_toArray, List.getElem_cons_succ, List.getElem_cons_zero]
                refine wpAnyH_ready (rs := [19]) (by kernel_rfl) (by simp) ?_
                refine AllReadyH.cons rfl (fun K hK => ?_) AllReadyH.nil
                go_simp
                go_at_call 26
                refine (S2.out _ k5).mono ?_
                rintro e w6 ⟨rfl, hb6⟩
                have k6 : Below wr.heap.size wr w6 := k5.trans (hb6.mono k5.size)
                rw [HS2.out]
                clear hb6
                go_simp
                refine hK.out _ _ (by exact k6) (fun hHeld => ?_)
                clear hK K
                try simp only [Act.put, List.setIfInBounds_toArray, List.set_cons_zero, List.set_cons_succ, List.getElem_toArray, List.getElem_cons_succ, List.getElem_cons_zero]
                refine wpAnyH_take (i := 20) (v := ?_) rfl (by kernel_rfl) (by kernel_rfl) (by kernel_rfl) (fun _ _ _ h => h) (Or.inl ⟨by rfl, ?_⟩) (by assumption) ?_
                rotate_left
                · intro w' hSw
                  go_simp <;> with_reducible rfl
                try simp only [Act.put, List.setIfInBounds_toArray, List.set_cons_zero, List.set_cons_succ, List.getElem_toArray, List.getElem_cons_succ, List.getElem_cons_zero]
                refine wpAnyH_take (i := 21) (v := ?_) rfl (by kernel_rfl) (by kernel_rfl) (by kernel_rfl) (fun _ _ _ h => h) (Or.inl ⟨by rfl, ?_⟩) (by assumption) ?_
                rotate_left
                · intro w' hSw
                  go_simp <;> with_reducible rfl
                try simp only [Act.put, List.setIfInBounds_toArray, List.set_cons_zero, List.set_cons_succ, List.getElem_toArray, List.getElem_cons_succ, List.getElem_cons_zero]
                refine wpAnyH_take (i := 22) (v := ?_) rfl (by kernel_rfl) (by kernel_rfl) (by kernel_rfl) (fun _ _ _ h => h) (Or.inl ⟨by rfl, ?_⟩) (by assumption) ?_
                rotate_left
                · intro w' hSw
                  go_simp <;> with_reducible rfl
                try simp only [Act.put, List.setIfInBounds_toArray, List.set_cons_zero, List.set_cons_succ, List.getElem_toArray, List.getElem_cons_succ, List.getElem_cons_zero]
                refine wpAnyH_done (by kernel_rfl) ?_ _
                go_wp2_with fail
                go_roundw
                case rel => exact ⟨k + 1, HK1.out, by go_num, SET.out.later k6⟩
                case measure => simp [intOf]; omega
              | true =>
                have HID : Hid (idxP ⟨a, b⟩ ps = k) := by
                  rcases Nat.lt_or_ge k (idxP ⟨a, b⟩ ps) with h | h
                  · exfalso
                    refine idxP_first hltp h ?_
                    rw [← HP.out]
                    obtain ⟨pl, pr⟩ := p
                    have e1 : pl = a := sameB_iff.1 h1
                    have e2 : pr = b := sameB_iff.1 h2
                    rw [e1, e2]
                  · exact Nat.le_antisymm h HK.out
                have HS1 := hide h1
                have HS2 := hide h2
                clear h1 h2
                go_upto_region 11 with fail
                refine wp_region_held_drew (S := Below wr.heap.size wr) (by kernel_rfl) kd (fun hHeld => ?_)
                refine wpAnyH_take (i := 0) (v := ?_) rfl (by kernel_rfl) (by kernel_rfl) (by kernel_rfl) (fun _ _ _ h => h) (Or.inl ⟨by rfl, ?_⟩) (by assumption) ?_
                rotate_left
                · intro w' hSw
                  go_simp <;> with_reducible rfl
                try simp only [Act.put, List.setIfInBounds_toArray, List.set_cons_zero, List.set_cons_succ, List.getElem_toArray, List.getElem_cons_succ, List.getElem_cons_zero]
                refine wpAnyH_take (i := 1) (v := ?_) rfl (by kernel_rfl) (by kernel_rfl) (by kernel_rfl) (fun _ _ _ h => h) (Or.inl ⟨by rfl, ?_⟩) (by assumption) ?_
                rotate_left
                · intro w' hSw
                  go_simp <;> with_reducible rfl
                try simp only [Act.put, List.setIfInBounds_toArray, List.set_cons_zero, List.set_cons_succ, List.getElem_toArray, List.getElem_cons_succ, List.getElem_cons_zero]
                refine wpAnyH_take (i := 2) (v := ?_) rfl (by kernel_rfl) (by kernel_rfl) (by kernel_rfl) (fun _ _ _ h => h) (Or.inl ⟨by rfl, ?_⟩) (by assumption) ?_
                rotate_left
                · intro w' hSw
                  go_simp <;> with_reducible rfl
                try simp only [Act.put, List.setIfInBounds_toArray, List.set_cons_zero, List.set_cons_succ, List.getElem_toArray, List.getElem_cons_succ, List.getElem_cons_zero]
                refine wpAnyH_take (i := 3) (v := ?_) rfl (by kernel_rfl) (by kernel_rfl) (by kernel_rfl) (fun _ _ _ h => h) (Or.inl ⟨by rfl, ?_⟩) (by assumption) ?_
                rotate_left
                · intro w' hSw
                  go_simp <;> with_reducible rfl
                try simp only [Act.put, List.setIfInBounds_toArray, List.set_cons_zero, List.set_cons_succ, List.getElem_toArray, List.getElem_cons_succ, List.getElem_cons_zero]
                refine wpAnyH_take (i := 4) (v := ?_) rfl (by kernel_rfl) (by kernel_rfl) (by kernel_rfl) (fun _ _ _ h => h) (Or.inl ⟨by rfl, ?_⟩) (by assumption) ?_
                rotate_left
                · intro w' hSw
                  go_simp <;> with_reducible rfl
                try simp only [Act.put, List.setIfInBounds_toArray, List.set_cons_zero, List.set_cons_succ, List.getElem_toArray, List.getElem_cons_succ, List.getElem_cons_zero]
                refine wpAnyH_take (i := 5) (v := ?_) rfl (by kernel_rfl) (by kernel_rfl) (by kernel_rfl) (fun _ _ _ h => h) (Or.inl ⟨by rfl, ?_⟩) (by assumption) ?_
                rotate_left
                · intro w' hSw
                  go_simp <;> with_reducible rfl
                try simp only [Act.put, List.setIfInBounds_toArray, List.set_cons_zero, List.set_cons_succ, List.getElem_toArray, List.getElem_cons_succ, List.getElem_cons_zero]
                refine wpAnyH_take (i := 6) (v := ?_) rfl (by kernel_rfl) (by kernel_rfl) (by kernel_rfl) (fun _ _ _ h => h) (Or.inl ⟨by rfl, ?_⟩) (by assumption) ?_
                rotate_left
                · intro w' hSw
                  go_simp <;> with_reducible rfl
                try simp only [Act.put, List.setIfInBounds_toArray, List.set_cons_zero, List.set_cons_succ, List.getElem_toArray, List.getElem_cons_succ, List.getElem_cons_zero]
                refine wpAnyH_take (i := 7) (v := ?_) rfl (by kernel_rfl) (by kernel_rfl) (by kernel_rfl) (fun _ _ _ h => h) (Or.inl ⟨by rfl, ?_⟩) (by assumption) ?_
                rotate_left
                · intro w' hSw
                  go_simp <;> with_reducible rfl
                try simp only [Act.put, List.setIfInBounds_toArray, List.set_cons_zero, List.set_cons_succ, List.getElem_toArray, List.getElem_cons_succ, List.getElem_cons_zero]
                refine wpAnyH_take (i := 8) (v := ?_) rfl (by kernel_rfl) (by kernel_rfl) (by kernel_rfl) (fun _ _ _ h => h) (Or.inl ⟨by rfl, ?_⟩) (by assumption) ?_
                rotate_left
                · intro w' hSw
                  go_simp <;> with_reducible rfl
                try simp only [Act.put, List.setIfInBounds_toArray, List.set_cons_zero, List.set_cons_succ, List.getElem_toArray, List.getElem_cons_succ, List.getElem_cons_zero]
                refine wpAnyH_take (i := 9) (v := ?_) rfl (by kernel_rfl) (by kernel_rfl) (by kernel_rfl) (fun _ _ _ h => h) (Or.inl ⟨by rfl, ?_⟩) (by assumption) ?_
                rotate_left
                · intro w' hSw
                  obtain ⟨⟨x0, x1, x2, x3⟩, ⟨y0, y1⟩, z0, z1⟩ := KP.out w' hSw
                  go_simp <;> with_reducible rfl
                try simp only [Act.put, List.setIfInBounds_toArray, List.set_cons_zero, List.set_cons_succ, List.getElem_toArray, List.getElem_cons_succ, List.getElem_cons_zero]
                refine wpAnyH_take (i := 10) (v := ?_) rfl (by kernel_rfl) (by kernel_rfl) (by kernel_rfl) (fun _ _ _ h => h) (Or.inl ⟨by rfl, ?_⟩) (by assumption) ?_
                rotate_left
                · intro w' hSw
                  obtain ⟨⟨x0, x1, x2, x3⟩, ⟨y0, y1⟩, z0, z1⟩ := KP.out w' hSw
                  go_simp <;> with_reducible rfl
                try simp only [Act.put, List.setIfInBounds_toArray, List.set_cons_zero, List.set_cons_succ, List.getElem_toArray, List.getElem_cons_succ, List.getElem_cons_zero]
                refine wpAnyH_ready (rs := [11]) (by kernel_rfl) (by simp) ?_
                refine AllReadyH.cons rfl (fun K hK => ?_) AllReadyH.nil
                go_simp
                go_at_call 26
                refine (S1.out _ kd).mono ?_
                rintro e w5 ⟨rfl, hb5⟩
                have k5 : Below wr.heap.size wr w5 := kd.trans (hb5.mono kd.size)
                rw [HS1.out]
                clear hb5
                go_simp
                refine hK.out _ _ (by exact k5) (fun hHeld => ?_)
                clear hK K
                try simp only [Act.put, List.setIfInBounds_toArray, List.set_cons_zero, List.set_cons_succ, List.getElem_toArray, List.getElem_cons_succ, List.getElem_cons_zero]
                refine wpAnyH_take (i := 12) (v := ?_) rfl (by kernel_rfl) (by kernel_rfl) (by kernel_rfl) (fun _ _ _ h => h) (Or.inl ⟨by rfl, ?_⟩) (by assumption) ?_
                rotate_left
                · intro w' hSw
                  go_simp <;> with_reducible rfl
                try simp only [Act.put, List.setIfInBounds_toArray, List.set_cons_zero, List.set_cons_succ, List.getElem_toArray, List.getElem_cons_succ, List.getElem_cons_zero]
                refine wpAnyH_take (i := 13) (v := ?_) rfl (by kernel_rfl) (by kernel_rfl) (by kernel_rfl) (fun _ _ _ h => h) (Or.inl ⟨by rfl, ?_⟩) (by assumption) ?_
                rotate_left
                · intro w' hSw
                  go_simp <;> with_reducible rfl
                try simp only [Act.put, List.setIfInBounds_toArray, List.set_cons_zero, List.set_cons_succ, List.getElem_toArray, List.getElem_cons_succ, List.getElem_cons_zero]
                refine wpAnyH_take (i := 14) (v := ?_) rfl (by kernel_rfl) (by kernel_rfl) (by kernel_rfl) (fun _ _ _ h => h) (Or.inl ⟨by rfl, ?_⟩) (by assumption) ?_
                rotate_left
                · intro w' hSw
                  go_simp <;> with_reducible rfl
                try simp only [Act.put, List.setIfInBounds_toArray, List.set_cons_zero, List.set_cons_succ, List.getElem_toArray, List.getElem_cons_succ, List.getElem_cons_zero]
                refine wpAnyH_take (i := 15) (v := ?_) rfl (by kernel_rfl) (by kernel_rfl) (by kernel_rfl) (fun _ _ _ h => h) (Or.inl ⟨by rfl, ?_⟩) (by assumption) ?_
                rotate_left
                · intro w' hSw
                  go_simp <;> with_reducible rfl
                try simp only [Act.put, List.setIfInBounds_toArray, List.set_cons_zero, List.set_cons_succ, List.getElem_toArray, List.getElem_cons_succ, List.getElem_cons_zero]
                refine wpAnyH_take (i := 16) (v := ?_) rfl (by kernel_rfl) (by kernel_rfl) (by kernel_rfl) (fun _ _ _ h => h) (Or.inl ⟨by rfl, ?_⟩) (by assumption) ?_
                rotate_left
                · intro w' hSw
                  go_simp <;> with_reducible rfl
                try simp only [Act.put, List.setIfInBounds_toArray, List.set_cons_zero, List.set_cons_succ, List.getElem_toArray, List.getElem_cons_succ, List.getElem_cons_zero]
                refine wpAnyH_take (i := 17) (v := ?_) rfl (by kernel_rfl) (by kernel_rfl) (by kernel_rfl) (fun _ _ _ h => h) (Or.inl ⟨by rfl, ?_⟩) (by assumption) ?_
                rotate_left
                · intro w' hSw
                  obtain ⟨⟨x0, x1, x2, x3⟩, ⟨y0, y1⟩, z0, z1⟩ := KP.out w' hSw
                  go_simp <;> with_reducible rfl
                try simp only [Act.put, List.setIfInBounds_toArray, List.set_cons_zero, List.set_cons_succ, List.getElem_toArray, List.getElem_cons_succ, List.getElem_cons_zero]
                refine wpAnyH_take (i := 18) (v := ?_) rfl (by kernel_rfl) (by kernel_rfl) (by kernel_rfl) (fun _ _ _ h => h) (Or.inl ⟨by rfl, ?_⟩) (by assumption) ?_
                rotate_left
                · intro w' hSw
                  obtain ⟨⟨x0, x1, x2, x3⟩, ⟨y0, y1⟩, z0, z1⟩ := KP.out w' hSw
                  go_simp <;> with_reducible rfl
                try simp only [Act.put, List.setIfInBounds_toArray, List.set_cons_zero, List.set_cons_succ, List.getElem_toArray, List.getElem_cons_succ, List.getElem_cons_zero]
                refine wpAnyH_ready (rs := [19]) (by kernel_rfl) (by simp) ?_
                refine AllReadyH.cons rfl (fun K hK => ?_) AllReadyH.nil
                go_simp
                go_at_call 26
                refine (S2.out _ k5).mono ?_
                rintro e w6 ⟨rfl, hb6⟩
                have k6 : Below wr.heap.size wr w6 := k5.trans (hb6.mono k5.size)
                rw [HS2.out]
                clear hb6
                go_simp
                refine hK.out _ _ (by exact k6) (fun hHeld => ?_)
                clear hK K
                try simp only [Act.put, List.setIfInBounds_toArray, List.set_cons_zero, List.set_cons_succ, List.getElem_toArray, List.getElem_cons_succ, List.getElem_cons_zero]
                refine wpAnyH_take (i := 20) (v := ?_) rfl (by kernel_rfl) (by kernel_rfl) (by kernel_rfl) (fun _ _ _ h => h) (Or.inl ⟨by rfl, ?_⟩) (by assumption) ?_
                rotate_left
                · intro w' hSw
                  go_simp <;> with_reducible rfl
                try simp only [Act.put, List.setIfInBounds_toArray, List.set_cons_zero, List.set_cons_succ, List.getElem_toArray, List.getElem_cons_succ, List.getElem_cons_zero]
                refine wpAnyH_take (i := 21) (v := ?_) rfl (by kernel_rfl) (by kernel_rfl) (by kernel_rfl) (fun _ _ _ h => h) (Or.inl ⟨by rfl, ?_⟩) (by assumption) ?_
                rotate_left
                · intro w' hSw
                  go_simp <;> with_reducible rfl
                try simp only [Act.put, List.setIfInBounds_toArray, List.set_cons_zero, List.set_cons_succ, List.getElem_toArray, List.getElem_cons_succ, List.getElem_cons_zero]
                refine wpAnyH_take (i := 22) (v := ?_) rfl (by kernel_rfl) (by kernel_rfl) (by kernel_rfl) (fun _ _ _ h => h) (Or.inl ⟨by rfl, ?_⟩) (by assumption) ?_
                rotate_left
                · intro w' hSw
                  go_simp <;> with_reducible rfl
                try simp only [Act.put, List.setIfInBounds_toArray, List.set_cons_zero, List.set_cons_succ, List.getElem_toArray, List.getElem_cons_succ, List.getElem_cons_zero]
                refine wpAnyH_done (by kernel_rfl) ?_ _
                have W6 := hide (SET.out.later k6)
                have EX := hide (ExQ.ofBelow (Q := fun b => some b = (Value.slice (some ⟨bh, oh, none⟩) cs.length ch).ownBlock) W6.out.bl)
                have KR := hide W6.out.kr
                have LR := hide (HLR.out.below W6.out.bl)
                have hki : ((k : Int) == (cs.length : Int)) = false := by simpa using (by omega : ¬ (k : Int) = (cs.length : Int))
                clear KP S1 S2 kd SET k5 k6
                have hk6 : (k : Int) + 1 = ((k + 1 : Nat) : Int) := by omega
                have HK6 := hide hk6
                clear hk6
                go_wp2_with fail
                rw [HK6.out]
                refine (dec_any (k + 1) (by have := HLH.out; have := HIL.out; omega) _).mono ?_
                rintro e w7 ⟨rfl, hb6⟩
                have X6 := hide (EX.out.trans (ExQ.ofBelow hb6))
                have R6 := hide (KR.out.below hb6 KR.out.lt)
                have L6 := hide (LR.out.below hb6)
                clear hb6
                have hdl3 : 1 + (Lib.decDigits (k + 1)).length ≤ 9223372036854775807 := by have := dec_len (k + 1); have := HLH.out; have := HIL.out; omega
                have hdl2 : ¬ 9223372036854775807 < 1 + (Lib.decDigits (k + 1)).length := by omega
                have r0 : w7.cell? ⟨w.heap.size + 2, 0, none⟩ = some (.string ⟨#[]⟩) := R6.out.cell 0
                have q1 : w7.cell? ⟨w.heap.size + 2, 1, none⟩ = some (.slice none 0 0) := R6.out.cell 1
                have rf := R6.out.frozen
                have hRl : w.heap.size + 2 < w7.heap.size := R6.out.lt
                go_wp2_with fail
                have hcat : (⟨#[90]⟩ : ByteArray) ++ ⟨(Lib.decDigits (k + 1)).toArray⟩ = nmZ (k + 1) := str_catL [90] (Lib.decDigits (k + 1))
                try rw [hcat]
                clear hcat
                refine bodyPost_ret (v := .tuple #[.agg #[.string (nmZ (k + 1)), .slice none 0 0], Value.slice (some ⟨bh, oh, none⟩) cs.length ch]) (by simp [results, Tryd.results21, go_sem, World.cell?_setCell_same, World.cell?_setCell_other, r0, q1, hRl]) rfl ?_
                rw [HGN.out]
                have hne2 : ∀ b, Value.ownBlock (Value.slice (some ⟨bh, oh, none⟩) cs.length ch) = some b → b ≠ w.heap.size + 2 := fun b hb => by have := HHV.out b hb; omega
                refine ⟨none, 0, _, _, by unfold vrP; rw [HID.out]; rfl, ⟨by simp [vrP], Or.inl rfl⟩, (L6.out.exq (Q := fun b => b = w.heap.size + 2) (exq_setA _ _ 0 _) (fun b e => by have := hN; omega) HY.out hne2).exq (Q := fun b => b = w.heap.size + 2) (exq_setA _ _ 1 _) (fun b e => by have := hN; omega) HY.out hne2, by rw [← HPS.out]; unfold vrP addP; rw [if_pos (by rw [HID.out, HPL.out]; exact hlt)], (X6.out.setNew (by omega) _ _).setNew (by omega) _ _, Or.inl rfl⟩
          · have hke : k = cs.length := by omega
            have HID : Hid (idxP ⟨a, b⟩ ps = k) := Nat.le_antisymm (by rw [hke]; exact HIL.out) HK.out
            have hge : ¬ ((k : Int) < (cs.length : Int)) := by omega
            have hki : ((k : Int) == (cs.length : Int)) = true := by simpa using (by omega : (k : Int) = (cs.length : Int))
            have hclen : cs.length ≤ 1000000 := by have := HLH.out; omega
            have WD := hide (SET.out.later kd)
            go_upto_region 11 with fail
            refine wp_region_held_drew (S := Below wr.heap.size wr) (by kernel_rfl) kd (fun hHeld => ?_)
            refine wpAnyH_take (i := 0) (v := ?_) rfl (by kernel_rfl) (by kernel_rfl) (by kernel_rfl) (fun _ _ _ h => h) (Or.inl ⟨by rfl, ?_⟩) (by assumption) ?_
            rotate_left
            · intro w' hSw
              go_simp <;> with_reducible rfl
            try simp only [Act.put, List.setIfInBounds_toArray, List.set_cons_zero, List.set_cons_succ, List.getElem_toArray, List.getElem_cons_succ, List.getElem_cons_zero]
            refine wpAnyH_take (i := 1) (v := ?_) rfl (by kernel_rfl) (by kernel_rfl) (by kernel_rfl) (fun _ _ _ h => h) (Or.inl ⟨by rfl, ?_⟩) (by assumption) ?_
            rotate_left
            · intro w' hSw
              go_simp <;> with_reducible rfl
            try simp only [Act.put, List.setIfInBounds_toArray, List.set_cons_zero, List.set_cons_succ, List.getElem_toArray, List.getElem_cons_succ, List.getElem_cons_zero]
            refine wpAnyH_take (i := 2) (v := ?_) rfl (by kernel_rfl) (by kernel_rfl) (by kernel_rfl) (fun _ _ _ h => h) (Or.inl ⟨by rfl, ?_⟩) (by assumption) ?_
            rotate_left
            · intro w' hSw
              go_simp <;> with_reducible rfl
            try simp only [Act.put, List.setIfInBounds_toArray, List.set_cons_zero, List.set_cons_succ, List.getElem_toArray, List.getElem_cons_succ, List.getElem_cons_zero]
            refine wpAnyH_take (i := 3) (v := ?_) rfl (by kernel_rfl) (by kernel_rfl) (by kernel_rfl) (fun _ _ _ h => h) (Or.inl ⟨by rfl, ?_⟩) (by assumption) ?_
            rotate_left
            · intro w' hSw
              go_simp <;> with_reducible rfl
            try simp only [Act.put, List.setIfInBounds_toArray, List.set_cons_zero, List.set_cons_succ, List.getElem_toArray, List.getElem_cons_succ, List.getElem_cons_zero]
            refine wpAnyH_take (i := 4) (v := ?_) rfl (by kernel_rfl) (by kernel_rfl) (by kernel_rfl) (fun _ _ _ h => h) (Or.inl ⟨by rfl, ?_⟩) (by assumption) ?_
            rotate_left
            · intro w' hSw
              go_simp <;> with_reducible rfl
            try simp only [Act.put, List.setIfInBounds_toArray, List.set_cons_zero, List.set_cons_succ, List.getElem_toArray, List.getElem_cons_succ, List.getElem_cons_zero]
            refine wpAnyH_take (i := 5) (v := undef) rfl (by kernel_rfl) (by kernel_rfl) (by kernel_rfl) (fun _ _ _ h => h) (Or.inr ⟨by rfl, rfl⟩) (by assumption) ?_
            try simp only [Act.put, List.setIfInBounds_toArray, List.set_cons_zero, List.set_cons_succ, List.getElem_toArray, List.getElem_cons_succ, List.getElem_cons_zero]
            refine wpAnyH_take (i := 6) (v := undef) rfl (by kernel_rfl) (by kernel_rfl) (by kernel_rfl) (fun _ _ _ h => h) (Or.inr ⟨by rfl, rfl⟩) (by assumption) ?_
            try simp only [Act.put, List.setIfInBounds_toArray, List.set_cons_zero, List.set_cons_succ, List.getElem_toArray, List.getElem_cons_succ, List.getElem_cons_zero]
            refine wpAnyH_take (i := 7) (v := undef) rfl (by kernel_rfl) (by kernel_rfl) (by kernel_rfl) (fun _ _ _ h => h) (Or.inr ⟨by rfl, rfl⟩) (by assumption) ?_
            try simp only [Act.put, List.setIfInBounds_toArray, List.set_cons_zero, List.set_cons_succ, List.getElem_toArray, List.getElem_cons_succ, List.getElem_cons_zero]
            refine wpAnyH_take (i := 8) (v := undef) rfl (by kernel_rfl) (by kernel_rfl) (by kernel_rfl) (fun _ _ _ h => h) (Or.inr ⟨by rfl, rfl⟩) (by assumption) ?_
            try simp only [Act.put, List.setIfInBounds_toArray, List.set_cons_zero, List.set_cons_succ, List.getElem_toArray, List.getElem_cons_succ, List.getElem_cons_zero]
            refine wpAnyH_take (i := 9) (v := undef) rfl (by kernel_rfl) (by kernel_rfl) (by kernel_rfl) (fun _ _ _ h => h) (Or.inr ⟨by rfl, rfl⟩) (by assumption) ?_
            try simp only [Act.put, List.setIfInBounds_toArray, List.set_cons_zero, List.set_cons_succ, List.getElem_toArray, List.getElem_cons_succ, List.getElem_cons_zero]
            refine wpAnyH_take (i := 10) (v := undef) rfl (by kernel_rfl) (by kernel_rfl) (by kernel_rfl) (fun _ _ _ h => h) (Or.inr ⟨by rfl, rfl⟩) (by assumption) ?_
            try simp only [Act.put, List.setIfInBounds_toArray, List.set_cons_zero, List.set_cons_succ, List.getElem_toArray, List.getElem_cons_succ, List.getElem_cons_zero]
            refine wpAnyH_take (i := 11) (v := undef) rfl (by kernel_rfl) (by kernel_rfl) (by kernel_rfl) (fun _ _ _ h => h) (Or.inr ⟨by rfl, rfl⟩) (by assumption) ?_
            try simp only [Act.put, List.setIfInBounds_toArray, List.set_cons_zero, List.set_cons_succ, List.getElem_toArray, List.getElem_cons_succ, List.getElem_cons_zero]
            refine wpAnyH_take (i := 12) (v := undef) rfl (by kernel_rfl) (by kernel_rfl) (by kernel_rfl) (fun _ _ _ h => h) (Or.inr ⟨by rfl, rfl⟩) (by assumption) ?_
            try simp only [Act.put, List.setIfInBounds_toArray, List.set_cons_zero, List.set_cons_succ, List.getElem_toArray, List.getElem_cons_succ, List.getElem_cons_zero]
            refine wpAnyH_take (i := 13) (v := undef) rfl (by kernel_rfl) (by kernel_rfl) (by kernel_rfl) (fun _ _ _ h => h) (Or.inr ⟨by rfl, rfl⟩) (by assumption) ?_
            try simp only [Act.put, List.setIfInBounds_toArray, List.set_cons_zero, List.set_cons_succ, List.getElem_toArray, List.getElem_cons_succ, List.getElem_cons_zero]
            refine wpAnyH_take (i := 14) (v := undef) rfl (by kernel_rfl) (by kernel_rfl) (by kernel_rfl) (fun _ _ _ h => h) (Or.inr ⟨by rfl, rfl⟩) (by assumption) ?_
            try simp only [Act.put, List.setIfInBounds_toArray, List.set_cons_zero, List.set_cons_succ, List.getElem_toArray, List.getElem_cons_succ, List.getElem_cons_zero]
            refine wpAnyH_take (i := 15) (v := undef) rfl (by kernel_rfl) (by kernel_rfl) (by kernel_rfl) (fun _ _ _ h => h) (Or.inr ⟨by rfl, rfl⟩) (by assumption) ?_
            try simp only [Act.put, List.setIfInBounds_toArray, List.set_cons_zero, List.set_cons_succ, List.getElem_toArray, List.getElem_cons_succ, List.getElem_cons_zero]
            refine wpAnyH_take (i := 16) (v := undef) rfl (by kernel_rfl) (by kernel_rfl) (by kernel_rfl) (fun _ _ _ h => h) (Or.inr ⟨by rfl, rfl⟩) (by assumption) ?_
            try simp only [Act.put, List.setIfInBounds_toArray, List.set_cons_zero, List.set_cons_succ, List.getElem_toArray, List.getElem_cons_succ, List.getElem_cons_zero]
            refine wpAnyH_take (i := 17) (v := undef) rfl (by kernel_rfl) (by kernel_rfl) (by kernel_rfl) (fun _ _ _ h => h) (Or.inr ⟨by rfl, rfl⟩) (by assumption) ?_
            try simp only [Act.put, List.setIfInBounds_toArray, List.set_cons_zero, List.set_cons_succ, List.getElem_toArray, List.getElem_cons_succ, List.getElem_cons_zero]
            refine wpAnyH_take (i := 18) (v := undef) rfl (by kernel_rfl) (by kernel_rfl) (by kernel_rfl) (fun _ _ _ h => h) (Or.inr ⟨by rfl, rfl⟩) (by assumption) ?_
            try simp only [Act.put, List.setIfInBounds_toArray, List.set_cons_zero, List.set_cons_succ, List.getElem_toArray, List.getElem_cons_succ, List.getElem_cons_zero]
            refine wpAnyH_take (i := 19) (v := undef) rfl (by kernel_rfl) (by kernel_rfl) (by kernel_rfl) (fun _ _ _ h => h) (Or.inr ⟨by rfl, rfl⟩) (by assumption) ?_
            try simp only [Act.put, List.setIfInBounds_toArray, List.set_cons_zero, List.set_cons_succ, List.getElem_toArray, List.getElem_cons_succ, List.getElem_cons_zero]
            refine wpAnyH_take (i := 20) (v := undef) rfl (by kernel_rfl) (by kernel_rfl) (by kernel_rfl) (fun _ _ _ h => h) (Or.inr ⟨by rfl, rfl⟩) (by assumption) ?_
            try simp only [Act.put, List.setIfInBounds_toArray, List.set_cons_zero, List.set_cons_succ, List.getElem_toArray, List.getElem_cons_succ, List.getElem_cons_zero]
            refine wpAnyH_take (i := 21) (v := undef) rfl (by kernel_rfl) (by kernel_rfl) (by kernel_rfl) (fun _ _ _ h => h) (Or.inr ⟨by rfl, rfl⟩) (by assumption) ?_
            try simp only [Act.put, List.setIfInBounds_toArray, List.set_cons_zero, List.set_cons_succ, List.getElem_toArray, List.getElem_cons_succ, List.getElem_cons_zero]
            refine wpAnyH_take (i := 22) (v := ?_) rfl (by kernel_rfl) (by kernel_rfl) (by kernel_rfl) (fun _ _ _ h => h) (Or.inl ⟨by rfl, ?_⟩) (by assumption) ?_
            rotate_left
            · intro w' hSw
              go_simp <;> with_reducible rfl
            try simp only [Act.put, List.setIfInBounds_toArray, List.set_cons_zero, List.set_cons_succ, List.getElem_toArray, List.getElem_cons_succ, List.getElem_cons_zero]
            refine wpAnyH_done (by kernel_rfl) ?_ _
            clear kd SET
            generalize wr.drew = wd at *
            have c0 := WD.out.ka.cell 0
            have c1 := WD.out.ka.cell 1
            have d0 := WD.out.kb.cell 0
            have d1 := WD.out.kb.cell 1
            obtain ⟨g, cap, w5, hr5, hl5, he5, hat⟩ := app_pairL (⟨a, b⟩, (aa, ca), (ab, cb)) (HLR.out.below WD.out.bl) (Nat.le_trans hN WD.out.bl.size) HY.out hclen ⟨HSA.out.later WD.out.bl, HSB.out.later WD.out.bl⟩
            have HR5 := hide hr5
            have LR := hide hl5
            have EX := hide ((ExQ.ofBelow (Q := fun b => some b = (Value.slice ah cs.length ch).ownBlock) WD.out.bl).trans he5)
            have nq : ∀ b, w.heap.size ≤ b → ¬ some b = (Value.slice ah cs.length ch).ownBlock := fun b h1 e => by have := HHV.out b e.symm; omega
            have KR := hide (WD.out.kr.exq he5 (nq _ (by omega)))
            have HAT := hide hat
            have HSZ : Hid (w.heap.size + 2 < wd.heap.size) := WD.out.kr.lt
            have HKE := hide hke
            have NE2 : Hid (∀ b, Value.ownBlock (Value.slice (some ⟨g, 0, none⟩) (cs.length + 1) cap) = some b → b ≠ w.heap.size + 2) := by
              intro b hb
              have hbg : b = g := by simpa [Value.ownBlock, eq_comm] using hb
              subst hbg
              rcases HAT.out with h | h
              · have := HHV.out b h; omega
              · have := HSZ.out; omega
            clear hr5 hl5 he5 nq hat hke
            go_wp2_with (at_builtin; refine wpList_append_eq rfl _ _ _ _ rfl rfl rfl HR5.out ?_)
            clear c0 c1 d0 d1
            have hk6 : (k : Int) + 1 = ((k + 1 : Nat) : Int) := by omega
            have HK6 := hide hk6
            clear hk6
            go_wp2_with fail
            rw [HK6.out]
            refine (dec_any (k + 1) (by have := HLH.out; have := HIL.out; omega) _).mono ?_
            rintro e w6 ⟨rfl, hb6⟩
            have X6 := hide (EX.out.trans (ExQ.ofBelow hb6))
            have R6 := hide (KR.out.below hb6 KR.out.lt)
            have L6 := hide (LR.out.below hb6)
            clear hb6
            have hdl3 : 1 + (Lib.decDigits (k + 1)).length ≤ 9223372036854775807 := by have := dec_len (k + 1); have := HLH.out; have := HIL.out; omega
            have hdl2 : ¬ 9223372036854775807 < 1 + (Lib.decDigits (k + 1)).length := by omega
            have r0 : w6.cell? ⟨w.heap.size + 2, 0, none⟩ = some (.string ⟨#[]⟩) := R6.out.cell 0
            have q1 : w6.cell? ⟨w.heap.size + 2, 1, none⟩ = some (.slice none 0 0) := R6.out.cell 1
            have rf := R6.out.frozen
            have hRl : w.heap.size + 2 < w6.heap.size := R6.out.lt
            go_wp2_with fail
            have hcat : (⟨#[90]⟩ : ByteArray) ++ ⟨(Lib.decDigits (k + 1)).toArray⟩ = nmZ (k + 1) := str_catL [90] (Lib.decDigits (k + 1))
            try rw [hcat]
            clear hcat
            refine bodyPost_ret (v := .tuple #[.agg #[.string (nmZ (k + 1)), .slice none 0 0], Value.slice (some ⟨g, 0, none⟩) (cs.length + 1) cap]) (by simp [results, Tryd.results21, go_sem, World.cell?_setCell_same, World.cell?_setCell_other, r0, q1, hRl]) rfl ?_
            rw [HGN.out]
            have hne2 : ∀ b, Value.ownBlock (Value.slice (some ⟨g, 0, none⟩) (cs.length + 1) cap) = some b → b ≠ w.heap.size + 2 := NE2.out
            refine ⟨none, 0, _, _, by unfold vrP; rw [HID.out]; rfl, ⟨by simp [vrP], Or.inl rfl⟩, (L6.out.exq (Q := fun b => b = w.heap.size + 2) (exq_setA _ _ 0 _) (fun b e => by have := hN; omega) HY.out hne2).exq (Q := fun b => b = w.heap.size + 2) (exq_setA _ _ 1 _) (fun b e => by have := hN; omega) HY.out hne2, by rw [List.map_append, ← HPS.out]; unfold vrP addP; rw [if_neg (by rw [HID.out, HPL.out, HKE.out]; omega)]; rfl, (X6.out.setNew (by omega) _ _).setNew (by omega) _ _, by rcases HAT.out with h | h; exact Or.inl (by rw [h]; rfl); exact Or.inr ⟨g, rfl, by have := HSZ.out; omega⟩⟩
      | true =>
        have HGN : Hid (gnT ps a b = (⟨a.name, (gnL ps a.args b.args).1⟩, (gnL ps a.args b.args).2)) := by unfold Hid gnT; rw [hsy]; simp
        have HLE : Hid (a.args.length = b.args.length) := by
          unfold symB at hsy
          simp only [Bool.and_eq_true, decide_eq_true_eq] at hsy
          exact hsy.2
        clear hsy
        have c0 := W4.out.ka.cell 0
        have c1 := W4.out.ka.cell 1
        have g1 := (W4.out.ka.alloc (.cells #[.string a.name, .slice none 0 0] 24)).cell 1
        have W5 : Hid (LsI w w4.heap.size N Y hv a.name #[.string a.name, .slice aa a.args.length ca] #[.string b.name, .slice ab b.args.length cb] (.slice none 0 0) [] [] hv cs (w4.alloc (.cells #[.string a.name, .slice none 0 0] 24))) :=
          ⟨RowZ.start _ _ _, (HLR.out.below W4.out.bl).below ((Below.refl _ _).alloc (Nat.le_refl _) _), (ExQ.ofBelow W4.out.bl).alloc _, W4.out.ka.alloc _, W4.out.kb.alloc _, W4.out.kr.alloc _, Blk.new _ _ _, by have := W4.out.kr.lt; omega, by simp, Or.inl rfl, fun b hb => by simp [Value.ownBlock] at hb⟩
        go_wp2_with fail
        generalize (w4.alloc (.cells #[.string a.name, .slice none 0 0] 24)) = w5 at *
        generalize w4.heap.size = O at *
        clear c0 c1 g1 W4
        go_loopw [2, 9] (fun q i wr => ∃ (k : Nat) (u : Value) (xs : List Value) (cq : List Pc), k ≤ a.args.length ∧ i = .int .i64 (k : Int) ∧ LsI w O N Y hv a.name #[.string a.name, .slice aa a.args.length ca] #[.string b.name, .slice ab b.args.length cb] u (gnL ps (a.args.take k) (b.args.take k)).1 xs q cq wr ∧ cq.map (·.1) = (gnL ps (a.args.take k) (b.args.take k)).2) (fun q i wr => a.args.length - (intOf i).toNat)
        case atStart => exact ⟨0, .slice none 0 0, [], cs, Nat.zero_le _, rfl, by simpa [gnL_nil] using W5.out, by simp [gnL_nil, HPS.out]⟩
        case round =>
          obtain ⟨k, ur, xs, cq, hk, rfl, hin, hcq⟩ := hrel
          have SET := hide hin
          have HCQ := hide hcq
          clear hin hcq W5
          by_cases hlt : k < a.args.length
          · have hltb : k < b.args.length := by have := HLE.out; omega
            have hqY : ∀ b, Y b → some b ≠ Value.ownBlock u2 := fun b hb e => by have := HY.out b hb; have := (SET.out.lr.own.lt b e.symm).1; omega
            have hvY : ∀ b, Y b → ¬ some b = Value.ownBlock hv := fun b hb e => by have := HY.out b hb; have := (HLR.out.own.lt b e.symm).1; omega
            obtain ⟨ba, oa, a1, c1, rfl, d0, d1, hxa⟩ := (((HSA.out.exq SET.out.ex hvY)).mono (Y := fun b => Y b ∧ b < wr.heap.size) fun b h1 h2 => ⟨h1, h2⟩).get (Below.refl wr.heap.size wr) (fun b h _ => h.2) k hlt
            obtain ⟨bb, ob, a2, c2, rfl, e0, e1, hxb⟩ := (((HSB.out.exq SET.out.ex hvY)).mono (Y := fun b => Y b ∧ b < wr.heap.size) fun b h1 h2 => ⟨h1, h2⟩).get (Below.refl wr.heap.size wr) (fun b h _ => h.2) k hltb
            have hYa : Y ba := by
              obtain ⟨_, h1⟩ := HSA.out
              rcases h1 with h1 | ⟨b', o', e', h1⟩
              · rw [h1] at hlt; simp at hlt
              · cases e'; exact lies_inL _ _ _ h1 k hlt
            have hYb : Y bb := by
              obtain ⟨_, h1⟩ := HSB.out
              rcases h1 with h1 | ⟨b', o', e', h1⟩
              · rw [h1] at hltb; simp at hltb
              · cases e'; exact lies_inL _ _ _ h1 k hltb
            have hlt2 : (k : Int) < (a.args.length : Int) := by omega
            have hlt3 : (k : Int) < (b.args.length : Int) := by omega
            have hz1 : sizeL [a.args[k]] ≤ sizeL a.args - sizeL (a.args.take k) := by
              have h1 := sizeL_take a.args k hlt
              have h2 := sizeL_take_le a.args (k + 1)
              omega
            have hz2 : sizeL (a.args.take k) ≤ sizeL a.args := sizeL_take_le a.args k
            have hza : sizeL [a] = 1 + sizeL a.args := by obtain ⟨_, _⟩ := a; simp [sizeL]
            have hH2 := HLH.out
            have hln := sizeL_len a.args
            have HLN : Hid ((gnL ps (a.args.take k) (b.args.take k)).1.length ≤ 1000000) := by unfold Hid; rw [gnL_len _ _ _ (by simp; omega)]; simp; omega
            have hnn := gn_ok (a.args.take k) (b.args.take k) ps (errL_takeL k (errL_args HEA.out)) (errL_takeL k (errL_args HEB.out)) (by rw [HPS.out]; exact HOK.out)
            have HTK := hide (gnL_take ps a.args b.args HLE.out k hlt)
            have hea := errL_mem (errL_args HEA.out) k hlt
            have heb := errL_mem (errL_args HEB.out) k hltb
            have hsub : ∀ x, x ∈ a.args → x ∈ l := fun x hx => by rw [← HAE.out.2]; exact hx
            have hmem : a.args[k] ∈ l := hsub _ (List.getElem_mem hlt)
            have hcql : cq.length = (gnL ps (a.args.take k) (b.args.take k)).2.length := by have := congrArg List.length HCQ.out; simpa using this
            have hnq : ∀ x, w.heap.size ≤ x → x < O + 1 → some x ≠ Value.ownBlock u2 := fun x h1 h2 e => by
              rcases SET.out.hw with h | ⟨g, h, h3⟩
              · rw [h] at e; have := HHV.out x e.symm; omega
              · rw [h] at e; simp at e; omega
            have hOl := SET.out.ol
            have KP : Hid (∀ w', KpS wr u2 w' → (w'.cell? ⟨w.heap.size, 1, none⟩ = some (.slice (some ⟨ba, oa, none⟩) a.args.length ca) ∧ w'.cell? ⟨w.heap.size + 1, 1, none⟩ = some (.slice (some ⟨bb, ob, none⟩) b.args.length cb)) ∧ (w'.cell? ⟨ba, oa + k * 2, none⟩ = some (.string a.args[k].name) ∧ w'.cell? ⟨ba, oa + k * 2 + 1, none⟩ = some (.slice a1 a.args[k].args.length c1)) ∧ w'.cell? ⟨bb, ob + k * 2, none⟩ = some (.string b.args[k].name) ∧ w'.cell? ⟨bb, ob + k * 2 + 1, none⟩ = some (.slice a2 b.args[k].args.length c2)) := fun w' hs =>
              ⟨⟨hs.cell (SET.out.ka.cell 1) (hnq _ (by omega) (by omega)), hs.cell (SET.out.kb.cell 1) (hnq _ (by omega) (by omega))⟩, ⟨hs.cell d0 (hqY _ hYa), hs.cell d1 (hqY _ hYa)⟩, hs.cell e0 (hqY _ hYb), hs.cell e1 (hqY _ hYb)⟩
            have IHQ : Hid (∀ wq, Below wr.heap.size wr wq → Calls Tryd.prog 21 #[.agg #[.string a.args[k].name, .slice a1 a.args[k].args.length c1], .agg #[.string b.args[k].name, .slice a2 b.args[k].args.length c2], u2] wq fun e w'' => LsP N Y u2 (gnT (gnL ps (a.args.take k) (b.args.take k)).2 a.args[k] b.args[k]) wq e w'') := fun wq hbq => by
              have h := IH.out a.args[k] hmem b.args[k] u2 cq _ _ wq ((hxa.mono (Y := Y) fun b h _ => h.1).later hbq) ((hxb.mono (Y := Y) fun b h _ => h.1).later hbq) (SET.out.lr.below hbq) (by have := hbq.size; have := SET.out.sz; omega) (by rw [HCQ.out]; exact hnn.1) hea heb (by have := hnn.2; rw [HPL.out] at this; omega)
              rw [HCQ.out] at h
              exact h
            clear hln hsub hxa hxb d0 d1 e0 e1 hz1 hz2 hza hH2 hnn hea heb hmem hYa hYb hqY hvY hcql hnq hOl
            generalize gnT (gnL ps (a.args.take k) (b.args.take k)).2 a.args[k] b.args[k] = y at *
            have kd : Below wr.heap.size wr wr.drew := (Below.refl _ _).drew
            have KD : KpS wr u2 wr.drew := ⟨Nat.le_refl _, fun _ _ _ => rfl⟩
            have ca1 := SET.out.ka.cell 1
            go_upto_region 6 with fail
            refine wp_region_held_drew (S := KpS wr u2) (by kernel_rfl) KD (fun hHeld => ?_)
            refine wpAnyH_take (i := 0) (v := ?_) rfl (by kernel_rfl) (by kernel_rfl) (by kernel_rfl) (fun _ _ _ h => h) (Or.inl ⟨by rfl, ?_⟩) (by assumption) ?_
            rotate_left
            · intro w' hSw
              go_simp <;> with_reducible rfl
            try simp only [Act.put, List.setIfInBounds_toArray, List.set_cons_zero, List.set_cons_succ, List.getElem_toArray, List.getElem_cons_succ, List.getElem_cons_zero]
            refine wpAnyH_take (i := 1) (v := ?_) rfl (by kernel_rfl) (by kernel_rfl) (by kernel_rfl) (fun _ _ _ h => h) (Or.inl ⟨by rfl, ?_⟩) (by assumption) ?_
            rotate_left
            · intro w' hSw
              obtain ⟨⟨x0, x1⟩, ⟨x2, x3⟩, x4, x5⟩ := KP.out w' hSw
              go_simp <;> with_reducible rfl
            try simp only [Act.put, List.setIfInBounds_toArray, List.set_cons_zero, List.set_cons_succ, List.getElem_toArray, List.getElem_cons_succ, List.getElem_cons_zero]
            refine wpAnyH_take (i := 2) (v := ?_) rfl (by kernel_rfl) (by kernel_rfl) (by kernel_rfl) (fun _ _ _ h => h) (Or.inl ⟨by rfl, ?_⟩) (by assumption) ?_
            rotate_left
            · intro w' hSw
              go_simp <;> with_reducible rfl
            try simp only [Act.put, List.setIfInBounds_toArray, List.set_cons_zero, List.set_cons_succ, List.getElem_toArray, List.getElem_cons_succ, List.getElem_cons_zero]
            refine wpAnyH_take (i := 3) (v := ?_) rfl (by kernel_rfl) (by kernel_rfl) (by kernel_rfl) (fun _ _ _ h => h) (Or.inl ⟨by rfl, ?_⟩) (by assumption) ?_
            rotate_left
            · intro w' hSw
              go_simp <;> with_reducible rfl
            try simp only [Act.put, List.setIfInBounds_toArray, List.set_cons_zero, List.set_cons_succ, List.getElem_toArray, List.getElem_cons_succ, List.getElem_cons_zero]
            refine wpAnyH_take (i := 4) (v := ?_) rfl (by kernel_rfl) (by kernel_rfl) (by kernel_rfl) (fun _ _ _ h => h) (Or.inl ⟨by rfl, ?_⟩) (by assumption) ?_
            rotate_left
            · intro w' hSw
              obtain ⟨⟨x0, x1⟩, ⟨x2, x3⟩, x4, x5⟩ := KP.out w' hSw
              go_simp <;> with_reducible rfl
            try simp only [Act.put, List.setIfInBounds_toArray, List.set_cons_zero, List.set_cons_succ, List.getElem_toArray, List.getElem_cons_succ, List.getElem_cons_zero]
            refine wpAnyH_take (i := 5) (v := ?_) rfl (by kernel_rfl) (by kernel_rfl) (by kernel_rfl) (fun _ _ _ h => h) (Or.inl ⟨by rfl, ?_⟩) (by assumption) ?_
            rotate_left
            · intro w' hSw
              go_simp <;> with_reducible rfl
            try simp only [Act.put, List.setIfInBounds_toArray, List.set_cons_zero, List.set_cons_succ, List.getElem_toArray, List.getElem_cons_succ, List.getElem_cons_zero]
            refine wpAnyH_take (i := 6) (v := ?_) rfl (by kernel_rfl) (by kernel_rfl) (by kernel_rfl) (fun _ _ _ h => h) (Or.inl ⟨by rfl, ?_⟩) (by assumption) ?_
            rotate_left
            · intro w' hSw
              obtain ⟨⟨x0, x1⟩, ⟨x2, x3⟩, x4, x5⟩ := KP.out w' hSw
              go_simp <;> with_reducible rfl
            try simp only [Act.put, List.setIfInBounds_toArray, List.set_cons_zero, List.set_cons_succ, List.getElem_toArray, List.getElem_cons_succ, List.getElem_cons_zero]
            refine wpAnyH_take (i := 7) (v := ?_) rfl (by kernel_rfl) (by kernel_rfl) (by kernel_rfl) (fun _ _ _ h => h) (Or.inl ⟨by rfl, ?_⟩) (by assumption) ?_
            rotate_left
            · intro w' hSw
              go_simp <;> with_reducible rfl
            try simp only [Act.put, List.setIfInBounds_toArray, List.set_cons_zero, List.set_cons_succ, List.getElem_toArray, List.getElem_cons_succ, List.getElem_cons_zero]
            refine wpAnyH_take (i := 8) (v := ?_) rfl (by kernel_rfl) (by kernel_rfl) (by kernel_rfl) (fun _ _ _ h => h) (Or.inl ⟨by rfl, ?_⟩) (by assumption) ?_
            rotate_left
            · intro w' hSw
              go_simp <;> with_reducible rfl
            try simp only [Act.put, List.setIfInBounds_toArray, List.set_cons_zero, List.set_cons_succ, List.getElem_toArray, List.getElem_cons_succ, List.getElem_cons_zero]
            refine wpAnyH_take (i := 9) (v := ?_) rfl (by kernel_rfl) (by kernel_rfl) (by kernel_rfl) (fun _ _ _ h => h) (Or.inl ⟨by rfl, ?_⟩) (by assumption) ?_
            rotate_left
            · intro w' hSw
              obtain ⟨⟨x0, x1⟩, ⟨x2, x3⟩, x4, x5⟩ := KP.out w' hSw
              go_simp <;> with_reducible rfl
            try simp only [Act.put, List.setIfInBounds_toArray, List.set_cons_zero, List.set_cons_succ, List.getElem_toArray, List.getElem_cons_succ, List.getElem_cons_zero]
            refine wpAnyH_take (i := 10) (v := ?_) rfl (by kernel_rfl) (by kernel_rfl) (by kernel_rfl) (fun _ _ _ h => h) (Or.inl ⟨by rfl, ?_⟩) (by assumption) ?_
            rotate_left
            · intro w' hSw
              go_simp <;> with_reducible rfl
            try simp only [Act.put, List.setIfInBounds_toArray, List.set_cons_zero, List.set_cons_succ, List.getElem_toArray, List.getElem_cons_succ, List.getElem_cons_zero]
            refine wpAnyH_ready (rs := [11, 15]) (by kernel_rfl) (by simp) ?_
            refine AllReadyH.cons rfl (fun K hK => ?_) (AllReadyH.cons rfl (fun K hK => ?_) AllReadyH.nil)
            · go_simp
              go_at_call 21
              refine (IHQ.out _ kd).mono ?_
              rintro e w7 ⟨a5, c5, h5, cs5, rfl, hs5, hl5, hc5, hx5, hw5⟩
              have S5 := hide hs5
              have L5 := hide hl5
              have C5 := hide hc5
              have X5 := hide hx5
              have V5 := hide hw5
              have K7 := hide (KpS.ex KD hx5)
              clear hs5 hl5 hc5 hx5 hw5
              go_simp
              refine hK.out _ _ (by exact K7.out) (fun hHeld => ?_)
              clear hK K
              try simp only [Act.put, List.setIfInBounds_toArray, List.set_cons_zero, List.set_cons_succ, List.getElem_toArray, List.getElem_cons_succ, List.getElem_cons_zero]
              refine wpAnyH_take (i := 12) (v := ?_) rfl (by kernel_rfl) (by kernel_rfl) (by kernel_rfl) (fun _ _ _ h => h) (Or.inl ⟨by rfl, ?_⟩) (by assumption) ?_
              rotate_left
              · intro w' hSw
                go_simp <;> with_reducible rfl
              try simp only [Act.put, List.setIfInBounds_toArray, List.set_cons_zero, List.set_cons_succ, List.getElem_toArray, List.getElem_cons_succ, List.getElem_cons_zero]
              refine wpAnyH_take (i := 13) (v := ?_) rfl (by kernel_rfl) (by kernel_rfl) (by kernel_rfl) (fun _ _ _ h => h) (Or.inl ⟨by rfl, ?_⟩) (by assumption) ?_
              rotate_left
              · intro w' hSw
                go_simp <;> with_reducible rfl
              try simp only [Act.put, List.setIfInBounds_toArray, List.set_cons_zero, List.set_cons_succ, List.getElem_toArray, List.getElem_cons_succ, List.getElem_cons_zero]
              refine wpAnyH_take (i := 14) (v := ?_) rfl (by kernel_rfl) (by kernel_rfl) (by kernel_rfl) (fun _ _ _ h => h) (Or.inl ⟨by rfl, ?_⟩) (by assumption) ?_
              rotate_left
              · intro w' hSw
                go_simp <;> with_reducible rfl
              try simp only [Act.put, List.setIfInBounds_toArray, List.set_cons_zero, List.set_cons_succ, List.getElem_toArray, List.getElem_cons_succ, List.getElem_cons_zero]
              refine wpAnyH_ready (rs := [15]) (by kernel_rfl) (by simp) ?_
              refine AllReadyH.cons rfl (fun K hK => ?_) AllReadyH.nil
              go_simp
              refine hK.out _ _ (by exact KpS.al K7.out _) (fun hHeld => ?_)
              clear hK K
              try simp only [Act.put, List.setIfInBounds_toArray, List.set_cons_zero, List.set_cons_succ, List.getElem_toArray, List.getElem_cons_succ, List.getElem_cons_zero]
              have E6 : Hid (ExQ (fun b => some b = Value.ownBlock u2) wr (w7.alloc (.cells #[.string y.1.name, .slice a5 y.1.args.length c5] 24))) := (((ExQ.refl _ wr).drew).trans X5.out).alloc _
              have S6 : Hid (Sl (w7.alloc (.cells #[.string y.1.name, .slice a5 y.1.args.length c5] 24)) (fun b => wr.heap.size ≤ b ∧ some b ≠ Value.ownBlock h5) a5 y.1.args) := S5.out.later ((Below.refl _ _).alloc (Nat.le_refl _) _)
              have L6 : Hid (LRow (w7.alloc (.cells #[.string y.1.name, .slice a5 y.1.args.length c5] 24)) N Y h5 cs5) := L5.out.below ((Below.refl _ _).alloc (Nat.le_refl _) _)
              have B6 : Hid (Blk (w7.alloc (.cells #[.string y.1.name, .slice a5 y.1.args.length c5] 24)) w7.heap.size #[.string y.1.name, .slice a5 y.1.args.length c5] 24) := Blk.new _ _ _
              have V6 := hide V5.out
              refine wpAnyH_ready (rs := [16]) (by kernel_rfl) (by simp) ?_
              refine AllReadyH.cons rfl (fun K hK => ?_) AllReadyH.nil
              go_simp
              refine hK.out _ _ (by exact KpS.al K7.out _) (fun hHeld => ?_)
              clear hK K
              try simp only [Act.put, List.setIfInBounds_toArray, List.set_cons_zero, List.set_cons_succ, List.getElem_toArray, List.getElem_cons_succ, List.getElem_cons_zero]
              refine wpAnyH_take (i := 17) (v := ?_) rfl (by kernel_rfl) (by kernel_rfl) (by kernel_rfl) (fun _ _ _ h => h) (Or.inl ⟨by rfl, ?_⟩) (by assumption) ?_
              rotate_left
              · intro w' hSw
                go_simp <;> with_reducible rfl
              try simp only [Act.put, List.setIfInBounds_toArray, List.set_cons_zero, List.set_cons_succ, List.getElem_toArray, List.getElem_cons_succ, List.getElem_cons_zero]
              refine wpAnyH_done (by kernel_rfl) ?_ _
              obtain ⟨g, cap, w3, hrun, o6, o3, of, ol, hset⟩ := ls_round (t := y.1) (c5 := c5) hN HY.out HHV.out SET.out HLN.out E6.out S6.out L6.out V6.out
              have HRUN := hide hrun
              have HSET := hide hset
              clear hrun hset
              have b0 := B6.out.cell 0
              have b1 := B6.out.cell 1
              generalize (w7.alloc (.cells #[.string y.1.name, .slice a5 y.1.args.length c5] 24)) = w8 at *
              go_wp2_with (at_builtin; refine wpList_append_eq rfl _ _ _ _ rfl rfl rfl HRUN.out ?_)
              go_roundw
              case rel => exact ⟨k + 1, _, _, _, by omega, by go_num, by rw [HTK.out]; exact HSET.out, by rw [HTK.out]; exact C5.out⟩
              case measure => simp [intOf]; omega
            · go_simp
              have kz : Below wr.heap.size wr (wr.drew.alloc (.cells #[.string ⟨#[]⟩, .slice none 0 0] 24)) := kd.alloc (Nat.le_refl _) _
              refine hK.out _ _ (by exact KpS.al KD _) (fun hHeld => ?_)
              clear hK K
              try simp only [Act.put, List.setIfInBounds_toArray, List.set_cons_zero, List.set_cons_succ, List.getElem_toArray, List.getElem_cons_succ, List.getElem_cons_zero]
              refine wpAnyH_ready (rs := [11]) (by kernel_rfl) (by simp) ?_
              refine AllReadyH.cons rfl (fun K hK => ?_) AllReadyH.nil
              go_simp
              go_at_call 21
              refine (IHQ.out _ kz).mono ?_
              rintro e w7 ⟨a5, c5, h5, cs5, rfl, hs5, hl5, hc5, hx5, hw5⟩
              have S5 := hide hs5
              have L5 := hide hl5
              have C5 := hide hc5
              have X5 := hide hx5
              have V5 := hide hw5
              have K7 := hide (KpS.ex (KpS.al KD _) hx5)
              clear hs5 hl5 hc5 hx5 hw5
              go_simp
              refine hK.out _ _ (by exact K7.out) (fun hHeld => ?_)
              clear hK K
              try simp only [Act.put, List.setIfInBounds_toArray, List.set_cons_zero, List.set_cons_succ, List.getElem_toArray, List.getElem_cons_succ, List.getElem_cons_zero]
              refine wpAnyH_take (i := 12) (v := ?_) rfl (by kernel_rfl) (by kernel_rfl) (by kernel_rfl) (fun _ _ _ h => h) (Or.inl ⟨by rfl, ?_⟩) (by assumption) ?_
              rotate_left
              · intro w' hSw
                go_simp <;> with_reducible rfl
              try simp only [Act.put, List.setIfInBounds_toArray, List.set_cons_zero, List.set_cons_succ, List.getElem_toArray, List.getElem_cons_succ, List.getElem_cons_zero]
              refine wpAnyH_take (i := 13) (v := ?_) rfl (by kernel_rfl) (by kernel_rfl) (by kernel_rfl) (fun _ _ _ h => h) (Or.inl ⟨by rfl, ?_⟩) (by assumption) ?_
              rotate_left
              · intro w' hSw
                go_simp <;> with_reducible rfl
              try simp only [Act.put, List.setIfInBounds_toArray, List.set_cons_zero, List.set_cons_succ, List.getElem_toArray, List.getElem_cons_succ, List.getElem_cons_zero]
              refine wpAnyH_take (i := 14) (v := ?_) rfl (by kernel_rfl) (by kernel_rfl) (by kernel_rfl) (fun _ _ _ h => h) (Or.inl ⟨by rfl, ?_⟩) (by assumption) ?_
              rotate_left
              · intro w' hSw
                go_simp <;> with_reducible rfl
              try simp only [Act.put, List.setIfInBounds_toArray, List.set_cons_zero, List.set_cons_succ, List.getElem_toArray, List.getElem_cons_succ, List.getElem_cons_zero]
              have hnA : ¬ some wr.heap.size = Value.ownBlock u2 := fun e => by have := (SET.out.lr.own.lt _ e.symm).2; omega
              have hn5 : ∀ b, Value.ownBlock h5 = some b → ¬ b = wr.heap.size := fun b hb e => V5.out.elim (fun h => hnA (by rw [← h, hb, e])) (fun ⟨g, h, h3⟩ => by rw [h] at hb; simp at hb h3; omega)
              have Z7 : Hid (Blk w7 wr.heap.size #[.string ⟨#[]⟩, .slice none 0 0] 24) := (Blk.new wr.drew _ _).exq X5.out hnA
              have f0 := Z7.out.cell 0
              have f1 := Z7.out.cell 1
              have ff := Z7.out.frozen
              have fl := Z7.out.lt
              have E6 : Hid (ExQ (fun b => some b = Value.ownBlock u2) wr ((w7.setCell ⟨wr.heap.size, 0, none⟩ (.string y.1.name)).setCell ⟨wr.heap.size, 1, none⟩ (.slice a5 y.1.args.length c5))) := ((((ExQ.refl _ wr).drew.alloc _).trans X5.out).setNew (Nat.le_refl _) _ _).setNew (Nat.le_refl _) _ _
              have S6 : Hid (Sl ((w7.setCell ⟨wr.heap.size, 0, none⟩ (.string y.1.name)).setCell ⟨wr.heap.size, 1, none⟩ (.slice a5 y.1.args.length c5)) (fun b => wr.heap.size ≤ b ∧ some b ≠ Value.ownBlock h5) a5 y.1.args) := (S5.out.kept fun b hb => by rw [Below.heap_setCell _ _ _ _ (by have := hb.1; simp at this ⊢; omega), Below.heap_setCell _ _ _ _ (by have := hb.1; simp at this ⊢; omega)]).mono fun b hb _ => ⟨by have := hb.1; simp at this; omega, hb.2⟩
              have L6 : Hid (LRow ((w7.setCell ⟨wr.heap.size, 0, none⟩ (.string y.1.name)).setCell ⟨wr.heap.size, 1, none⟩ (.slice a5 y.1.args.length c5)) N Y h5 cs5) := (L5.out.exq (Q := fun b => b = wr.heap.size) (exq_setA _ _ 0 _) (fun b e => by have := SET.out.sz; have := SET.out.ol; omega) HY.out hn5).exq (Q := fun b => b = wr.heap.size) (exq_setA _ _ 1 _) (fun b e => by have := SET.out.sz; have := SET.out.ol; omega) HY.out hn5
              have B6 : Hid (Blk ((w7.setCell ⟨wr.heap.size, 0, none⟩ (.string y.1.name)).setCell ⟨wr.heap.size, 1, none⟩ (.slice a5 y.1.args.length c5)) wr.heap.size #[.string y.1.name, .slice a5 y.1.args.length c5] 24) := (Z7.out.set 0 _).set 1 _
              have V6 : Hid (Value.ownBlock h5 = Value.ownBlock u2 ∨ ∃ g, Value.ownBlock h5 = some g ∧ wr.heap.size ≤ g) := V5.out.imp id (fun ⟨g, h1, h2⟩ => ⟨g, h1, by simp at h2; omega⟩)
              have KW : Hid (KpS wr u2 ((w7.setCell ⟨wr.heap.size, 0, none⟩ (.string y.1.name)).setCell ⟨wr.heap.size, 1, none⟩ (.slice a5 y.1.args.length c5))) := (KpS.st (KpS.st K7.out (Nat.le_refl _) 0 _) (Nat.le_refl _) 1 _)
              refine wpAnyH_ready (rs := [16]) (by kernel_rfl) (by simp) ?_
              refine AllReadyH.cons rfl (fun K hK => ?_) AllReadyH.nil
              go_simp
              refine hK.out _ _ (by exact KW.out) (fun hHeld => ?_)
              clear hK K
              try simp only [Act.put, List.setIfInBounds_toArray, List.set_cons_zero, List.set_cons_succ, List.getElem_toArray, List.getElem_cons_succ, List.getElem_cons_zero]
              clear f0 f1 ff fl hnA hn5
              refine wpAnyH_take (i := 17) (v := ?_) rfl (by kernel_rfl) (by kernel_rfl) (by kernel_rfl) (fun _ _ _ h => h) (Or.inl ⟨by rfl, ?_⟩) (by assumption) ?_
              rotate_left
              · intro w' hSw
                go_simp <;> with_reducible rfl
              try simp only [Act.put, List.setIfInBounds_toArray, List.set_cons_zero, List.set_cons_succ, List.getElem_toArray, List.getElem_cons_succ, List.getElem_cons_zero]
              refine wpAnyH_done (by kernel_rfl) ?_ _
              obtain ⟨g, cap, w3, hrun, o6, o3, of, ol, hset⟩ := ls_round (t := y.1) (c5 := c5) hN HY.out HHV.out SET.out HLN.out E6.out S6.out L6.out V6.out
              have HRUN := hide hrun
              have HSET := hide hset
              clear hrun hset
              have b0 := B6.out.cell 0
              have b1 := B6.out.cell 1
              generalize ((w7.setCell ⟨wr.heap.size, 0, none⟩ (.string y.1.name)).setCell ⟨wr.heap.size, 1, none⟩ (.slice a5 y.1.args.length c5)) = w8 at *
              go_wp2_with (at_builtin; refine wpList_append_eq rfl _ _ _ _ rfl rfl rfl HRUN.out ?_)
              go_roundw
              case rel => exact ⟨k + 1, _, _, _, by omega, by go_num, by rw [HTK.out]; exact HSET.out, by rw [HTK.out]; exact C5.out⟩
              case measure => simp [intOf]; omega
          · have hge : ¬ ((k : Int) < (a.args.length : Int)) := by omega
            have htk : a.args.take k = a.args := List.take_of_length_le (by omega)
            have htb : b.args.take k = b.args := List.take_of_length_le (by have := HLE.out; omega)
            rw [htk, htb] at SET HCQ
            obtain ⟨ae, ce, rfl, hse⟩ := SET.out.row.sl
            have HSE := hide hse
            clear hse htk htb
            have ca1 := SET.out.ka.cell 1
            have o0 : wr.cell? ⟨O, 0, none⟩ = some (.string a.name) := SET.out.out.cell 0
            have o1 := SET.out.out.cell 1
            have r0 : wr.cell? ⟨w.heap.size + 2, 0, none⟩ = some (.string ⟨#[]⟩) := SET.out.kr.cell 0
            have q1 : wr.cell? ⟨w.heap.size + 2, 1, none⟩ = some (.slice none 0 0) := SET.out.kr.cell 1
            have rf := SET.out.kr.frozen
            have hRl : w.heap.size + 2 < wr.heap.size := SET.out.kr.lt
            go_wp2_with fail
            refine bodyPost_ret (v := .tuple #[.agg #[.string a.name, .slice ae (gnL ps a.args b.args).1.length ce], u2]) (by simp [results, Tryd.results21, go_sem, World.cell?_setCell_same, World.cell?_setCell_other, r0, q1, hRl]) rfl ?_
            rw [HGN.out]
            have hbs := SET.out.ol
            have hne2 : ∀ b, Value.ownBlock u2 = some b → b ≠ w.heap.size + 2 := fun b hb e => by
              rcases SET.out.hw with h | ⟨g, h, h3⟩
              · rw [h] at hb; have := HHV.out b hb; omega
              · rw [h] at hb; simp at hb; omega
            have hul := SET.out.row.own.lt
            refine ⟨ae, ce, _, _, rfl, (HSE.out.kept fun b hb => ?_).mono fun b hb _ => ?_, (SET.out.lr.exq (Q := fun b => b = w.heap.size + 2) (exq_setA _ _ 0 _) (fun b e => by have := hN; omega) HY.out hne2).exq (Q := fun b => b = w.heap.size + 2) (exq_setA _ _ 1 _) (fun b e => by have := hN; omega) HY.out hne2, HCQ.out, (SET.out.ex.setNew (by omega) _ _).setNew (by omega) _ _, ?_⟩
            · have hbn : b ≠ w.heap.size + 2 := by
                rcases hb with h | h
                · omega
                · have := (hul b h.symm).1; omega
              rw [Below.heap_setCell _ _ _ _ (by simpa using hbn), Below.heap_setCell _ _ _ _ (by simpa using hbn)]
            · rcases hb with h | h
              · exact ⟨by omega, h.2.1⟩
              · exact ⟨by have := (hul b h.symm).1; omega, SET.out.ne b h.symm⟩
            · rcases SET.out.hw with h | ⟨g, h, h3⟩
              · exact Or.inl h
              · exact Or.inr ⟨g, h, by omega⟩
end Go.Proofs.YtakmclheffbeaaaDoor

/- Walks: what two terms have in common (general.common.of). -/
namespace Go.Proofs.YtakmclheffbeaaaDoor
open Go.RowKit
set_option linter.unusedSimpArgs false
set_option linter.unusedVariables false
set_option maxRecDepth 8000

/-- How far it is. -/
structure GfI (w : World) (O B r r1 r2 : Nat) (Y : Nat → Prop) (s : ByteArray) (va vb : Array Value) (u : Value) (L : List Tm) (xs : List Value) (h : List Pr) (wr : World) : Prop where
  row : Row wr (O + 1) 24 (fun _ => False) u L xs
  ex : ExQ (Mps r r1 r2) w wr
  bc : Blk wr w.heap.size #[.func (.func 40) #[] #[.pointer (some ⟨B, 0, none⟩)], .map (some r1), .map (some r2)] 61
  ba : Blk wr (w.heap.size + 1) va 24
  bb : Blk wr (w.heap.size + 2) vb 24
  res : Blk wr (w.heap.size + 3) #[.string ⟨#[]⟩, .slice none 0 0] 24
  out : Blk wr O #[.string s, u] 24
  sz : O + 1 ≤ wr.heap.size
  ol : w.heap.size + 4 ≤ O
  gm : GmAt wr B r r1 r2 Y h
theorem gf_round {w wq w5 : World} {O B r r1 r2 : Nat} {Y : Nat → Prop} {s : ByteArray} {va vb : Array Value} {u : Value} {L : List Tm} {xs : List Value} {h h' : List Pr} {t : Tm} {a5 : Option Addr} {c5 : Nat} (hM : ∀ x, Mps r r1 r2 x → x < w.heap.size) (hBl : B < w.heap.size) (hYw : ∀ x, Y x → x < w.heap.size) (hI : GfI w O B r r1 r2 Y s va vb u L xs h wq) (hl : L.length ≤ 1000000)
    (h5 : ExQ (Mps r r1 r2) wq w5) (hs5 : Sl w5 (fun b => wq.heap.size ≤ b) a5 t.args) (hg5 : GmAt w5 B r r1 r2 Y h') :
    ∃ g cap w3, (Builtin.append_ #[22, 22] 22 #[u, .slice (some ⟨w5.heap.size, 0, none⟩) 1 1]).run Tryd.prog (w5.alloc (.cells #[.string t.name, .slice a5 t.args.length c5] 24)) = .ok (.slice (some ⟨g, 0, none⟩) (L.length + 1) cap) w3 ∧
      w5.cell? ⟨O, 1, none⟩ = some u ∧ (w5.alloc (.cells #[.string t.name, .slice a5 t.args.length c5] 24)).cell? ⟨O, 1, none⟩ = some u ∧ w3.cell? ⟨O, 1, none⟩ = some u ∧ w3.frozen? ⟨O, 1, none⟩ = false ∧ O < w3.heap.size ∧
      (∀ x, x < w.heap.size + 4 → ¬ Mps r r1 r2 x → w5.heap[x]? = wq.heap[x]? ∧ (w5.alloc (.cells #[.string t.name, .slice a5 t.args.length c5] 24)).heap[x]? = wq.heap[x]? ∧ w3.heap[x]? = wq.heap[x]? ∧ (w3.setCell ⟨O, 1, none⟩ (.slice (some ⟨g, 0, none⟩) (L.length + 1) cap)).heap[x]? = wq.heap[x]?) ∧
      GfI w O B r r1 r2 Y s va vb (.slice (some ⟨g, 0, none⟩) (L.length + 1) cap) (L ++ [t]) (xs ++ [.string t.name, .slice a5 t.args.length c5]) h' (w3.setCell ⟨O, 1, none⟩ (.slice (some ⟨g, 0, none⟩) (L.length + 1) cap)) := by
  obtain ⟨hrow, hex, hbc, hba, hbb, hres, hout, hsz, hol, hgm⟩ := hI
  obtain ⟨i0, hi, hz0, hz1, hz2⟩ := info_parts Tryd.infoTerm
  obtain ⟨wm, hbm, hsm, hem⟩ := h5.mid
  have hlt := hrow.own.lt
  have hrm := hrow.exq hem (fun b hb => by have := hM b hb; omega) (fun b _ h => h)
  have hsx := hbm.size
  obtain ⟨g, cap, w3, hr3, ho, hg, hat, hgl⟩ := run_append_lies (P := Tryd.prog) (w := w5.alloc (.cells #[.string t.name, .slice a5 t.args.length c5] 24)) 22 22 (O + 1) 24 i0 _ 2 40 Tryd.underlying22 hi hz0 hz1 hz2 rfl (by decide) u L.length xs ((hrm.below hbm).own.alloc _)
    ⟨w5.heap.size, 0, none⟩ 1 1 [.string t.name, .slice a5 t.args.length c5] rfl (cell_termZ _ _ _ _) (fun y hy => by simp at hy; rcases hy with rfl | rfl <;> rfl) (by decide) (by unfold maxLen; omega) (by omega) (by simp; omega) _ rfl
  have hp := hrm.push (w1 := w5) (w3 := w3) (t := t) (by omega) (fun b h => h.elim) hbm ⟨a5, c5, rfl, hs5.mono fun b h _ => Or.inr (by omega)⟩ _ rfl ho hg hat
  have hne : ∀ j, j < O + 1 → some j ≠ u.ownBlock := fun j hj e => by have := (hlt j e.symm).1; omega
  have hs3 := hg.size
  simp at hs3
  have hx5 : ExQ (Mps r r1 r2) w w5 := hex.transN h5 (fun i h _ => h)
  have hx3 : ExQ (Mps r r1 r2) w w3 := (hx5.alloc _).grown hg (fun k hk => Or.inl (by have := (hlt k hk).1; omega))
  have nM : ∀ x, w.heap.size ≤ x → ¬ Mps r r1 r2 x := fun x hx hm => by have := hM x hm; omega
  have hO5 := hout.exq h5 (nM _ (by omega))
  have hO3 := (hO5.alloc (.cells #[.string t.name, .slice a5 t.args.length c5] 24)).grown hg (hne _ (by omega))
  have keep : ∀ x, x < w.heap.size + 4 → ¬ Mps r r1 r2 x → w5.heap[x]? = wq.heap[x]? ∧ (w5.alloc (.cells #[.string t.name, .slice a5 t.args.length c5] 24)).heap[x]? = wq.heap[x]? ∧ w3.heap[x]? = wq.heap[x]? ∧ (w3.setCell ⟨O, 1, none⟩ (.slice (some ⟨g, 0, none⟩) (L.length + 1) cap)).heap[x]? = wq.heap[x]? := fun x hx hm => by
    have e1 := h5.block x (by omega) hm
    have e2 : (w5.alloc (.cells #[.string t.name, .slice a5 t.args.length c5] 24)).heap[x]? = wq.heap[x]? := (Below.heap_alloc _ _ _ (by omega)).trans e1
    have e3 : w3.heap[x]? = wq.heap[x]? := (hg.block x (by simp; omega) (hne x (by omega))).trans e2
    exact ⟨e1, e2, e3, (Below.heap_setCell _ _ _ _ (by simp; omega)).trans e3⟩
  have G3 : GmAt w3 B r r1 r2 Y h' := (hg5.alloc (.cells #[.string t.name, .slice a5 t.args.length c5] 24)).kept fun x hx hc => hg.block x hx (hne x (by
    rcases hc with h1 | h1 | h1
    · omega
    · have := hM x h1; omega
    · have := hYw x h1; omega))
  have G4 : GmAt (w3.setCell ⟨O, 1, none⟩ (.slice (some ⟨g, 0, none⟩) (L.length + 1) cap)) B r r1 r2 Y h' := G3.kept fun x hx hc => Below.heap_setCell _ _ _ _ (by
    have : x < w.heap.size := by
      rcases hc with h1 | h1 | h1
      · omega
      · exact hM x h1
      · exact hYw x h1
    simp; omega)
  refine ⟨g, cap, w3, hr3, hO5.cell 1, (hO5.alloc _).cell 1, hO3.cell 1, hO3.frozen 1, by omega, keep, ?_⟩
  refine ⟨hp.setCell (by omega) (fun h => h) _, hx3.setNew (by omega) _ _, (keep _ (by omega) (nM _ (by omega))).2.2.2.trans hbc, (keep _ (by omega) (nM _ (by omega))).2.2.2.trans hba, (keep _ (by omega) (nM _ (by omega))).2.2.2.trans hbb, (keep _ (by omega) (nM _ (by omega))).2.2.2.trans hres, hO3.set 1 _, by simp [World.setCell]; omega, hol, G4⟩
/-- What it tells. -/
def GfP (B r r1 r2 : Nat) (Y : Nat → Prop) (y : Tm × List Pr) (w : World) (e : Ending) (w' : World) : Prop :=
  ∃ a c, e = .returned (.agg #[.string y.1.name, .slice a y.1.args.length c]) ∧ Sl w' (fun b => w.heap.size ≤ b) a y.1.args ∧ GmAt w' B r r1 r2 Y y.2 ∧ ExQ (Mps r r1 r2) w w'
theorem mps_lt {w : World} {B r r1 r2 : Nat} {Y : Nat → Prop} {h : List Pr} (g : GmAt w B r r1 r2 Y h) : ∀ x, Mps r r1 r2 x → x < w.heap.size := fun x hx => by
  rcases hx with rfl | rfl | rfl
  · exact g.nm.map.lt
  · exact g.lf.lt
  · exact g.rt.lt
def GfS (C : Nat) (B r1 r2 : Nat) (aa ab : Option Addr) (na nb ca cb : Nat) (pa pb : Addr) (s1 : ByteArray) (v1 : Value) (s2 : ByteArray) (v2 : Value) (w' : World) : Prop :=
  (w'.cell? ⟨C, 0, none⟩ = some (.func (.func 40) #[] #[.pointer (some ⟨B, 0, none⟩)]) ∧ w'.cell? ⟨C, 1, none⟩ = some (.map (some r1)) ∧ w'.cell? ⟨C, 2, none⟩ = some (.map (some r2))) ∧ w'.cell? ⟨C + 1, 1, none⟩ = some (.slice aa na ca) ∧ w'.cell? ⟨C + 2, 1, none⟩ = some (.slice ab nb cb) ∧
    (w'.cell? pa = some (.string s1) ∧ w'.cell? ⟨pa.block, pa.off + 1, none⟩ = some v1) ∧ w'.cell? pb = some (.string s2) ∧ w'.cell? ⟨pb.block, pb.off + 1, none⟩ = some v2
theorem GfS.kept {C B r1 r2 : Nat} {aa ab : Option Addr} {na nb ca cb : Nat} {pa pb : Addr} {s1 s2 : ByteArray} {v1 v2 : Value} {w w' : World} (h : GfS C B r1 r2 aa ab na nb ca cb pa pb s1 v1 s2 v2 w) (hk : ∀ x, (x = C ∨ x = C + 1 ∨ x = C + 2 ∨ x = pa.block ∨ x = pb.block) → w'.heap[x]? = w.heap[x]?) : GfS C B r1 r2 aa ab na nb ca cb pa pb s1 v1 s2 v2 w' := by
  obtain ⟨⟨h1, h2, h3⟩, h4, h5, ⟨h6, h7⟩, h8, h9⟩ := h
  have hc : ∀ (p : Addr), (p.block = C ∨ p.block = C + 1 ∨ p.block = C + 2 ∨ p.block = pa.block ∨ p.block = pb.block) → w'.cell? p = w.cell? p := fun p hp => by simp [World.cell?, hk p.block hp]
  exact ⟨⟨(hc _ (by simp)).trans h1, (hc _ (by simp)).trans h2, (hc _ (by simp)).trans h3⟩, (hc _ (by simp)).trans h4, (hc _ (by simp)).trans h5, ⟨(hc _ (by simp)).trans h6, (hc _ (by simp)).trans h7⟩, (hc _ (by simp)).trans h8, (hc _ (by simp)).trans h9⟩

theorem lies_inZ {w : World} {X : Nat → Prop} : ∀ (l : List Tm) (b o : Nat), Lies w X b o l → ∀ (k : Nat), k < l.length → X b
  | ⟨s, m⟩ :: r, b, o, h, _, _ => by
    simp only [Lies] at h
    exact h.1
theorem errL_takeZ (k : Nat) : ∀ {l : List Tm}, errL l = 0 → errL (l.take k) = 0 := by
  induction k with
  | zero => intro l _; simp [errL]
  | succ k ih =>
    intro l h
    cases l with
    | nil => simpa using h
    | cons t r =>
      obtain ⟨h1, h2⟩ := errL_two h
      rw [List.take_succ_cons, errL_cons, if_pos h1]
      exact ih h2

set_option maxHeartbeats 8000000 in
theorem of_any (BT B r r1 r2 : Nat) (hBr : BT ≤ r ∧ BT ≤ r1 ∧ BT ≤ r2) (Y : Nat → Prop) (hY : ∀ x, Y x → ¬ Mps r r1 r2 x) (a : Tm) : ∀ (b : Tm) (h : List Pr) (va vb : Value) (w : World), TV w Y va a → TV w Y vb b → (∀ x, Y x → x < w.heap.size) → GmAt w B r r1 r2 Y h → Tb BT w → errL [a] = 0 → errL [b] = 0 → sizeL [a] ≤ 200 → sizeL [b] ≤ 200 → h.length + sizeL [a] ≤ 100000 →
    Calls Tryd.prog 24 #[.agg #[.func (.func 40) #[] #[.pointer (some ⟨B, 0, none⟩)], .map (some r1), .map (some r2)], va, vb] w fun e w' => GfP B r r1 r2 Y (gnT h a b) w e w' := by
  induction a using Tm.ind with
  | h s l ih =>
    intro b h va vb w ha hb hYw hg hT hea heb hza hzb hlh
    have IH := hide ih
    clear ih
    obtain ⟨a, hae⟩ : ∃ a : Tm, a = ⟨s, l⟩ := ⟨_, rfl⟩
    rw [← hae] at ha hea hza hlh ⊢
    have HAE : Hid (a.name = s ∧ a.args = l) := by rw [hae]; exact ⟨rfl, rfl⟩
    obtain ⟨aa, ca, rfl, hsa⟩ := ha
    obtain ⟨ab, cb, rfl, hsb⟩ := hb
    have HSA := hide hsa
    have HSB := hide hsb
    have HYW := hide hYw
    have HY := hide hY
    have HG := hide hg
    have HT := hide hT
    have HM := hide (mps_lt hg)
    have HBL : Hid (B < w.heap.size) := hg.nm.box.lt
    have hBw : BT ≤ w.heap.size := by have := hg.nm.map.lt; omega
    have hla := hsa.1
    have hlb := hsb.1
    have HEA := hide hea
    have HEB := hide heb
    have SYM := hide (sameSymbol_any a b (.agg #[.string a.name, .slice aa a.args.length ca]) (.agg #[.string b.name, .slice ab b.args.length cb]))
    have VAR := hide (variable_any BT B r r1 r2 hBr h a b (.agg #[.string a.name, .slice aa a.args.length ca]) (.agg #[.string b.name, .slice ab b.args.length cb]))
    have HLH := hide hlh
    have HZA := hide hza
    have HZB := hide hzb
    clear hsa hsb hYw hg hT hea heb hae hlh hza hzb
    have W4 : Hid (Below w.heap.size w ((((w.alloc (.cells #[.func (.func 40) #[] #[.pointer (some ⟨B, 0, none⟩)], .map (some r1), .map (some r2)] 61)).alloc (.cells #[.string a.name, .slice aa a.args.length ca] 24)).alloc (.cells #[.string b.name, .slice ab b.args.length cb] 24)).alloc (.cells #[.string ⟨#[]⟩, .slice none 0 0] 24))) := ((((Below.refl _ _).alloc (Nat.le_refl _) _).alloc (by simp) _).alloc (by simp; omega) _).alloc (by simp; omega) _
    have KC : Hid (Blk ((((w.alloc (.cells #[.func (.func 40) #[] #[.pointer (some ⟨B, 0, none⟩)], .map (some r1), .map (some r2)] 61)).alloc (.cells #[.string a.name, .slice aa a.args.length ca] 24)).alloc (.cells #[.string b.name, .slice ab b.args.length cb] 24)).alloc (.cells #[.string ⟨#[]⟩, .slice none 0 0] 24)) w.heap.size #[.func (.func 40) #[] #[.pointer (some ⟨B, 0, none⟩)], .map (some r1), .map (some r2)] 61) := (((Blk.new w _ _).alloc _).alloc _).alloc _
    have KA : Hid (Blk ((((w.alloc (.cells #[.func (.func 40) #[] #[.pointer (some ⟨B, 0, none⟩)], .map (some r1), .map (some r2)] 61)).alloc (.cells #[.string a.name, .slice aa a.args.length ca] 24)).alloc (.cells #[.string b.name, .slice ab b.args.length cb] 24)).alloc (.cells #[.string ⟨#[]⟩, .slice none 0 0] 24)) (w.heap.size + 1) #[.string a.name, .slice aa a.args.length ca] 24) := by
      have h := ((Blk.new (w.alloc (.cells #[.func (.func 40) #[] #[.pointer (some ⟨B, 0, none⟩)], .map (some r1), .map (some r2)] 61)) #[.string a.name, .slice aa a.args.length ca] 24).alloc (.cells #[.string b.name, .slice ab b.args.length cb] 24)).alloc (.cells #[.string ⟨#[]⟩, .slice none 0 0] 24)
      rw [World.size_alloc] at h
      exact h
    have KB : Hid (Blk ((((w.alloc (.cells #[.func (.func 40) #[] #[.pointer (some ⟨B, 0, none⟩)], .map (some r1), .map (some r2)] 61)).alloc (.cells #[.string a.name, .slice aa a.args.length ca] 24)).alloc (.cells #[.string b.name, .slice ab b.args.length cb] 24)).alloc (.cells #[.string ⟨#[]⟩, .slice none 0 0] 24)) (w.heap.size + 2) #[.string b.name, .slice ab b.args.length cb] 24) := by
      have h := (Blk.new ((w.alloc (.cells #[.func (.func 40) #[] #[.pointer (some ⟨B, 0, none⟩)], .map (some r1), .map (some r2)] 61)).alloc (.cells #[.string a.name, .slice aa a.args.length ca] 24)) #[.string b.name, .slice ab b.args.length cb] 24).alloc (.cells #[.string ⟨#[]⟩, .slice none 0 0] 24)
      rw [World.size_alloc, World.size_alloc] at h
      exact h
    have KR : Hid (Blk ((((w.alloc (.cells #[.func (.func 40) #[] #[.pointer (some ⟨B, 0, none⟩)], .map (some r1), .map (some r2)] 61)).alloc (.cells #[.string a.name, .slice aa a.args.length ca] 24)).alloc (.cells #[.string b.name, .slice ab b.args.length cb] 24)).alloc (.cells #[.string ⟨#[]⟩, .slice none 0 0] 24)) (w.heap.size + 3) #[.string ⟨#[]⟩, .slice none 0 0] 24) := by
      have h := Blk.new (((w.alloc (.cells #[.func (.func 40) #[] #[.pointer (some ⟨B, 0, none⟩)], .map (some r1), .map (some r2)] 61)).alloc (.cells #[.string a.name, .slice aa a.args.length ca] 24)).alloc (.cells #[.string b.name, .slice ab b.args.length cb] 24)) #[.string ⟨#[]⟩, .slice none 0 0] 24
      rw [World.size_alloc, World.size_alloc, World.size_alloc] at h
      exact h
    have c0 := KA.out.cell 0
    have c1 := KA.out.cell 1
    have d0 := KB.out.cell 0
    have d1 := KB.out.cell 1
    go_enter Tryd.func24, Tryd.ntmps24
    go_wp2_with fail
    generalize ((((w.alloc (.cells #[.func (.func 40) #[] #[.pointer (some ⟨B, 0, none⟩)], .map (some r1), .map (some r2)] 61)).alloc (.cells #[.string a.name, .slice aa a.args.length ca] 24)).alloc (.cells #[.string b.name, .slice ab b.args.length cb] 24)).alloc (.cells #[.string ⟨#[]⟩, .slice none 0 0] 24)) = w4 at *
    refine (SYM.out w4 _ _ ⟨aa, ca, rfl, HSA.out.later W4.out⟩ ⟨ab, cb, rfl, HSB.out.later W4.out⟩).mono ?_
    rintro e w5 ⟨rfl, hb5⟩
    have W5 := hide (W4.out.trans (hb5.mono W4.out.size))
    have KC5 := hide (KC.out.below hb5 KC.out.lt)
    have KA5 := hide (KA.out.below hb5 KA.out.lt)
    have KB5 := hide (KB.out.below hb5 KB.out.lt)
    have KR5 := hide (KR.out.below hb5 KR.out.lt)
    clear hb5 c0 c1 d0 d1 KC KA KB KR SYM
    cases hsy : symB a b with
    | false =>
      have HGN : Hid (gnT h a b = vrP h a b) := by unfold Hid gnT; rw [hsy]; simp
      have c0 := KC5.out.cell 0
      have c1 := KC5.out.cell 1
      have c2 := KC5.out.cell 2
      have d0 := KA5.out.cell 0
      have d1 := KA5.out.cell 1
      have e0 := KB5.out.cell 0
      have e1 := KB5.out.cell 1
      have VR := hide (VAR.out w5 Y ⟨aa, ca, rfl, HSA.out.later W5.out⟩ ⟨ab, cb, rfl, HSB.out.later W5.out⟩ HY.out (fun x hx => by have := HYW.out x hx; have := W5.out.size; omega) (HG.out.later W5.out) (HT.out.on (W5.out.mono hBw)) HEA.out HEB.out HZA.out HZB.out (by have := HLH.out; omega))
      clear hsy
      go_wp2_with fail
      refine VR.out.mono ?_
      rintro e w6 ⟨rfl, hg6, hx6⟩
      have X6 := hide ((ExQ.ofBelow (Q := Mps r r1 r2) W5.out).trans hx6)
      have R6 := hide (KR5.out.exq hx6 (fun hm => by have := HM.out _ hm; omega))
      have G6 := hide hg6
      clear hg6 hx6 c0 c1 c2 d0 d1 e0 e1 VR VAR
      have r0 : w6.cell? ⟨w.heap.size + 3, 0, none⟩ = some (.string ⟨#[]⟩) := R6.out.cell 0
      have q1 : w6.cell? ⟨w.heap.size + 3, 1, none⟩ = some (.slice none 0 0) := R6.out.cell 1
      have rf := R6.out.frozen
      have hRl : w.heap.size + 3 < w6.heap.size := R6.out.lt
      have HVE : Hid ((vrP h a b).1.args = []) := rfl
      generalize vrP h a b = y at *
      go_wp2_with fail
      refine bodyPost_ret (v := .agg #[.string y.1.name, .slice none 0 0]) (by simp [results, Tryd.results24, go_sem, World.cell?_setCell_same, World.cell?_setCell_other, r0, q1, hRl]) rfl ?_
      rw [HGN.out]
      refine ⟨none, 0, by rw [HVE.out]; rfl, by rw [HVE.out]; exact ⟨by simp, Or.inl rfl⟩, G6.out.kept fun x hx hc => ?_, (X6.out.setNew (by omega) _ _).setNew (by omega) _ _⟩
      have hlt : x < w.heap.size := by
        rcases hc with h1 | h1 | h1
        · have := HBL.out; omega
        · exact HM.out x h1
        · exact HYW.out x h1
      rw [Below.heap_setCell _ _ _ _ (by simp; omega), Below.heap_setCell _ _ _ _ (by simp; omega)]
    | true =>
      have HGN : Hid (gnT h a b = (⟨a.name, (gnL h a.args b.args).1⟩, (gnL h a.args b.args).2)) := by unfold Hid gnT; rw [hsy]; simp
      have HLE : Hid (a.args.length = b.args.length) := by
        unfold symB at hsy
        simp only [Bool.and_eq_true, decide_eq_true_eq] at hsy
        exact hsy.2
      have d0 := KA5.out.cell 0
      have d1 := KA5.out.cell 1
      have g1 := (KA5.out.alloc (.cells #[.string a.name, .slice none 0 0] 24)).cell 1
      have O6 : Hid (Blk (w5.alloc (.cells #[.string a.name, .slice none 0 0] 24)) w5.heap.size #[.string a.name, .slice none 0 0] 24) := Blk.new w5 _ _
      have W6 := hide (W5.out.alloc W5.out.size (.cells #[.string a.name, .slice none 0 0] 24))
      have KC6 := hide (KC5.out.alloc (.cells #[.string a.name, .slice none 0 0] 24))
      have KA6 := hide (KA5.out.alloc (.cells #[.string a.name, .slice none 0 0] 24))
      have KB6 := hide (KB5.out.alloc (.cells #[.string a.name, .slice none 0 0] 24))
      have KR6 := hide (KR5.out.alloc (.cells #[.string a.name, .slice none 0 0] 24))
      have G6 := hide (HG.out.later W6.out)
      have SZ6 : Hid (w5.heap.size + 1 ≤ (w5.alloc (.cells #[.string a.name, .slice none 0 0] 24)).heap.size ∧ w.heap.size + 4 ≤ w5.heap.size) := ⟨by simp, by have := KR5.out.lt; omega⟩
      clear hsy VAR
      go_wp2_with fail
      generalize (w5.alloc (.cells #[.string a.name, .slice none 0 0] 24)) = w6 at *
      generalize w5.heap.size = O at *
      clear d0 d1 g1 KC5 KA5 KB5 KR5
      go_loopw [23] (fun i wr => ∃ (k : Nat) (u : Value) (xs : List Value), k ≤ a.args.length ∧ i = .int .i64 (k : Int) ∧ GfI w O B r r1 r2 Y a.name #[.string a.name, .slice aa a.args.length ca] #[.string b.name, .slice ab b.args.length cb] u (gnL h (a.args.take k) (b.args.take k)).1 xs (gnL h (a.args.take k) (b.args.take k)).2 wr) (fun i wr => a.args.length - (intOf i).toNat)
      case atStart => exact ⟨0, .slice none 0 0, [], Nat.zero_le _, rfl, ⟨by have h := Row.start w6 (O + 1) 24 (fun _ => False); simpa [gnL_nil] using h, ExQ.ofBelow W6.out, KC6.out, KA6.out, KB6.out, KR6.out, O6.out, SZ6.out.1, SZ6.out.2, by simpa [gnL_nil] using G6.out⟩⟩
      case round =>
        obtain ⟨k, u9, xs, hk, rfl, hin⟩ := hrel
        have SET := hide hin
        clear hin
        by_cases hlt : k < a.args.length
        · have hltb : k < b.args.length := by have := HLE.out; omega
          obtain ⟨ba, oa, a1, c1, rfl, d0, d1, hxa⟩ := (((HSA.out.exq SET.out.ex HY.out)).mono (Y := fun b => Y b ∧ b < wr.heap.size) fun b h1 h2 => ⟨h1, h2⟩).get (Below.refl wr.heap.size wr) (fun b h _ => h.2) k hlt
          obtain ⟨bb, ob, a2, c2, rfl, e0, e1, hxb⟩ := (((HSB.out.exq SET.out.ex HY.out)).mono (Y := fun b => Y b ∧ b < wr.heap.size) fun b h1 h2 => ⟨h1, h2⟩).get (Below.refl wr.heap.size wr) (fun b h _ => h.2) k hltb
          have hYa : Y ba := by
            obtain ⟨_, h1⟩ := HSA.out
            rcases h1 with h1 | ⟨b', o', e', h1⟩
            · rw [h1] at hlt; simp at hlt
            · cases e'; exact lies_inZ _ _ _ h1 k hlt
          have hYb : Y bb := by
            obtain ⟨_, h1⟩ := HSB.out
            rcases h1 with h1 | ⟨b', o', e', h1⟩
            · rw [h1] at hltb; simp at hltb
            · cases e'; exact lies_inZ _ _ _ h1 k hltb
          have hlt2 : (k : Int) < (a.args.length : Int) := by omega
          have hlt3 : (k : Int) < (b.args.length : Int) := by omega
          have hz1 : sizeL [a.args[k]] ≤ sizeL a.args - sizeL (a.args.take k) := by
            have h1 := sizeL_take a.args k hlt
            have h2 := sizeL_take_le a.args (k + 1)
            omega
          have hz2 : sizeL (a.args.take k) ≤ sizeL a.args := sizeL_take_le a.args k
          have hz3 : sizeL [b.args[k]] ≤ sizeL b.args := by
            have h1 := sizeL_take b.args k hltb
            have h2 := sizeL_take_le b.args (k + 1)
            omega
          have hza : sizeL [a] = 1 + sizeL a.args := by obtain ⟨_, _⟩ := a; simp [sizeL]
          have hzb : sizeL [b] = 1 + sizeL b.args := by obtain ⟨_, _⟩ := b; simp [sizeL]
          have hA2 := HZA.out
          have hB2 := HZB.out
          have hH2 := HLH.out
          have hln := sizeL_len a.args
          have HLN : Hid ((gnL h (a.args.take k) (b.args.take k)).1.length ≤ 1000000) := by unfold Hid; rw [gnL_len _ _ _ (by simp; omega)]; simp; omega
          have hnn := (gn_ok (a.args.take k) (b.args.take k) h (errL_takeZ k (errL_args HEA.out)) (errL_takeZ k (errL_args HEB.out)) HG.out.ok).2
          have HTK := hide (gnL_take h a.args b.args HLE.out k hlt)
          have hea := errL_mem (errL_args HEA.out) k hlt
          have heb := errL_mem (errL_args HEB.out) k hltb
          have hsub : ∀ x, x ∈ a.args → x ∈ l := fun x hx => by rw [← HAE.out.2]; exact hx
          have hmem : a.args[k] ∈ l := hsub _ (List.getElem_mem hlt)
          have CC := SET.out.bc
          have CA := SET.out.ba
          have CB := SET.out.bb
          have HS8 : Hid (GfS w.heap.size B r1 r2 (some ⟨ba, oa, none⟩) (some ⟨bb, ob, none⟩) a.args.length b.args.length ca cb ⟨ba, oa + k * 2, none⟩ ⟨bb, ob + k * 2, none⟩ a.args[k].name (.slice a1 a.args[k].args.length c1) b.args[k].name (.slice a2 b.args[k].args.length c2) wr) := ⟨⟨CC.cell 0, CC.cell 1, CC.cell 2⟩, CA.cell 1, CB.cell 1, ⟨d0, d1⟩, e0, e1⟩
          have KPS : Hid (∀ w', (∀ x, x < w.heap.size + 4 → ¬ Mps r r1 r2 x → w'.heap[x]? = wr.heap[x]?) → GfS w.heap.size B r1 r2 (some ⟨ba, oa, none⟩) (some ⟨bb, ob, none⟩) a.args.length b.args.length ca cb ⟨ba, oa + k * 2, none⟩ ⟨bb, ob + k * 2, none⟩ a.args[k].name (.slice a1 a.args[k].args.length c1) b.args[k].name (.slice a2 b.args[k].args.length c2) w') := fun w' hw => HS8.out.kept fun x hx => by
            have nM : ∀ x, w.heap.size ≤ x → ¬ Mps r r1 r2 x := fun x hx hm => by have := HM.out x hm; omega
            rcases hx with rfl | rfl | rfl | rfl | rfl
            · exact hw _ (by omega) (nM _ (by omega))
            · exact hw _ (by omega) (nM _ (by omega))
            · exact hw _ (by omega) (nM _ (by omega))
            · exact hw _ (by have := HYW.out _ hYa; omega) (HY.out _ hYa)
            · exact hw _ (by have := HYW.out _ hYb; omega) (HY.out _ hYb)
          have IHQ : Hid (Calls Tryd.prog 24 #[.agg #[.func (.func 40) #[] #[.pointer (some ⟨B, 0, none⟩)], .map (some r1), .map (some r2)], .agg #[.string a.args[k].name, .slice a1 a.args[k].args.length c1], .agg #[.string b.args[k].name, .slice a2 b.args[k].args.length c2]] wr.drew fun e w'' => ∃ a' c', e = .returned (.agg #[.string (gnT (gnL h (a.args.take k) (b.args.take k)).2 a.args[k] b.args[k]).1.name, .slice a' (gnT (gnL h (a.args.take k) (b.args.take k)).2 a.args[k] b.args[k]).1.args.length c']) ∧ Sl w'' (fun b => wr.heap.size ≤ b) a' (gnT (gnL h (a.args.take k) (b.args.take k)).2 a.args[k] b.args[k]).1.args ∧ GmAt w'' B r r1 r2 Y (gnT (gnL h (a.args.take k) (b.args.take k)).2 a.args[k] b.args[k]).2 ∧ ExQ (Mps r r1 r2) wr w'') := (IH.out a.args[k] hmem b.args[k] _ _ _ wr.drew ((hxa.mono (Y := Y) fun b h _ => h.1).later ((Below.refl wr.heap.size wr).drew)) ((hxb.mono (Y := Y) fun b h _ => h.1).later ((Below.refl wr.heap.size wr).drew)) (fun x hx => by have := HYW.out x hx; have := SET.out.ex.size; show x < wr.heap.size; omega) (SET.out.gm.later ((Below.refl wr.heap.size wr).drew)) ((HT.out.on (SET.out.ex.below hBw (fun b hb => by rcases hb with rfl | rfl | rfl <;> omega))).on ((Below.refl BT wr).drew)) hea heb (by omega) (by omega) (by omega)).mono fun e w'' hp => by
              obtain ⟨a1, c1, h1, h2, h3, h4⟩ := hp
              exact ⟨a1, c1, h1, h2, h3, ((ExQ.refl _ wr).drew).trans h4⟩
          have hal := SET.out.ba.cell 1
          clear hln hsub hxa hxb d0 d1 e0 e1 hz1 hz2 hz3 hza hzb hA2 hB2 hH2 hnn hea heb hmem CC CA CB hYa hYb
          generalize gnT (gnL h (a.args.take k) (b.args.take k)).2 a.args[k] b.args[k] = y at *
          clear hal
          go_upto_region 7 with fail
          have HSd : Hid (GfS w.heap.size B r1 r2 (some ⟨ba, oa, none⟩) (some ⟨bb, ob, none⟩) a.args.length b.args.length ca cb ⟨ba, oa + k * 2, none⟩ ⟨bb, ob + k * 2, none⟩ a.args[k].name (.slice a1 a.args[k].args.length c1) b.args[k].name (.slice a2 b.args[k].args.length c2) wr.drew) := HS8.out
          refine wp_region_held_drew (S := GfS w.heap.size B r1 r2 (some ⟨ba, oa, none⟩) (some ⟨bb, ob, none⟩) a.args.length b.args.length ca cb ⟨ba, oa + k * 2, none⟩ ⟨bb, ob + k * 2, none⟩ a.args[k].name (.slice a1 a.args[k].args.length c1) b.args[k].name (.slice a2 b.args[k].args.length c2)) (by kernel_rfl) HSd.out (fun hHeld => ?_)
          refine wpAnyH_take (i := 0) (v := ?_) rfl (by kernel_rfl) (by kernel_rfl) (by kernel_rfl) (fun _ _ _ h => h) (Or.inl ⟨by rfl, ?_⟩) (by assumption) ?_
          rotate_left
          · intro w' hSw
            go_simp <;> with_reducible rfl
          try simp only [Act.put, List.setIfInBounds_toArray, List.set_cons_zero, List.set_cons_succ, List.getElem_toArray, List.getElem_cons_succ, List.getElem_cons_zero]
          refine wpAnyH_take (i := 2) (v := ?_) rfl (by kernel_rfl) (by kernel_rfl) (by kernel_rfl) (fun _ _ _ h => h) (Or.inl ⟨by rfl, ?_⟩) (by assumption) ?_
          rotate_left
          · intro w' hSw
            obtain ⟨⟨x0, x1, x2⟩, x3, x4, ⟨x5, x6⟩, x7, x8⟩ := hSw
            go_simp <;> with_reducible rfl
          try simp only [Act.put, List.setIfInBounds_toArray, List.set_cons_zero, List.set_cons_succ, List.getElem_toArray, List.getElem_cons_succ, List.getElem_cons_zero]
          refine wpAnyH_take (i := 3) (v := ?_) rfl (by kernel_rfl) (by kernel_rfl) (by kernel_rfl) (fun _ _ _ h => h) (Or.inl ⟨by rfl, ?_⟩) (by assumption) ?_
          rotate_left
          · intro w' hSw
            go_simp <;> with_reducible rfl
          try simp only [Act.put, List.setIfInBounds_toArray, List.set_cons_zero, List.set_cons_succ, List.getElem_toArray, List.getElem_cons_succ, List.getElem_cons_zero]
          refine wpAnyH_take (i := 4) (v := ?_) rfl (by kernel_rfl) (by kernel_rfl) (by kernel_rfl) (fun _ _ _ h => h) (Or.inl ⟨by rfl, ?_⟩) (by assumption) ?_
          rotate_left
          · intro w' hSw
            obtain ⟨⟨x0, x1, x2⟩, x3, x4, ⟨x5, x6⟩, x7, x8⟩ := hSw
            go_simp <;> with_reducible rfl
          try simp only [Act.put, List.setIfInBounds_toArray, List.set_cons_zero, List.set_cons_succ, List.getElem_toArray, List.getElem_cons_succ, List.getElem_cons_zero]
          refine wpAnyH_take (i := 5) (v := ?_) rfl (by kernel_rfl) (by kernel_rfl) (by kernel_rfl) (fun _ _ _ h => h) (Or.inl ⟨by rfl, ?_⟩) (by assumption) ?_
          rotate_left
          · intro w' hSw
            go_simp <;> with_reducible rfl
          try simp only [Act.put, List.setIfInBounds_toArray, List.set_cons_zero, List.set_cons_succ, List.getElem_toArray, List.getElem_cons_succ, List.getElem_cons_zero]
          refine wpAnyH_take (i := 6) (v := ?_) rfl (by kernel_rfl) (by kernel_rfl) (by kernel_rfl) (fun _ _ _ h => h) (Or.inl ⟨by rfl, ?_⟩) (by assumption) ?_
          rotate_left
          · intro w' hSw
            go_simp <;> with_reducible rfl
          try simp only [Act.put, List.setIfInBounds_toArray, List.set_cons_zero, List.set_cons_succ, List.getElem_toArray, List.getElem_cons_succ, List.getElem_cons_zero]
          refine wpAnyH_take (i := 7) (v := ?_) rfl (by kernel_rfl) (by kernel_rfl) (by kernel_rfl) (fun _ _ _ h => h) (Or.inl ⟨by rfl, ?_⟩) (by assumption) ?_
          rotate_left
          · intro w' hSw
            obtain ⟨⟨x0, x1, x2⟩, x3, x4, ⟨x5, x6⟩, x7, x8⟩ := hSw
            go_simp <;> with_reducible rfl
          try simp only [Act.put, List.setIfInBounds_toArray, List.set_cons_zero, List.set_cons_succ, List.getElem_toArray, List.getElem_cons_succ, List.getElem_cons_zero]
          refine wpAnyH_take (i := 8) (v := ?_) rfl (by kernel_rfl) (by kernel_rfl) (by kernel_rfl) (fun _ _ _ h => h) (Or.inl ⟨by rfl, ?_⟩) (by assumption) ?_
          rotate_left
          · intro w' hSw
            go_simp <;> with_reducible rfl
          try simp only [Act.put, List.setIfInBounds_toArray, List.set_cons_zero, List.set_cons_succ, List.getElem_toArray, List.getElem_cons_succ, List.getElem_cons_zero]
          refine wpAnyH_take (i := 9) (v := ?_) rfl (by kernel_rfl) (by kernel_rfl) (by kernel_rfl) (fun _ _ _ h => h) (Or.inl ⟨by rfl, ?_⟩) (by assumption) ?_
          rotate_left
          · intro w' hSw
            obtain ⟨⟨x0, x1, x2⟩, x3, x4, ⟨x5, x6⟩, x7, x8⟩ := hSw
            go_simp <;> with_reducible rfl
          try simp only [Act.put, List.setIfInBounds_toArray, List.set_cons_zero, List.set_cons_succ, List.getElem_toArray, List.getElem_cons_succ, List.getElem_cons_zero]
          refine wpAnyH_take (i := 10) (v := ?_) rfl (by kernel_rfl) (by kernel_rfl) (by kernel_rfl) (fun _ _ _ h => h) (Or.inl ⟨by rfl, ?_⟩) (by assumption) ?_
          rotate_left
          · intro w' hSw
            go_simp <;> with_reducible rfl
          try simp only [Act.put, List.setIfInBounds_toArray, List.set_cons_zero, List.set_cons_succ, List.getElem_toArray, List.getElem_cons_succ, List.getElem_cons_zero]
          refine wpAnyH_take (i := 11) (v := ?_) rfl (by kernel_rfl) (by kernel_rfl) (by kernel_rfl) (fun _ _ _ h => h) (Or.inl ⟨by rfl, ?_⟩) (by assumption) ?_
          rotate_left
          · intro w' hSw
            go_simp <;> with_reducible rfl
          try simp only [Act.put, List.setIfInBounds_toArray, List.set_cons_zero, List.set_cons_succ, List.getElem_toArray, List.getElem_cons_succ, List.getElem_cons_zero]
          refine wpAnyH_take (i := 12) (v := ?_) rfl (by kernel_rfl) (by kernel_rfl) (by kernel_rfl) (fun _ _ _ h => h) (Or.inl ⟨by rfl, ?_⟩) (by assumption) ?_
          rotate_left
          · intro w' hSw
            obtain ⟨⟨x0, x1, x2⟩, x3, x4, ⟨x5, x6⟩, x7, x8⟩ := hSw
            go_simp <;> with_reducible rfl
          try simp only [Act.put, List.setIfInBounds_toArray, List.set_cons_zero, List.set_cons_succ, List.getElem_toArray, List.getElem_cons_succ, List.getElem_cons_zero]
          have ob4 : wr.drew.cell? ⟨O, 1, none⟩ = some u9 := SET.out.out.cell 1
          refine wpAnyH_ready (rs := [1, 13]) (by kernel_rfl) (by simp) ?_
          refine AllReadyH.cons rfl (fun K hK => ?_) (AllReadyH.cons rfl (fun K hK => ?_) AllReadyH.nil)
          · go_simp
            refine hK.out _ _ (by exact HSd.out) (fun hHeld => ?_)
            clear hK K
            try simp only [Act.put, List.setIfInBounds_toArray, List.set_cons_zero, List.set_cons_succ, List.getElem_toArray, List.getElem_cons_succ, List.getElem_cons_zero]
            refine wpAnyH_ready (rs := [13]) (by kernel_rfl) (by simp) ?_
            refine AllReadyH.cons rfl (fun K hK => ?_) AllReadyH.nil
            go_simp
            go_at_call 24
            refine IHQ.out.mono ?_
            rintro e w7 ⟨a5, c5, rfl, hs5, hn5, hx5⟩
            obtain ⟨g, cap, w3, hrun, p5, p6, o3, of, ol, KK, hset⟩ := gf_round (t := y.1) (c5 := c5) HM.out HBL.out HYW.out SET.out HLN.out hx5 hs5 hn5
            have HRUN := hide hrun
            have HSET := hide hset
            have S1h := hide (KPS.out _ fun x h1 h2 => (KK x h1 h2).1)
            have S2h := hide (KPS.out _ fun x h1 h2 => (KK x h1 h2).2.1)
            have S3h := hide (KPS.out _ fun x h1 h2 => (KK x h1 h2).2.2.1)
            have S4h := hide (KPS.out _ fun x h1 h2 => (KK x h1 h2).2.2.2)
            clear hrun hset hs5 hn5 hx5 KK
            go_simp
            refine hK.out _ _ (by exact S1h.out) (fun hHeld => ?_)
            clear hK K
            try simp only [Act.put, List.setIfInBounds_toArray, List.set_cons_zero, List.set_cons_succ, List.getElem_toArray, List.getElem_cons_succ, List.getElem_cons_zero]
            refine wpAnyH_ready (rs := [14]) (by kernel_rfl) (by simp) ?_
            refine AllReadyH.cons rfl (fun K hK => ?_) AllReadyH.nil
            go_simp
            refine hK.out _ _ (by exact S2h.out) (fun hHeld => ?_)
            clear hK K
            try simp only [Act.put, List.setIfInBounds_toArray, List.set_cons_zero, List.set_cons_succ, List.getElem_toArray, List.getElem_cons_succ, List.getElem_cons_zero]
            refine wpAnyH_ready (rs := [15]) (by kernel_rfl) (by simp) ?_
            refine AllReadyH.cons rfl (fun K hK => ?_) AllReadyH.nil
            refine step_append_eqM rfl _ _ _ _ rfl rfl rfl HRUN.out ?_
            refine hK.out _ _ (by exact S3h.out) (fun hHeld => ?_)
            clear hK K
            try simp only [Act.put, List.setIfInBounds_toArray, List.set_cons_zero, List.set_cons_succ, List.getElem_toArray, List.getElem_cons_succ, List.getElem_cons_zero]
            refine wpAnyH_take (i := 16) (v := ?_) rfl (by kernel_rfl) (by kernel_rfl) (by kernel_rfl) (fun _ _ _ h => h) (Or.inl ⟨by rfl, ?_⟩) (by assumption) ?_
            rotate_left
            · intro w' hSw
              go_simp <;> with_reducible rfl
            try simp only [Act.put, List.setIfInBounds_toArray, List.set_cons_zero, List.set_cons_succ, List.getElem_toArray, List.getElem_cons_succ, List.getElem_cons_zero]
            refine wpAnyH_ready (rs := [17]) (by kernel_rfl) (by simp) ?_
            refine AllReadyH.cons rfl (fun K hK => ?_) AllReadyH.nil
            go_simp
            refine hK.out _ _ (by exact S4h.out) (fun hHeld => ?_)
            clear hK K
            try simp only [Act.put, List.setIfInBounds_toArray, List.set_cons_zero, List.set_cons_succ, List.getElem_toArray, List.getElem_cons_succ, List.getElem_cons_zero]
            refine wpAnyH_done (by kernel_rfl) ?_ _
            clear o3 of ol p5 p6 ob4
            go_wp2_with fail
            go_roundw
            case rel => exact ⟨k + 1, _, _, by omega, by go_num, by rw [HTK.out]; exact HSET.out⟩
            case measure => simp [intOf]; omega
          · go_simp
            go_at_call 24
            refine IHQ.out.mono ?_
            rintro e w7 ⟨a5, c5, rfl, hs5, hn5, hx5⟩
            obtain ⟨g, cap, w3, hrun, p5, p6, o3, of, ol, KK, hset⟩ := gf_round (t := y.1) (c5 := c5) HM.out HBL.out HYW.out SET.out HLN.out hx5 hs5 hn5
            have HRUN := hide hrun
            have HSET := hide hset
            have S1h := hide (KPS.out _ fun x h1 h2 => (KK x h1 h2).1)
            have S2h := hide (KPS.out _ fun x h1 h2 => (KK x h1 h2).2.1)
            have S3h := hide (KPS.out _ fun x h1 h2 => (KK x h1 h2).2.2.1)
            have S4h := hide (KPS.out _ fun x h1 h2 => (KK x h1 h2).2.2.2)
            clear hrun hset hs5 hn5 hx5 KK
            go_simp
            refine hK.out _ _ (by exact S1h.out) (fun hHeld => ?_)
            clear hK K
            try simp only [Act.put, List.setIfInBounds_toArray, List.set_cons_zero, List.set_cons_succ, List.getElem_toArray, List.getElem_cons_succ, List.getElem_cons_zero]
            refine wpAnyH_ready (rs := [1, 14]) (by kernel_rfl) (by simp) ?_
            refine AllReadyH.cons rfl (fun K hK => ?_) (AllReadyH.cons rfl (fun K hK => ?_) AllReadyH.nil)
            · go_simp
              refine hK.out _ _ (by exact S1h.out) (fun hHeld => ?_)
              clear hK K
              try simp only [Act.put, List.setIfInBounds_toArray, List.set_cons_zero, List.set_cons_succ, List.getElem_toArray, List.getElem_cons_succ, List.getElem_cons_zero]
              refine wpAnyH_ready (rs := [14]) (by kernel_rfl) (by simp) ?_
              refine AllReadyH.cons rfl (fun K hK => ?_) AllReadyH.nil
              go_simp
              refine hK.out _ _ (by exact S2h.out) (fun hHeld => ?_)
              clear hK K
              try simp only [Act.put, List.setIfInBounds_toArray, List.set_cons_zero, List.set_cons_succ, List.getElem_toArray, List.getElem_cons_succ, List.getElem_cons_zero]
              refine wpAnyH_ready (rs := [15]) (by kernel_rfl) (by simp) ?_
              refine AllReadyH.cons rfl (fun K hK => ?_) AllReadyH.nil
              refine step_append_eqM rfl _ _ _ _ rfl rfl rfl HRUN.out ?_
              refine hK.out _ _ (by exact S3h.out) (fun hHeld => ?_)
              clear hK K
              try simp only [Act.put, List.setIfInBounds_toArray, List.set_cons_zero, List.set_cons_succ, List.getElem_toArray, List.getElem_cons_succ, List.getElem_cons_zero]
              refine wpAnyH_take (i := 16) (v := ?_) rfl (by kernel_rfl) (by kernel_rfl) (by kernel_rfl) (fun _ _ _ h => h) (Or.inl ⟨by rfl, ?_⟩) (by assumption) ?_
              rotate_left
              · intro w' hSw
                go_simp <;> with_reducible rfl
              try simp only [Act.put, List.setIfInBounds_toArray, List.set_cons_zero, List.set_cons_succ, List.getElem_toArray, List.getElem_cons_succ, List.getElem_cons_zero]
              refine wpAnyH_ready (rs := [17]) (by kernel_rfl) (by simp) ?_
              refine AllReadyH.cons rfl (fun K hK => ?_) AllReadyH.nil
              go_simp
              refine hK.out _ _ (by exact S4h.out) (fun hHeld => ?_)
              clear hK K
              try simp only [Act.put, List.setIfInBounds_toArray, List.set_cons_zero, List.set_cons_succ, List.getElem_toArray, List.getElem_cons_succ, List.getElem_cons_zero]
              refine wpAnyH_done (by kernel_rfl) ?_ _
              clear o3 of ol p5 p6 ob4
              go_wp2_with fail
              go_roundw
              case rel => exact ⟨k + 1, _, _, by omega, by go_num, by rw [HTK.out]; exact HSET.out⟩
              case measure => simp [intOf]; omega
            · go_simp
              refine hK.out _ _ (by exact S2h.out) (fun hHeld => ?_)
              clear hK K
              try simp only [Act.put, List.setIfInBounds_toArray, List.set_cons_zero, List.set_cons_succ, List.getElem_toArray, List.getElem_cons_succ, List.getElem_cons_zero]
              refine wpAnyH_ready (rs := [1]) (by kernel_rfl) (by simp) ?_
              refine AllReadyH.cons rfl (fun K hK => ?_) AllReadyH.nil
              go_simp
              refine hK.out _ _ (by exact S2h.out) (fun hHeld => ?_)
              clear hK K
              try simp only [Act.put, List.setIfInBounds_toArray, List.set_cons_zero, List.set_cons_succ, List.getElem_toArray, List.getElem_cons_succ, List.getElem_cons_zero]
              refine wpAnyH_ready (rs := [15]) (by kernel_rfl) (by simp) ?_
              refine AllReadyH.cons rfl (fun K hK => ?_) AllReadyH.nil
              refine step_append_eqM rfl _ _ _ _ rfl rfl rfl HRUN.out ?_
              refine hK.out _ _ (by exact S3h.out) (fun hHeld => ?_)
              clear hK K
              try simp only [Act.put, List.setIfInBounds_toArray, List.set_cons_zero, List.set_cons_succ, List.getElem_toArray, List.getElem_cons_succ, List.getElem_cons_zero]
              refine wpAnyH_take (i := 16) (v := ?_) rfl (by kernel_rfl) (by kernel_rfl) (by kernel_rfl) (fun _ _ _ h => h) (Or.inl ⟨by rfl, ?_⟩) (by assumption) ?_
              rotate_left
              · intro w' hSw
                go_simp <;> with_reducible rfl
              try simp only [Act.put, List.setIfInBounds_toArray, List.set_cons_zero, List.set_cons_succ, List.getElem_toArray, List.getElem_cons_succ, List.getElem_cons_zero]
              refine wpAnyH_ready (rs := [17]) (by kernel_rfl) (by simp) ?_
              refine AllReadyH.cons rfl (fun K hK => ?_) AllReadyH.nil
              go_simp
              refine hK.out _ _ (by exact S4h.out) (fun hHeld => ?_)
              clear hK K
              try simp only [Act.put, List.setIfInBounds_toArray, List.set_cons_zero, List.set_cons_succ, List.getElem_toArray, List.getElem_cons_succ, List.getElem_cons_zero]
              refine wpAnyH_done (by kernel_rfl) ?_ _
              clear o3 of ol p5 p6 ob4
              go_wp2_with fail
              go_roundw
              case rel => exact ⟨k + 1, _, _, by omega, by go_num, by rw [HTK.out]; exact HSET.out⟩
              case measure => simp [intOf]; omega
        · have hge : ¬ ((k : Int) < (a.args.length : Int)) := by omega
          have htk : a.args.take k = a.args := List.take_of_length_le (by omega)
          have htb : b.args.take k = b.args := List.take_of_length_le (by have := HLE.out; omega)
          rw [htk, htb] at SET
          obtain ⟨ae, ce, rfl, hse⟩ := SET.out.row.sl
          have HSE := hide hse
          clear hse htk htb
          have o0 : wr.cell? ⟨O, 0, none⟩ = some (.string a.name) := SET.out.out.cell 0
          have o1 := SET.out.out.cell 1
          have r0 : wr.cell? ⟨w.heap.size + 3, 0, none⟩ = some (.string ⟨#[]⟩) := SET.out.res.cell 0
          have q1 : wr.cell? ⟨w.heap.size + 3, 1, none⟩ = some (.slice none 0 0) := SET.out.res.cell 1
          have rf := SET.out.res.frozen
          have hRl : w.heap.size + 3 < wr.heap.size := SET.out.res.lt
          go_wp2_with fail
          refine bodyPost_ret (v := .agg #[.string a.name, .slice ae (gnL h a.args b.args).1.length ce]) (by simp [results, Tryd.results24, go_sem, World.cell?_setCell_same, World.cell?_setCell_other, r0, q1, hRl]) rfl ?_
          rw [HGN.out]
          have hbs := SET.out.ol
          refine ⟨ae, ce, rfl, (HSE.out.kept fun b hb => ?_).mono fun b hb _ => ?_, SET.out.gm.kept fun x hx hc => ?_, (SET.out.ex.setNew (by omega) _ _).setNew (by omega) _ _⟩
          · have hbn : b ≠ w.heap.size + 3 := by
              rcases hb with h | h
              · exact h.elim
              · omega
            rw [Below.heap_setCell _ _ _ _ (by simpa using hbn), Below.heap_setCell _ _ _ _ (by simpa using hbn)]
          · rcases hb with h | h
            · exact h.elim
            · omega
          · have hlt : x < w.heap.size := by
              rcases hc with h1 | h1 | h1
              · have := HBL.out; omega
              · exact HM.out x h1
              · exact HYW.out x h1
            rw [Below.heap_setCell _ _ _ _ (by simp; omega), Below.heap_setCell _ _ _ _ (by simp; omega)]
end Go.Proofs.YtakmclheffbeaaaDoor

/- Walks: general.Canon, general.General. -/
namespace Go.Proofs.YtakmclheffbeaaaDoor
open Go.RowKit
set_option linter.unusedSimpArgs false
set_option linter.unusedVariables false
set_option maxRecDepth 8000

theorem may_partsZ {t : Tm} (h : mayE t = 0) : errL [t] = 0 ∧ sizeL [t] ≤ 200 := by
  unfold mayE at h
  split at h
  · cases h
  · exact ⟨h, by omega⟩
/-- What Canon tells. -/
def CnP (t : Tm) (w : World) (e : Ending) (w' : World) : Prop :=
  Below w.heap.size w w' ∧ ((mayE t = 0 ∧ ∃ a c, e = .returned (.tuple #[.agg #[.string (renT [] t).1.name, .slice a (renT [] t).1.args.length c], .int .i64 0]) ∧ Sl w' (fun b => w.heap.size ≤ b) a (renT [] t).1.args) ∨ (mayE t ≠ 0 ∧ e = .returned (.tuple #[.agg #[.string ⟨#[]⟩, .slice none 0 0], .int .i64 (mayE t)])))

set_option maxHeartbeats 4000000 in
theorem gCanon_any (a : Tm) (v : Value) (w : World) (X : Nat → Prop) (hv : TV w X v a) (hT : Tb w.heap.size w) :
    Calls Tryd.prog 15 #[v] w fun e w' => CnP a w e w' := by
  obtain ⟨aa, ca, rfl, hsa⟩ := hv
  obtain ⟨Y, hYd⟩ : ∃ Y : Nat → Prop, Y = fun b => X b ∧ b < w.heap.size := ⟨_, rfl⟩
  have V0 : Hid (∀ w', Below w.heap.size w w' → TV w' Y (.agg #[.string a.name, .slice aa a.args.length ca]) a) := fun w' hb => by rw [hYd]; exact ⟨aa, ca, rfl, (hsa.mono (Y := fun b => X b ∧ b < w.heap.size) fun b h1 h2 => ⟨h1, h2⟩).below hb (fun b h _ => h.2)⟩
  have HYW : Hid (∀ x, Y x → x < w.heap.size) := fun x hx => by rw [hYd] at hx; exact hx.2
  have HT := hide hT
  clear hsa hYd hT
  have HB2 : Hid (Below w.heap.size w ((w.alloc (.cells #[.string a.name, .slice aa a.args.length ca] 24)).alloc (.cells #[.string ⟨#[]⟩, .slice none 0 0] 24))) := ((Below.refl _ _).alloc (Nat.le_refl _) _).alloc (by simp) _
  have KA : Hid (Blk ((w.alloc (.cells #[.string a.name, .slice aa a.args.length ca] 24)).alloc (.cells #[.string ⟨#[]⟩, .slice none 0 0] 24)) w.heap.size #[.string a.name, .slice aa a.args.length ca] 24) := (Blk.new w _ _).alloc _
  have KR : Hid (Blk ((w.alloc (.cells #[.string a.name, .slice aa a.args.length ca] 24)).alloc (.cells #[.string ⟨#[]⟩, .slice none 0 0] 24)) (w.heap.size + 1) #[.string ⟨#[]⟩, .slice none 0 0] 24) := by
    have h := Blk.new (w.alloc (.cells #[.string a.name, .slice aa a.args.length ca] 24)) #[.string ⟨#[]⟩, .slice none 0 0] 24
    rw [World.size_alloc] at h
    exact h
  have c0 := KA.out.cell 0
  have c1 := KA.out.cell 1
  have CK := hide (check_any a _ ((w.alloc (.cells #[.string a.name, .slice aa a.args.length ca] 24)).alloc (.cells #[.string ⟨#[]⟩, .slice none 0 0] 24)) _ (V0.out _ HB2.out))
  go_enter Tryd.func15, Tryd.ntmps15
  go_wp2_with fail
  generalize ((w.alloc (.cells #[.string a.name, .slice aa a.args.length ca] 24)).alloc (.cells #[.string ⟨#[]⟩, .slice none 0 0] 24)) = w2 at *
  refine CK.out.mono ?_
  rintro e w3 ⟨rfl, hb3⟩
  have HB3 := hide (HB2.out.trans (hb3.mono HB2.out.size))
  have KA3 := hide (KA.out.below hb3 KA.out.lt)
  have KR3 := hide (KR.out.below hb3 KR.out.lt)
  clear hb3 c0 c1 KA KR CK
  by_cases he : mayE a = 0
  · obtain ⟨hee, hzz⟩ := may_partsZ he
    rw [he]
    have HE := hide he
    clear he hee
    have KP : Hid (∀ w', Below w3.heap.size w3 w' → w'.cell? ⟨w.heap.size, 0, none⟩ = some (.string a.name) ∧ w'.cell? ⟨w.heap.size, 1, none⟩ = some (.slice aa a.args.length ca)) := fun w' hb => ⟨(KA3.out.below hb KA3.out.lt).cell 0, (KA3.out.below hb KA3.out.lt).cell 1⟩
    have kd : Below w3.heap.size w3 w3.drew := (Below.refl _ _).drew
    have HSd := hide (KP.out _ kd)
    go_upto_region 4 with fail
    refine wp_region_held_drew (S := (fun w' => w'.cell? ⟨w.heap.size, 0, none⟩ = some (.string a.name) ∧ w'.cell? ⟨w.heap.size, 1, none⟩ = some (.slice aa a.args.length ca))) (by kernel_rfl) HSd.out (fun hHeld => ?_)
    refine wpAnyH_take (i := 0) (v := ?_) rfl (by kernel_rfl) (by kernel_rfl) (by kernel_rfl) (fun _ _ _ h => h) (Or.inl ⟨by rfl, ?_⟩) (by assumption) ?_
    rotate_left
    · intro w' hSw
      obtain ⟨x0, x1⟩ := hSw
      go_simp <;> with_reducible rfl
    try simp only [Act.put, List.setIfInBounds_toArray, List.set_cons_zero, List.set_cons_succ, List.getElem_toArray, List.getElem_cons_succ, List.getElem_cons_zero]
    refine wpAnyH_ready (rs := [1]) (by kernel_rfl) (by simp) ?_
    refine AllReadyH.cons rfl (fun K hK => ?_) AllReadyH.nil
    go_simp
    go_at_call 23
    refine (newNamer_any _).mono ?_
    rintro e w4 ⟨B, r, rfl, hn4, hr4, hB4, hb4⟩
    have k4 : Below w3.heap.size w3 w4 := kd.trans (hb4.mono kd.size)
    have hrl : w3.heap.size ≤ r := hr4
    have HB4 := hide (HB3.out.trans (k4.mono HB3.out.size))
    have RN := hide (rename_any w.heap.size B r (by have := HB3.out.size; omega) a _ [] w4 Y (V0.out _ HB4.out) (fun x hx e => by have := HYW.out x hx; have := HB3.out.size; omega) hn4 (HT.out.on HB4.out) (by simp; omega))
    have R4 := hide (KR3.out.below k4 KR3.out.lt)
    have HRL : Hid (w3.heap.size ≤ r ∧ w3.heap.size ≤ B) := ⟨hr4, hB4⟩
    clear hn4 hr4 hB4 hb4 hrl
    go_simp
    refine hK.out _ _ (by exact KP.out _ k4) (fun hHeld => ?_)
    clear hK K
    try simp only [Act.put, List.setIfInBounds_toArray, List.set_cons_zero, List.set_cons_succ, List.getElem_toArray, List.getElem_cons_succ, List.getElem_cons_zero]
    refine wpAnyH_ready (rs := [2]) (by kernel_rfl) (by simp) ?_
    refine AllReadyH.cons rfl (fun K hK => ?_) AllReadyH.nil
    go_simp
    go_at_call 34
    refine RN.out.mono ?_
    rintro e w5 ⟨a5, c5, rfl, hs5, hn5, hx5⟩
    have X5 : Hid (Below w3.heap.size w3 w5) := k4.trans (hx5.below k4.size (fun b hb => by have := HRL.out; omega))
    have S5 := hide hs5
    have R5 := hide (R4.out.exq hx5 (by have := HRL.out; have := KR3.out.lt; omega))
    have HQ5 := hide hx5
    clear hs5 hn5 hx5 RN
    obtain ⟨y, hy⟩ : ∃ y, y = renT [] a := ⟨_, rfl⟩
    rw [← hy] at S5
    rw [← hy]
    have HYE := hide hy
    clear hy
    have q0 : w5.cell? ⟨w.heap.size + 1, 0, none⟩ = some (.string ⟨#[]⟩) := R5.out.cell 0
    have q1 : w5.cell? ⟨w.heap.size + 1, 1, none⟩ = some (.slice none 0 0) := R5.out.cell 1
    have qf := R5.out.frozen
    have hRl : w.heap.size + 1 < w5.heap.size := R5.out.lt
    go_simp
    refine hK.out _ _ (by exact KP.out _ X5.out) (fun hHeld => ?_)
    clear hK K
    try simp only [Act.put, List.setIfInBounds_toArray, List.set_cons_zero, List.set_cons_succ, List.getElem_toArray, List.getElem_cons_succ, List.getElem_cons_zero]
    have HS6 : Hid (((w5.setCell ⟨w.heap.size + 1, 0, none⟩ (.string y.1.name)).setCell ⟨w.heap.size + 1, 1, none⟩ (.slice a5 y.1.args.length c5)).cell? ⟨w.heap.size, 0, none⟩ = some (.string a.name) ∧ ((w5.setCell ⟨w.heap.size + 1, 0, none⟩ (.string y.1.name)).setCell ⟨w.heap.size + 1, 1, none⟩ (.slice a5 y.1.args.length c5)).cell? ⟨w.heap.size, 1, none⟩ = some (.slice aa a.args.length ca)) := by
      have k := ((KA3.out.below X5.out KA3.out.lt).setOther (b' := w.heap.size + 1) 0 (.string y.1.name) (by omega)).setOther (b' := w.heap.size + 1) 1 (.slice a5 y.1.args.length c5) (by omega)
      exact ⟨k.cell 0, k.cell 1⟩
    refine wpAnyH_ready (rs := [3]) (by kernel_rfl) (by simp) ?_
    refine AllReadyH.cons rfl (fun K hK => ?_) AllReadyH.nil
    go_simp
    refine hK.out _ _ (by exact HS6.out) (fun hHeld => ?_)
    clear hK K
    try simp only [Act.put, List.setIfInBounds_toArray, List.set_cons_zero, List.set_cons_succ, List.getElem_toArray, List.getElem_cons_succ, List.getElem_cons_zero]
    refine wpAnyH_take (i := 4) (v := ?_) rfl (by kernel_rfl) (by kernel_rfl) (by kernel_rfl) (fun _ _ _ h => h) (Or.inl ⟨by rfl, ?_⟩) (by assumption) ?_
    rotate_left
    · intro w' hSw
      go_simp <;> with_reducible rfl
    try simp only [Act.put, List.setIfInBounds_toArray, List.set_cons_zero, List.set_cons_succ, List.getElem_toArray, List.getElem_cons_succ, List.getElem_cons_zero]
    refine wpAnyH_done (by kernel_rfl) ?_ _
    go_wp2_with fail
    refine bodyPost_ret (v := .tuple #[.agg #[.string y.1.name, .slice a5 y.1.args.length c5], .int .i64 0]) (by simp [results, Tryd.results15, go_sem, World.cell?_setCell_same, World.cell?_setCell_other, q0, q1, hRl]) rfl ?_
    have hb5 := HB3.out.trans (X5.out.mono HB3.out.size)
    unfold CnP
    rw [← HYE.out]
    refine ⟨(hb5.setCell (by simp) _).setCell (by simp) _, Or.inl ⟨HE.out, a5, c5, rfl, (S5.out.kept fun b hb => ?_).mono fun b hb _ => ?_⟩⟩
    · have h4 : w.heap.size + 1 < w4.heap.size := R4.out.lt
      rw [Below.heap_setCell _ _ _ _ (by simp; omega), Below.heap_setCell _ _ _ _ (by simp; omega)]
    · have := HB4.out.size
      omega
  · have h1 : (mayE a == 0) = false := by simpa using he
    have h2 : (mayE a != 0) = true := by simpa using he
    have r0 : w3.cell? ⟨w.heap.size + 1, 0, none⟩ = some (.string ⟨#[]⟩) := KR3.out.cell 0
    have r1 : w3.cell? ⟨w.heap.size + 1, 1, none⟩ = some (.slice none 0 0) := KR3.out.cell 1
    have rf := KR3.out.frozen
    have hRl : w.heap.size + 1 < w3.heap.size := KR3.out.lt
    go_wp2_with fail
    refine bodyPost_ret (v := .tuple #[.agg #[.string ⟨#[]⟩, .slice none 0 0], .int .i64 (mayE a)]) (by simp [results, Tryd.results15, go_sem, World.cell?_setCell_same, World.cell?_setCell_other, r0, r1, hRl]) rfl ?_
    exact ⟨(HB3.out.setCell (by simp) _).setCell (by simp) _, Or.inr ⟨he, rfl⟩⟩
end Go.Proofs.YtakmclheffbeaaaDoor
