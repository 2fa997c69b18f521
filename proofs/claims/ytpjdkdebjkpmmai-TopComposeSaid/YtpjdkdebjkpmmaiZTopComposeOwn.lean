/- Several texts in one. -/
import Derived.Test.YtpjdkdebjkpmmaiW93
import Derived.Test.YtpjdkdebjkpmmaiW96
import Derived.Test.YtpjdkdebjkpmmaiW82
import Derived.Test.YtpjdkdebjkpmmaiPu0
import Derived.Test.YtpjdkdebjkpmmaiW81
import Derived.Test.YtpjdkdebjkpmmaiW64
import Derived.Test.YtpjdkdebjkpmmaiW17
import Derived.Test.YtpjdkdebjkpmmaiW9
import Derived.Deep.RegionHeld3
import Derived.Test.YtpjdkdebjkpmmaiBmE
import Derived.Test.YtpjdkdebjkpmmaiW10
import Derived.Test.YtpjdkdebjkpmmaiBnd
import Derived.Test.YtpjdkdebjkpmmaiW54
import Derived.Test.YtpjdkdebjkpmmaiOnM
import Derived.Test.YtpjdkdebjkpmmaiW50
import Derived.Test.YtpjdkdebjkpmmaiW6
import Derived.Test.YtpjdkdebjkpmmaiW90
import Derived.Test.YtpjdkdebjkpmmaiRows
import Derived.Test.YtpjdkdebjkpmmaiW7
import Derived.ProofKit

/- Walks: whether a part of a term is a case of another one, as the document says. -/
namespace Go.Proofs.Ytpjdkdebjkpmmai
open Go.RowKit
set_option linter.unusedSimpArgs false
set_option linter.unusedVariables false
set_option maxRecDepth 8000

theorem four_cells {w w1 : World} {p1 p2 p3 p4 : Addr} {v1 v2 v3 v4 : Value} (hb : Below w.heap.size w w1) (h : w.cell? p1 = some v1 ∧ w.cell? p2 = some v2 ∧ w.cell? p3 = some v3 ∧ w.cell? p4 = some v4) :
    w1.cell? p1 = some v1 ∧ w1.cell? p2 = some v2 ∧ w1.cell? p3 = some v3 ∧ w1.cell? p4 = some v4 := ⟨cell_later hb h.1, cell_later hb h.2.1, cell_later hb h.2.2.1, cell_later hb h.2.2.2⟩

end Go.Proofs.Ytpjdkdebjkpmmai


/- Walks: Match, Variant, Encompasses. -/
namespace Go.Proofs.Ytpjdkdebjkpmmai
open Go.RowKit
set_option linter.unusedSimpArgs false
set_option linter.unusedVariables false
set_option maxRecDepth 8000

/-- Some knot of a list of terms is a case. -/
def hcL (p : Tm) (l : List Tm) : Bool := (preL l).any fun k => mtB p k
theorem hcL_take {p : Tm} {l : List Tm} {k : Nat} (h : k < l.length) : hcL p (l.take (k + 1)) = (hcL p (l.take k) || hcB l[k] p) := by
  unfold hcL hcB
  rw [preL_take l k h, List.any_append]
theorem hcL_yes {p : Tm} {l : List Tm} {k : Nat} (h : k < l.length) (h0 : hcB l[k] p = true) : hcL p l = true := by
  have e : l = l.take (k + 1) ++ l.drop (k + 1) := (List.take_append_drop _ _).symm
  unfold hcL
  rw [e, preL_append, List.any_append]
  have h1 := hcL_take (p := p) h
  unfold hcL at h1
  rw [h1, h0]
  simp
theorem hcB_eq (s : ByteArray) (l : List Tm) (p : Tm) : hcB ⟨s, l⟩ p = (mtB p ⟨s, l⟩ || hcL p l) := by
  unfold hcB hcL
  simp [preL]
def IxInv (p : Tm) (l : List Tm) (w : World) (v : Value) (wr : World) : Prop := ∃ k : Nat, k ≤ l.length ∧ v = .int .i64 (k : Int) ∧ hcL p (l.take k) = false ∧ Below w.heap.size w wr

end Go.Proofs.Ytpjdkdebjkpmmai


/- Walks: Match, Variant, Encompasses, whole. -/
namespace Go.Proofs.Ytpjdkdebjkpmmai
open Go.RowKit
set_option linter.unusedSimpArgs false
set_option linter.unusedVariables false
set_option maxRecDepth 8000

theorem mtT_size_one {p t : Tm} {h h' : List Bd} {n : Nat} (ih : ∀ ts g g', mtL p.args ts g = some g' → sizeL ts ≤ n → (∀ d ∈ g, sizeL [d.t] ≤ n) → ∀ d ∈ g', sizeL [d.t] ≤ n) (he : mtT p t h = some h') (ht : sizeL [t] ≤ n) (ha : ∀ d ∈ h, sizeL [d.t] ≤ n) : ∀ d ∈ h', sizeL [d.t] ≤ n := by
  unfold mtT at he
  split at he
  · split at he
    · split at he
      · cases he; exact ha
      · cases he
    · cases he
      intro d hd
      rcases List.mem_append.1 hd with hd | hd
      · exact ha d hd
      · have e : d = ⟨p.name, t⟩ := by simpa using hd
        rw [e]; exact ht
  · split at he
    · refine ih _ _ _ he ?_ ha
      obtain ⟨s2, m⟩ := t
      simp [sizeL] at ht ⊢
      omega
    · cases he
theorem mtL_size {n : Nat} : ∀ (l ts : List Tm) (h h' : List Bd), mtL l ts h = some h' → sizeL ts ≤ n → (∀ d ∈ h, sizeL [d.t] ≤ n) → ∀ d ∈ h', sizeL [d.t] ≤ n := by
  intro l
  induction l using Tm.indL with
  | h0 => intro ts h h' he _ ha; simp [mtL] at he; subst he; exact ha
  | h s l r ihl ihr =>
    intro ts h h' he ht ha
    cases ts with
    | nil => simp [mtL] at he
    | cons t ts =>
      rw [mtL_cons] at he
      have e1 : sizeL (t :: ts) = sizeL [t] + sizeL ts := by obtain ⟨s2, m⟩ := t; simp [sizeL]
      rw [e1] at ht
      cases hm : mtT ⟨s, l⟩ t h with
      | none => rw [hm] at he; cases he
      | some g =>
        rw [hm] at he
        exact ihr ts g h' he (by omega) (mtT_size_one (p := ⟨s, l⟩) (fun ts g g' h3 h4 h5 => ihl ts g g' h3 h4 h5) hm (by omega) ha)
theorem mtT_size {p t : Tm} {h' : List Bd} (he : mtT p t [] = some h') : ∀ d ∈ h', sizeL [d.t] ≤ sizeL [t] :=
  mtT_size_one (fun ts g g' h3 h4 h5 => mtL_size p.args ts g g' h3 h4 h5) he (Nat.le_refl _) (by simp)
theorem twoE_parts {p t : Tm} (h : twoE p t = 0) : mayE p = 0 ∧ mayE t = 0 := by
  unfold twoE at h
  split at h
  · exact ⟨‹_›, h⟩
  · exact absurd h ‹_›
theorem mayE_size {t : Tm} (h : mayE t = 0) : sizeL [t] ≤ 200 := by
  unfold mayE at h
  split at h
  · cases h
  · omega

def MaPost (w : World) (p t : Tm) (e : Ending) (w' : World) : Prop :=
  Below w.heap.size w w' ∧ ((twoE p t ≠ 0 ∧ e = .returned (.tuple #[.slice none 0 0, .bool false, .int .i64 (twoE p t)])) ∨ (twoE p t = 0 ∧ mtT p t [] = none ∧ e = .returned (.tuple #[.slice none 0 0, .bool false, .int .i64 0])) ∨
    (twoE p t = 0 ∧ ∃ h' v l', mtT p t [] = some h' ∧ e = .returned (.tuple #[v, .bool true, .int .i64 0]) ∧ BV w' (fun b => w.heap.size ≤ b) v l' ∧ l'.Perm h' ∧ SortedB l'))

end Go.Proofs.Ytpjdkdebjkpmmai

/- Walks: what stands for itself is struck out of a map. -/
namespace Go.Proofs.Ytpjdkdebjkpmmai
open Go.RowKit
set_option linter.unusedSimpArgs false
set_option linter.unusedVariables false
set_option maxRecDepth 8000

/-- A binding of which something is seen. -/
def keepB (d : Bd) : Bool := !(d.t.name.toList == d.nm.toList)

theorem standsForItself_any (n : ByteArray) (t : Tm) (a : Option Addr) (c : Nat) (w : World) :
    Calls Try.prog 36 #[.string n, .agg #[.string t.name, .slice a t.args.length c]] w fun e w' => e = .returned (.bool (t.name.toList == n.toList)) ∧ Below w.heap.size w w' := by
  go_enter Try.func36, Try.ntmps36
  go_wp2_with fail
  go_ret
  exact ⟨rfl, (Below.refl _ _).alloc (Nat.le_refl _) _⟩

theorem mapGet_toP {Z : List Bc} (ha : ApartB (Z.map (·.1))) : ∀ x ∈ Z, mapGet (Z.map toP) x.1.nm = some (toP x).2 := by
  induction Z with
  | nil => intro x hx; cases hx
  | cons y r ih =>
    intro x hx
    simp only [List.map_cons] at ha ⊢
    obtain ⟨h1, h2⟩ := List.pairwise_cons.1 ha
    rcases List.mem_cons.1 hx with rfl | hx
    · simp [mapGet, toP]
    · have hne : y.1.nm ≠ x.1.nm := h1 x.1 (List.mem_map.2 ⟨x, hx, rfl⟩)
      rw [mapGet, if_neg (by simpa [toP] using hne)]
      exact ih h2 x hx
theorem delP_toP {Z : List Bc} (ha : ApartB (Z.map (·.1))) : ∀ x ∈ Z, ∃ Z' : List Bc, delP (Z.map toP) x.1.nm = Z'.map toP ∧ Z.Perm (x :: Z') := by
  induction Z with
  | nil => intro x hx; cases hx
  | cons y r ih =>
    intro x hx
    simp only [List.map_cons] at ha ⊢
    obtain ⟨h1, h2⟩ := List.pairwise_cons.1 ha
    rcases List.mem_cons.1 hx with rfl | hx
    · exact ⟨r, by simp [delP, toP], List.Perm.refl _⟩
    · have hne : y.1.nm ≠ x.1.nm := h1 x.1 (List.mem_map.2 ⟨x, hx, rfl⟩)
      obtain ⟨Z', h3, h4⟩ := ih h2 x hx
      refine ⟨y :: Z', ?_, (h4.cons y).trans (List.Perm.swap x y Z')⟩
      rw [delP, if_neg (by simpa [toP] using hne), h3]; rfl

def DfInv (w : World) (Z : List Bc) (b : Nat) (wr : World) : Prop :=
  ∃ Zc Zr K : List Bc, RangeAt wr b w.heap.size (Zc.map toP) (Zr.map toP) ∧ Zc.Perm (K ++ Zr) ∧ (K ++ Zr.filter (fun x => keepB x.1)).Perm (Z.filter fun x => keepB x.1) ∧ ApartB (Zc.map (·.1)) ∧ w.grownBy wr (some b)

set_option maxHeartbeats 1000000 in
theorem deleteFunc_any (Z : List Bc) (b : Nat) (w : World) (hM : MapAt w b (Z.map toP)) (hap : ApartB (Z.map (·.1))) :
    Calls Try.prog 35 #[.map (some b), .func (.func 36) #[] #[]] w fun e w' => e = .returned (.tuple #[]) ∧ ∃ Z' : List Bc, MapAt w' b (Z'.map toP) ∧ Z'.Perm (Z.filter fun x => keepB x.1) ∧ w.grownBy w' (some b) := by
  have hbl := hM.lt
  obtain ⟨o, hrange, hR0⟩ := hM.range (P := Try.prog) Try.underlying69
  have HR0 := hide hR0
  have HAP := hide hap
  clear hR0 hap hM
  go_enter Try.func35, Try.ntmps35
  go_wp2_with fail
  go_loopw [8] (fun _ wr => DfInv w Z b wr) (fun _ wr => leftAt wr b w.heap.size)
  case atStart =>
    exact ⟨Z, Z, [], HR0.out, List.Perm.refl _, List.Perm.refl _, HAP.out, World.grownBy_alloc w _ _⟩
  case round =>
    obtain ⟨Zc, Zr, K, hR, hP, hK, hA, hg⟩ := hrel
    have HR := hide hR
    have HP := hide hP
    have HK := hide hK
    have HA := hide hA
    have HG := hide hg
    clear hP hK hA
    rcases hR.next (P := Try.prog) 0 with ⟨he, hnx⟩ | ⟨p, rem', w1, hpm, hnx, hR1, hz1, ho1, ht1, hu1, hk1, hen⟩
    · have hZr : Zr = [] := by simpa using he
      subst hZr
      clear hR hg he
      go_wp2_with fail
      go_end0
      exact ⟨rfl, Zc, HR.out.map, HP.out.trans (by simpa using HK.out), HG.out⟩
    · obtain ⟨x, Z', hpx, rfl, rfl⟩ := next_lift hpm
      simp only [toP] at hnx hen
      have hxZ : x ∈ Zc := HP.out.symm.subset (by simp [hpx.symm.subset (List.mem_cons_self (a := x))])
      have HG1 : Hid (w.grownBy w1 (some b)) := ⟨ho1.trans hg.os, ht1.trans hg.tape, hu1.trans hg.output, by rw [hz1]; exact hg.size, fun j hj hne => (hk1 j (by omega)).trans (hg.block j hj hne)⟩
      have HR1 := hide hR1
      have hr1 := hR1.lt
      have HMS : Hid (Z'.length < Zr.length) := by have := hpx.length_eq; simp at this; unfold Hid; omega
      have HPX := hide hpx
      have HXZ := hide hxZ
      have hb1 : b < w1.heap.size := hR1.map.lt
      clear hR hg hz1 ho1 ht1 hu1 hk1 hR1 hpm hpx hxZ
      have HG2 := hide (HG1.out.andThen (World.grownBy_alloc w1 (.cells #[.string x.1.t.name, .slice x.2.1 x.1.t.args.length x.2.2] 25) none) (by simp))
      have HR2 := hide (HR1.out.below ((Below.refl _ _).alloc (Nat.le_refl _) (.cells #[.string x.1.t.name, .slice x.2.1 x.1.t.args.length x.2.2] 25)) hb1 hr1)
      go_wp2_with fail
      clear hnx hen hb1 hr1
      generalize w1.alloc (.cells #[.string x.1.t.name, .slice x.2.1 x.1.t.args.length x.2.2] 25) = w2 at *
      refine (standsForItself_any x.1.nm x.1.t x.2.1 x.2.2 w2).mono ?_
      rintro e w3 ⟨rfl, hb3⟩
      have HG3 := hide (HG2.out.andThen (World.grownBy.but ⟨hb3.os, hb3.tape, hb3.output, hb3.size, fun j hj _ => hb3.block j hj⟩ none) (by simp))
      have HR3 := hide (HR2.out.below hb3 HR2.out.map.lt HR2.out.lt)
      clear hb3
      cases hkp : (x.1.t.name.toList == x.1.nm.toList) with
      | false =>
        have HKK : Hid ((K ++ [x] ++ Z'.filter (fun x => keepB x.1)).Perm (Z.filter fun x => keepB x.1)) := by
          have h1 := (HPX.out.filter (fun x => keepB x.1))
          rw [List.filter_cons_of_pos (by simp [keepB, hkp])] at h1
          have h2 := (h1.append_left K).symm.trans HK.out
          unfold Hid
          simpa using h2
        have HPP : Hid (Zc.Perm (K ++ [x] ++ Z')) := by
          have h2 := HP.out.trans (HPX.out.append_left K)
          unfold Hid
          simpa using h2
        clear hkp
        go_wp2_with fail
        go_roundw
        case rel => exact ⟨Zc, Z', K ++ [x], HR3.out, HPP.out, HKK.out, HA.out, HG3.out⟩
        case measure =>
          rw [HR3.out.left, HR.out.left]
          have := HMS.out
          simpa using this
      | true =>
        obtain ⟨Zc', hd1, hd2⟩ := delP_toP HA.out x HXZ.out
        have hAx : ApartB ((x :: Zc').map (·.1)) := HA.out.perm (hd2.map _).symm
        have hZ'c : Zc'.Perm (K ++ Z') := by
          have h2 := hd2.symm.trans (HP.out.trans (HPX.out.append_left K))
          exact (h2.trans List.perm_middle).cons_inv
        have hne : ∀ p ∈ Z'.map toP, p.1 ≠ x.1.nm := fun p hp => by
          obtain ⟨y, hy, rfl⟩ := List.mem_map.1 hp
          have h3 : y ∈ Zc' := hZ'c.symm.subset (by simp [hy])
          simp only [List.map_cons] at hAx
          exact fun e => (List.pairwise_cons.1 hAx).1 y.1 (List.mem_map.2 ⟨y, h3, rfl⟩) e.symm
        obtain ⟨w4, hdel, hR4, hz4, ho4, ht4, hu4, hk4⟩ := HR3.out.drop (P := Try.prog) (ty := 0) Try.underlying69 Try.underlying9 x.1.nm hne _ (mapGet_toP HA.out x HXZ.out)
        rw [hd1] at hR4
        have HR4 := hide hR4
        have HG4 : Hid (w.grownBy w4 (some b)) := ⟨ho4.trans HG3.out.os, ht4.trans HG3.out.tape, hu4.trans HG3.out.output, by rw [hz4]; exact HG3.out.size, fun j hj hne => (hk4 j (fun e => hne (by rw [e]))).trans (HG3.out.block j hj hne)⟩
        have HKK : Hid ((K ++ Z'.filter (fun x => keepB x.1)).Perm (Z.filter fun x => keepB x.1)) := by
          have h1 := (HPX.out.filter (fun x => keepB x.1))
          rw [List.filter_cons_of_neg (by simp [keepB, hkp])] at h1
          exact (h1.append_left K).symm.trans HK.out
        have HPP := hide hZ'c
        have HAA : Hid (ApartB (Zc'.map (·.1))) := by
          simp only [List.map_cons] at hAx
          exact (List.pairwise_cons.1 hAx).2
        clear hkp hd1 hd2 hAx hZ'c hne hR4 hz4 ho4 ht4 hu4 hk4
        go_wp2_with fail
        go_roundw
        case rel => exact ⟨Zc', Z', K, HR4.out, HPP.out, HKK.out, HAA.out, HG4.out⟩
        case measure =>
          rw [HR4.out.left, HR.out.left]
          have := HMS.out
          simpa using this
#print axioms deleteFunc_any
end Go.Proofs.Ytpjdkdebjkpmmai

/- Walks: Then. -/
namespace Go.Proofs.Ytpjdkdebjkpmmai
open Go.RowKit
set_option linter.unusedSimpArgs false
set_option linter.unusedVariables false
set_option maxRecDepth 8000

theorem pairsL_Z {w : World} {X : Nat → Prop} : ∀ {ls : List Bd} {L : List (ByteArray × Value)}, PairsL w X ls L → ∃ Z : List Bc, L = Z.map toP ∧ Z.map (·.1) = ls ∧ ∀ x ∈ Z, Sl w X x.2.1 x.1.t.args
  | [], L, h => by
    have e : L = [] := h
    subst e
    exact ⟨[], rfl, rfl, by simp⟩
  | d :: r, L, h => by
    obtain ⟨a, c, L', rfl, h1, h2⟩ := h
    obtain ⟨Z, rfl, e, h3⟩ := pairsL_Z h2
    refine ⟨(d, a, c) :: Z, rfl, by simp [e], fun x hx => ?_⟩
    rcases List.mem_cons.1 hx with rfl | hx
    · exact h1
    · exact h3 x hx

/-- A binding with another list of them in its term. -/
def fB (rs : List Bd) (d : Bd) : Bd := ⟨d.nm, fT rs d.t⟩
/-- Is one of the terms too great? -/
def fullB (ls rs : List Bd) : Bool := ls.any fun d => decide (2000 < sizeL [fT rs d.t])
theorem fullB_yes {ls rs : List Bd} {k : Nat} (h : k < ls.length) (h0 : 2000 < sizeL [fT rs ls[k].t]) : fullB ls rs = true := by
  unfold fullB
  rw [List.any_eq_true]
  exact ⟨ls[k], List.getElem_mem h, by simpa using h0⟩
theorem fullB_no {ls rs : List Bd} (h : ∀ d ∈ ls, sizeL [fT rs d.t] ≤ 2000) : fullB ls rs = false := by
  unfold fullB
  rw [List.any_eq_false]
  intro d hd
  have := h d hd
  simp; omega
/-- Both, before what stands for itself is struck. -/
def bothB (ls rs : List Bd) : List Bd := ls.map (fB rs) ++ rs.filter fun d => (forT ls d.nm).isNone
def ThPost (w : World) (ls rs : List Bd) (e : Ending) (w' : World) : Prop :=
  Below w.heap.size w w' ∧ ((bindsE ls ≠ 0 ∧ e = .returned (.tuple #[.slice none 0 0, .int .i64 (bindsE ls)])) ∨ (bindsE ls = 0 ∧ bindsE rs ≠ 0 ∧ e = .returned (.tuple #[.slice none 0 0, .int .i64 (bindsE rs)])) ∨
    (bindsE ls = 0 ∧ bindsE rs = 0 ∧ fullB ls rs = true ∧ e = .returned (.tuple #[.slice none 0 0, .int .i64 8])) ∨
    (bindsE ls = 0 ∧ bindsE rs = 0 ∧ fullB ls rs = false ∧ ∃ v ls', e = .returned (.tuple #[v, .int .i64 0]) ∧ BV w' (fun b => w.heap.size ≤ b) v ls' ∧ ls'.Perm ((bothB ls rs).filter keepB) ∧ SortedB ls'))

theorem bindsE_sorted {ls : List Bd} (h : bindsE ls = 0) : SortedB ls := by
  unfold SortedB
  rw [List.pairwise_iff_getElem]
  intro i j hi hj hij
  obtain ⟨e, rfl⟩ : ∃ e, j = i + 1 + e := ⟨j - (i + 1), by omega⟩
  have h1 := bindsE_far h i e hj
  unfold leB at h1
  simp only [Bool.or_eq_false_iff] at h1
  cases h2 : ltB ls[i].nm ls[i + 1 + e].nm with
  | true => rfl
  | false =>
    have e2 := ltB_conn h2 h1.1
    rw [e2] at h1
    simp at h1
theorem mapGet_no {Z : List Bc} {n : ByteArray} (h : ∀ x ∈ Z, x.1.nm ≠ n) : mapGet (Z.map toP) n = none := by
  induction Z with
  | nil => rfl
  | cons y r ih =>
    rw [List.map_cons, mapGet, if_neg (by simpa [toP] using h y (by simp))]
    exact ih fun x hx => h x (by simp [hx])
/-- What the region of the first loop leaves. -/
def ThB (w4 : World) (P : Nat) (s : ByteArray) (a : Option Addr) (n c : Nat) (l0 : List Tm) (w9 : World) : Prop := Blk w9 P #[.string s, .slice a n c] 25 ∧ Below w4.heap.size w4 w9 ∧ Sl w9 (fun b => w4.heap.size ≤ b) a l0
theorem thB_set {w4 w8 : World} {P Q n c : Nat} {s : ByteArray} {a : Option Addr} {l0 : List Tm} (hP : Blk w8 P #[.string ⟨#[]⟩, .slice none 0 0] 25) (hw : w4.heap.size ≤ P) (hb : Below w4.heap.size w4 w8) (hs : Sl w8 (fun b => Q ≤ b) a l0) (hQ : P < Q) :
    ThB w4 P s a n c l0 ((w8.setCell ⟨P, 0, none⟩ (.string s)).setCell ⟨P, 1, none⟩ (.slice a n c)) :=
  ⟨(hP.set 0 _).set 1 _, (hb.setCell (by simpa using hw) _).setCell (by simpa using hw) _, (hs.kept fun b hb => by
    rw [Below.heap_setCell _ _ _ _ (by simp; omega), Below.heap_setCell _ _ _ _ (by simp; omega)]).mono fun b hb _ => by omega⟩
/-- What is known in the first loop. -/
def T1Inv (w3 : World) (ls rs : List Bd) (v : Value) (wr : World) : Prop :=
  ∃ (k : Nat) (Z : List Bc), v = .int .i64 (k : Int) ∧ k ≤ ls.length ∧ MapAt wr w3.heap.size (Z.map toP) ∧ Z.map (·.1) = (ls.take k).map (fB rs) ∧ (∀ x ∈ Z, Sl wr (fun b => w3.heap.size < b) x.2.1 x.1.t.args) ∧ (∀ d ∈ ls.take k, sizeL [fT rs d.t] ≤ 2000) ∧ Below w3.heap.size w3 wr

/-- What is known in the second loop. -/
def T2Inv (w3 w5 : World) (q I : Nat) (ls : List Bd) (Z Zq : List Bc) (wr : World) : Prop :=
  ∃ Zr K Zb : List Bc, RangeAt wr q I (Zq.map toP) (Zr.map toP) ∧ Zq.Perm (K ++ Zr) ∧ MapAt wr w3.heap.size (Zb.map toP) ∧ Zb.Perm (Z ++ K.filter fun x => (forT ls x.1.nm).isNone) ∧ ApartB (Zb.map (·.1)) ∧ Below w3.heap.size w3 wr ∧ (∀ b, b < I → b ≠ w3.heap.size → wr.heap[b]? = w5.heap[b]?)
theorem bindsE_len {ls : List Bd} (h : bindsE ls = 0) : ls.length ≤ 40 := by
  unfold bindsE at h
  split at h
  · cases h
  · omega
set_option maxHeartbeats 2000000 in
theorem then_of (HSORT : Hid SortBinds) (ls rs : List Bd) (u v : Value) (w : World) (X : Nat → Prop) (hu : BV w X u ls) (hv : BV w X v rs) :
    Calls Try.prog 14 #[u, v] w fun e w' => ThPost w ls rs e w' := by
  have HU := hide (hu.mono (Y := fun b => X b ∧ b < w.heap.size) fun b h1 h2 => ⟨h1, h2⟩)
  have HV := hide (hv.mono (Y := fun b => X b ∧ b < w.heap.size) fun b h1 h2 => ⟨h1, h2⟩)
  obtain ⟨au, cu, rfl, hlu, hu2⟩ := hu
  clear hv hu2
  have hmm := @run_makeMap Try.prog
  go_enter Try.func14, Try.ntmps14
  go_wp2_with fail
  refine (scheck_any ls _ w _ HU.out).mono ?_
  rintro e w1 ⟨rfl, hb1⟩
  have HB1 := hide hb1
  clear hb1
  by_cases hbe : bindsE ls = 0
  case neg =>
    have hbe' : (bindsE ls == 0) = false := by simpa using hbe
    have HBE := hide hbe
    clear hbe
    go_wp2_with fail
    refine bodyPost_ret (v := .tuple #[.slice none 0 0, .int .i64 (bindsE ls)]) (by simp [results, Try.results14, go_sem]) rfl ?_
    exact ⟨HB1.out, Or.inl ⟨HBE.out, rfl⟩⟩
  have HBE := hide hbe
  rw [hbe]
  clear hbe
  go_wp2_with fail
  refine (scheck_any rs _ w1 _ (HV.out.later HB1.out)).mono ?_
  rintro e w2 ⟨rfl, hb2⟩
  have HB2 := hide (HB1.out.trans (hb2.mono HB1.out.size))
  clear hb2
  by_cases hbr : bindsE rs = 0
  case neg =>
    have hbe' : (bindsE rs == 0) = false := by simpa using hbr
    have HBR := hide hbr
    clear hbr
    go_wp2_with fail
    refine bodyPost_ret (v := .tuple #[.slice none 0 0, .int .i64 (bindsE rs)]) (by simp [results, Try.results14, go_sem]) rfl ?_
    exact ⟨HB2.out, Or.inr (Or.inl ⟨HBE.out, HBR.out, rfl⟩)⟩
  have HBR := hide hbr
  rw [hbr]
  clear hbr
  go_wp2_with fail
  refine (byName_any rs (bindsE_once HBR.out) _ w2 _ (HV.out.later HB2.out)).mono ?_
  rintro e w3 ⟨L, rfl, hM3, hP3, hb3⟩
  have hq3 := hM3.lt
  have HM3 := hide hM3
  have HP3 : Hid (PairsL w3 (fun b => X b ∧ b < w.heap.size) rs L) := hP3.imp fun a l hs => hs.mono fun b h _ => h.1
  have HB3 := hide (HB2.out.trans (hb3.mono HB2.out.size))
  have hq : w.heap.size ≤ w2.heap.size := HB2.out.size
  clear hM3 hP3 hb3
  generalize w2.heap.size = q at *
  go_wp2_with fail
  go_loopw [33] (fun v wr => T1Inv w3 ls rs v wr) (fun v wr => ls.length - (intOf v).toNat)
  case atStart =>
    exact ⟨0, [], rfl, Nat.zero_le _, MapAt.new w3, rfl, by simp, by simp, (Below.refl _ _).alloc (Nat.le_refl _) _⟩
  case round =>
    obtain ⟨k, Z, rfl, hk, hM, hZe, hZs, hsz, hb⟩ := hrel
    have HM := hide hM
    have HZE := hide hZe
    have HZS := hide hZs
    have HSZ := hide hsz
    have HB := hide hb
    have hMr := hM.lt
    clear hM hZe hZs hsz
    by_cases hlt : k < ls.length
    · obtain ⟨b, o, a', c', rfl, d0, d1, d2, hs⟩ := ((HU.out.later HB3.out).later hb).get k hlt
      have hlt2 : (k : Int) < (ls.length : Int) := by omega
      have HS := hide hs
      clear hb hs
      have hBw0 : w3.heap.size < wr.heap.size := hMr
      have HNO : Hid (mapGet (Z.map toP) ls[k].nm = none) := mapGet_no fun x hx e => by
        have h1 : x.1 ∈ (ls.take k).map (fB rs) := by rw [← HZE.out]; exact List.mem_map.2 ⟨x, hx, rfl⟩
        obtain ⟨d', hd', e'⟩ := List.mem_map.1 h1
        have h2 := (bindsE_sorted HBE.out).apart
        obtain ⟨i, hi, rfl⟩ := List.getElem_of_mem hd'
        have hi' : i < k := by simp at hi; omega
        unfold ApartB at h2
        rw [List.pairwise_iff_getElem] at h2
        have h3 := h2 i k (by omega) hlt hi'
        rw [← e'] at e
        rw [List.getElem_take] at e
        exact h3 e
      have HZE1 : Hid (∀ (a8 : Option Addr) (c8 : Nat), (Z ++ [(fB rs ls[k], a8, c8)]).map (·.1) = (ls.take (k + 1)).map (fB rs)) := fun a8 c8 => by
        rw [List.take_succ_eq_append_getElem hlt, List.map_append, List.map_append, HZE.out]; rfl
      have HSZ1 : Hid (sizeL [fT rs ls[k].t] ≤ 2000 → ∀ d ∈ ls.take (k + 1), sizeL [fT rs d.t] ≤ 2000) := fun h d hd => by
        rw [List.take_succ_eq_append_getElem hlt] at hd
        rcases List.mem_append.1 hd with hd | hd
        · exact HSZ.out d hd
        · have e : d = ls[k] := by simpa using hd
          rw [e]; exact h
      have HFU := hide (fullB_yes (rs := rs) hlt)
      generalize ls[k] = d at *
      go_wp2_with fail
      have BK := hide (Blk.new wr #[.string d.nm, .string d.t.name, .slice a' d.t.args.length c'] 67)
      have HBW := hide (HB.out.alloc HB.out.size (.cells #[.string d.nm, .string d.t.name, .slice a' d.t.args.length c'] 67))
      have HSW := hide (HS.out.later ((Below.refl _ _).alloc (Nat.le_refl _) (.cells #[.string d.nm, .string d.t.name, .slice a' d.t.args.length c'] 67)))
      have HMW := hide (HM.out.below ((Below.refl _ _).alloc (Nat.le_refl _) (.cells #[.string d.nm, .string d.t.name, .slice a' d.t.args.length c'] 67)) hMr)
      have HZW : Hid (∀ x ∈ Z, Sl (wr.alloc (.cells #[.string d.nm, .string d.t.name, .slice a' d.t.args.length c'] 67)) (fun b => w3.heap.size < b) x.2.1 x.1.t.args) := fun x hx => (HZS.out x hx).later ((Below.refl _ _).alloc (Nat.le_refl _) _)
      have hBw : w3.heap.size < (wr.alloc (.cells #[.string d.nm, .string d.t.name, .slice a' d.t.args.length c'] 67)).heap.size := by simp; omega
      have hAw : wr.heap.size < (wr.alloc (.cells #[.string d.nm, .string d.t.name, .slice a' d.t.args.length c'] 67)).heap.size := by simp
      clear d0 d1 d2
      generalize wr.alloc (.cells #[.string d.nm, .string d.t.name, .slice a' d.t.args.length c'] 67) = w4 at *
      generalize wr.heap.size = A at *
      have KP : Hid (∀ w', Below w4.heap.size w4 w' → w'.cell? ⟨A, 1, none⟩ = some (.string d.t.name) ∧ w'.cell? ⟨A, 2, none⟩ = some (.slice a' d.t.args.length c')) := fun w' hb => ⟨(BK.out.below hb hAw).cell 1, (BK.out.below hb hAw).cell 2⟩
      have t05 := (KP.out w4 (Below.refl _ _)).1
      have t15 := (KP.out w4 (Below.refl _ _)).2
      have LKA : Hid (∀ w', Below w4.heap.size w4 w' → Calls Try.prog 34 #[.map (some q)] w' fun e w'' => ∃ B, e = .returned (.func (.func 52) #[] #[.pointer (some ⟨B, 0, none⟩)]) ∧ Env w'' B q (fun b => X b ∧ b < w.heap.size) rs L ∧ Below w4.heap.size w4 w'' ∧ Below w'.heap.size w' w'') := fun w' hb => by
        refine (look_any q w').mono ?_
        rintro e w7 ⟨rfl, hw7⟩
        have hb7 : Below w'.heap.size w' w7 := by rw [hw7]; exact (Below.refl _ _).alloc (Nat.le_refl _) _
        have hb8 : Below w3.heap.size w3 w7 := (HBW.out.trans (hb.mono HBW.out.size)).trans (hb7.mono (Nat.le_trans HBW.out.size hb.size))
        exact ⟨_, rfl, ⟨by rw [hw7]; exact Blk.new w' _ _, HM3.out.below hb8 hq3, HP3.out.imp fun a l hs => hs.later hb8⟩, hb.trans (hb7.mono hb.size), hb7⟩
      by_cases hle : sizeL [fT rs d.t] ≤ 2000
      · have FIA : Hid (∀ B w', Env w' B q (fun b => X b ∧ b < w.heap.size) rs L → Below w4.heap.size w4 w' → Calls Try.prog 33 #[.agg #[.string d.t.name, .slice a' d.t.args.length c'], .func (.func 52) #[] #[.pointer (some ⟨B, 0, none⟩)]] w' fun e w'' => ∃ a8 c8, e = .returned (.tuple #[.agg #[.string (fT rs d.t).name, .slice a8 (fT rs d.t).args.length c8], .int .i64 0]) ∧ Below w4.heap.size w4 w'' ∧ Below w'.heap.size w' w'' ∧ Sl w'' (fun b => w'.heap.size ≤ b) a8 (fT rs d.t).args) := fun B w' hE hb => by
          refine (sfill_any B q rs L d.t a' c' w' _ (HSW.out.later hb) hE).mono ?_
          rintro e w8 ⟨hb8, ⟨_, a8, c8, rfl, h8⟩ | ⟨h8, _⟩⟩
          · exact ⟨a8, c8, rfl, hb.trans (hb8.mono hb.size), hb8, h8⟩
          · omega
        go_region_held3 (fun w' => w'.cell? ⟨A, 1, none⟩ = some (.string d.t.name) ∧ w'.cell? ⟨A, 2, none⟩ = some (.slice a' d.t.args.length c')) (first | exact hS | exact ⟨t05, t15⟩ | exact two_keep (two_keep hS nP nP) nP nP | exact two_keep hS nP nP | go_keep)
          (first
            | (go_at_call 34; refine (LKA.out _ (by first | exact Below.refl _ _ | exact (Below.refl _ _).drew | exact ((Below.refl _ _).alloc (Nat.le_refl _) _) | exact ((Below.refl _ _).drew.alloc (Nat.le_refl _) _) | exact ((Below.refl _ _).alloc (Nat.le_refl _) _).drew)).mono ?_; rintro e w7 ⟨B, rfl, hE7, hb7, hbl7⟩; have hS := KP.out _ hb7)
            | (go_at_call 33; refine (FIA.out _ _ (by first | exact hE7 | exact hE7.later ((Below.refl _ _).alloc (Nat.le_refl _) _)) (by first | exact hb7 | exact hb7.drew | exact hb7.alloc hb7.size _)).mono ?_; rintro e w8 ⟨a8, c8, rfl, hb8, hbl8, hs8⟩; have hS := KP.out _ hb8;
                first
                  | (have PB : Blk w8 w7.heap.size #[.string ⟨#[]⟩, .slice none 0 0] 25 := (Blk.new w7 _ _).below hbl8 (by simp); have p0 := PB.cell 0; have p1 := PB.cell 1; have pf := PB.frozen; have pl := PB.lt; have hPN : w4.heap.size ≤ w7.heap.size := hb7.size; have nP : w7.heap.size ≠ A := by omega)
                  | (have PB : Blk w8 w4.heap.size #[.string ⟨#[]⟩, .slice none 0 0] 25 := (((Blk.new w4 _ _).drewN 1).below hbl7 (by simp)).below hbl8 (by have := hbl7.size; simp at this; omega); have p0 := PB.cell 0; have p1 := PB.cell 1; have pf := PB.frozen; have pl := PB.lt; have hPN : w4.heap.size ≤ w4.heap.size := Nat.le_refl _; have nP : w4.heap.size ≠ A := by omega)
                  | skip))
        all_goals first
          | (have TB : Hid (ThB w4 w7.heap.size (fT rs d.t).name a8 (fT rs d.t).args.length c8 (fT rs d.t).args ((w8.setCell ⟨w7.heap.size, 0, none⟩ (.string (fT rs d.t).name)).setCell ⟨w7.heap.size, 1, none⟩ (.slice a8 (fT rs d.t).args.length c8))) := thB_set PB hPN hb8 hs8 (by simp); generalize ((w8.setCell ⟨w7.heap.size, 0, none⟩ (.string (fT rs d.t).name)).setCell ⟨w7.heap.size, 1, none⟩ (.slice a8 (fT rs d.t).args.length c8)) = w9 at *)
          | (have TB : Hid (ThB w4 w4.heap.size (fT rs d.t).name a8 (fT rs d.t).args.length c8 (fT rs d.t).args ((w8.setCell ⟨w4.heap.size, 0, none⟩ (.string (fT rs d.t).name)).setCell ⟨w4.heap.size, 1, none⟩ (.slice a8 (fT rs d.t).args.length c8))) := thB_set PB hPN hb8 hs8 (by have := hbl7.size; simp at this; omega); generalize ((w8.setCell ⟨w4.heap.size, 0, none⟩ (.string (fT rs d.t).name)).setCell ⟨w4.heap.size, 1, none⟩ (.slice a8 (fT rs d.t).args.length c8)) = w9 at *)
          | (have TB : Hid (ThB w4 w8.heap.size (fT rs d.t).name a8 (fT rs d.t).args.length c8 (fT rs d.t).args (w8.alloc (.cells #[.string (fT rs d.t).name, .slice a8 (fT rs d.t).args.length c8] 25))) := ⟨Blk.new w8 _ _, hb8.alloc hb8.size _, (hs8.later ((Below.refl _ _).alloc (Nat.le_refl _) _)).mono fun b hb _ => by have := hb7.size; omega⟩; generalize (w8.alloc (.cells #[.string (fT rs d.t).name, .slice a8 (fT rs d.t).args.length c8] 25)) = w9 at *)
        all_goals
          have c0 : w9.cell? ⟨A, 0, none⟩ = some (.string d.nm) := (BK.out.below TB.out.2.1 hAw).cell 0
          have p0' := TB.out.1.cell 0
          have p1' := TB.out.1.cell 1
          obtain ⟨w10, hrun, hM10, hz10, ho10, ht10, hu10, hk10⟩ := run_put (P := Try.prog) Try.underlying69 Try.underlying9 (HMW.out.below TB.out.2.1 hBw) d.nm (.agg #[.string (fT rs d.t).name, .slice a8 (fT rs d.t).args.length c8]) HNO.out
          have HM10 : Hid (MapAt w10 w3.heap.size ((Z ++ [(fB rs d, a8, c8)]).map toP)) := by unfold Hid; rw [List.map_append]; exact hM10
          have HB9 := hide (HBW.out.trans (TB.out.2.1.mono HBW.out.size))
          have HB10 : Hid (Below w3.heap.size w3 w10) := ⟨ho10.trans HB9.out.os, ht10.trans HB9.out.tape, hu10.trans HB9.out.output, by rw [hz10]; exact HB9.out.size, fun j hj => (hk10 j (by omega)).trans (HB9.out.block j hj)⟩
          have HZ10 : Hid (∀ x ∈ Z ++ [(fB rs d, a8, c8)], Sl w10 (fun b => w3.heap.size < b) x.2.1 x.1.t.args) := fun x hx => by
            rcases List.mem_append.1 hx with hx | hx
            · exact ((HZW.out x hx).later TB.out.2.1).kept fun b hb => hk10 b (by omega)
            · have e : x = (fB rs d, a8, c8) := by simpa using hx
              subst e
              exact (TB.out.2.2.kept fun b hb => hk10 b (by omega)).mono fun b hb _ => by omega
          clear hM10 hz10 ho10 ht10 hu10 hk10
          go_wp2_with fail
          go_roundw
          case rel => exact ⟨k + 1, Z ++ [(fB rs d, a8, c8)], by go_num, by omega, HM10.out, HZE1.out a8 c8, HZ10.out, HSZ1.out hle, HB10.out⟩
          case measure => simp [intOf]; omega
      · have FIA : Hid (∀ B w', Env w' B q (fun b => X b ∧ b < w.heap.size) rs L → Below w4.heap.size w4 w' → Calls Try.prog 33 #[.agg #[.string d.t.name, .slice a' d.t.args.length c'], .func (.func 52) #[] #[.pointer (some ⟨B, 0, none⟩)]] w' fun e w'' => e = .returned (.tuple #[.agg #[.string ⟨#[]⟩, .slice none 0 0], .int .i64 8]) ∧ Below w4.heap.size w4 w'' ∧ Below w'.heap.size w' w'') := fun B w' hE hb => by
          refine (sfill_any B q rs L d.t a' c' w' _ (HSW.out.later hb) hE).mono ?_
          rintro e w8 ⟨hb8, ⟨h8, _⟩ | ⟨_, rfl⟩⟩
          · omega
          · exact ⟨rfl, hb.trans (hb8.mono hb.size), hb8⟩
        go_region_held3 (fun w' => w'.cell? ⟨A, 1, none⟩ = some (.string d.t.name) ∧ w'.cell? ⟨A, 2, none⟩ = some (.slice a' d.t.args.length c')) (first | exact hS | exact ⟨t05, t15⟩ | exact two_keep (two_keep hS nP nP) nP nP | exact two_keep hS nP nP | go_keep)
          (first
            | (go_at_call 34; refine (LKA.out _ (by first | exact Below.refl _ _ | exact (Below.refl _ _).drew | exact ((Below.refl _ _).alloc (Nat.le_refl _) _) | exact ((Below.refl _ _).drew.alloc (Nat.le_refl _) _) | exact ((Below.refl _ _).alloc (Nat.le_refl _) _).drew)).mono ?_; rintro e w7 ⟨B, rfl, hE7, hb7, hbl7⟩; have hS := KP.out _ hb7)
            | (go_at_call 33; refine (FIA.out _ _ (by first | exact hE7 | exact hE7.later ((Below.refl _ _).alloc (Nat.le_refl _) _)) (by first | exact hb7 | exact hb7.drew | exact hb7.alloc hb7.size _)).mono ?_; rintro e w8 ⟨rfl, hb8, hbl8⟩; have hS := KP.out _ hb8;
                first
                  | (have PB : Blk w8 w7.heap.size #[.string ⟨#[]⟩, .slice none 0 0] 25 := (Blk.new w7 _ _).below hbl8 (by simp); have p0 := PB.cell 0; have p1 := PB.cell 1; have pf := PB.frozen; have pl := PB.lt; have hPN : w4.heap.size ≤ w7.heap.size := hb7.size; have nP : w7.heap.size ≠ A := by omega)
                  | (have PB : Blk w8 w4.heap.size #[.string ⟨#[]⟩, .slice none 0 0] 25 := (((Blk.new w4 _ _).drewN 1).below hbl7 (by simp)).below hbl8 (by have := hbl7.size; simp at this; omega); have p0 := PB.cell 0; have p1 := PB.cell 1; have pf := PB.frozen; have pl := PB.lt; have hPN : w4.heap.size ≤ w4.heap.size := Nat.le_refl _; have nP : w4.heap.size ≠ A := by omega)
                  | skip))
        all_goals first
          | (have TB : Hid (Below w4.heap.size w4 ((w8.setCell ⟨w7.heap.size, 0, none⟩ (.string ⟨#[]⟩)).setCell ⟨w7.heap.size, 1, none⟩ (.slice none 0 0))) := ((hb8.setCell (by simpa using hPN) _).setCell (by simpa using hPN) _); generalize ((w8.setCell ⟨w7.heap.size, 0, none⟩ (.string ⟨#[]⟩)).setCell ⟨w7.heap.size, 1, none⟩ (.slice none 0 0)) = w9 at *)
          | (have TB : Hid (Below w4.heap.size w4 ((w8.setCell ⟨w4.heap.size, 0, none⟩ (.string ⟨#[]⟩)).setCell ⟨w4.heap.size, 1, none⟩ (.slice none 0 0))) := ((hb8.setCell (by exact hPN) _).setCell (by exact hPN) _); generalize ((w8.setCell ⟨w4.heap.size, 0, none⟩ (.string ⟨#[]⟩)).setCell ⟨w4.heap.size, 1, none⟩ (.slice none 0 0)) = w9 at *)
          | (have TB : Hid (Below w4.heap.size w4 (w8.alloc (.cells #[.string ⟨#[]⟩, .slice none 0 0] 25))) := hb8.alloc hb8.size _; generalize (w8.alloc (.cells #[.string ⟨#[]⟩, .slice none 0 0] 25)) = w9 at *)
        all_goals
          have HFL := hide (HFU.out (by omega))
          go_wp2_with fail
          refine bodyPost_ret (v := .tuple #[.slice none 0 0, .int .i64 8]) (by simp [results, Try.results14, go_sem]) rfl ?_
          exact ⟨HB3.out.trans ((HBW.out.trans (TB.out.mono HBW.out.size)).mono HB3.out.size), Or.inr (Or.inr (Or.inl ⟨HBE.out, HBR.out, HFL.out, rfl⟩))⟩
    · have hkl : k = ls.length := by omega
      have htk : ls.take k = ls := List.take_of_length_le (by omega)
      have HFN : Hid (fullB ls rs = false) := fullB_no (by rw [← htk]; exact HSZ.out)
      have HZL : Hid (Z.map (·.1) = ls.map (fB rs)) := by have h := HZE.out; rw [htk] at h; exact h
      obtain ⟨Zq, rfl, hZq, hZqs⟩ := pairsL_Z HP3.out
      have HZQ := hide hZq
      have HZQS := hide hZqs
      obtain ⟨o, hrange, hR0⟩ := (HM3.out.below hb hq3).range (P := Try.prog) Try.underlying69
      have HR0 := hide hR0
      have HAZ : Hid (ApartB (Z.map (·.1))) := by
        unfold Hid
        rw [HZL.out]
        unfold ApartB
        rw [List.pairwise_map]
        exact (bindsE_sorted HBE.out).apart
      have HAQ : Hid (ApartB (Zq.map (·.1))) := by unfold Hid; rw [hZq]; exact (bindsE_sorted HBR.out).apart
      have hqI : q < wr.heap.size := by have := hb.size; omega
      clear hb hkl htk hZq hZqs hR0
      have hz : ∀ w', (zeroValue 25).run Try.prog w' = .ok (.agg #[.string ⟨#[]⟩, .slice none 0 0]) w' := fun w' => Try.zeroValue25 w'
      go_wp2_with fail
      have HM5 := hide (HM.out.below ((Below.refl _ _).alloc (Nat.le_refl _) o) hMr)
      have HB5 := hide (HB.out.alloc HB.out.size o)
      have HZ5 : Hid (∀ x ∈ Z, Sl (wr.alloc o) (fun b => w3.heap.size < b ∧ b < wr.heap.size) x.2.1 x.1.t.args) := fun x hx => ((HZS.out x hx).mono (Y := fun b => w3.heap.size < b ∧ b < wr.heap.size) fun b h1 h2 => ⟨h1, h2⟩).later ((Below.refl _ _).alloc (Nat.le_refl _) o)
      clear hrange
      generalize wr.alloc o = w5 at *
      generalize wr.heap.size = I at *
      go_loopw [55] (fun _ wr' => T2Inv w3 w5 q I ls Z Zq wr') (fun _ wr' => leftAt wr' q I)
      case atStart => exact ⟨Zq, [], Z, HR0.out, List.Perm.refl _, HM5.out, by simp, HAZ.out, HB5.out, fun _ _ _ => rfl⟩
      case round =>
        obtain ⟨Zr, K, Zb, hR, hPq, hMb, hPb, hAb, hbb, hfr⟩ := hrel
        have HR := hide hR
        have HPQ := hide hPq
        have HMB := hide hMb
        have HPB := hide hPb
        have HAB := hide hAb
        have HBB := hide hbb
        have HFR := hide hfr
        have hIl := hR.lt
        clear hPq hPb hAb hMb
        rcases hR.next (P := Try.prog) 0 with ⟨he, hnx⟩ | ⟨p, rem', w1', hpm, hnx, hR1, hz1, ho1, ht1, hu1, hk1, hen⟩
        · have hZr : Zr = [] := by simpa using he
          subst hZr
          have HZK : Hid (Zb.Perm (Z ++ Zq.filter fun x => (forT ls x.1.nm).isNone)) := by
            have h1 : Zq.Perm K := by simpa using HPQ.out
            exact HPB.out.trans ((h1.symm.filter _).append_left Z)
          have hz5 := HBB.out.size
          clear hR hbb hfr he
          go_wp2_with fail
          refine (deleteFunc_any Zb w3.heap.size wr HMB.out HAB.out).mono ?_
          rintro e w6 ⟨rfl, Z6, hM6, hP6, hg6⟩
          have HM6 := hide hM6
          have HP6 := hide hP6
          have HB6 : Hid (Below w3.heap.size w3 w6) := HBB.out.grown hg6 HBB.out.size (fun j hj => by cases hj; exact Nat.le_refl _)
          have HIN : Hid (∀ x ∈ Z6, x ∈ Z ∨ x ∈ Zq) := fun x hx => by
            have h1 := (List.mem_filter.1 (hP6.subset hx)).1
            rcases List.mem_append.1 (HZK.out.subset h1) with h2 | h2
            · exact Or.inl h2
            · exact Or.inr (List.mem_filter.1 h2).1
          have HS6 : Hid (∀ x ∈ Z6, Sl w6 (fun b => (w3.heap.size < b ∧ b < I) ∨ (X b ∧ b < w.heap.size)) x.2.1 x.1.t.args) := fun x hx => by
            rcases HIN.out x hx with h1 | h1
            · refine ((HZ5.out x h1).kept (w' := w6) fun b hb => ?_).mono fun b hb _ => Or.inl hb
              rw [hg6.block b (by omega) (by simp; omega), HFR.out b hb.2 (by omega)]
            · exact ((HZQS.out x h1).below HB6.out fun b hb _ => by have := HB3.out.size; omega).mono fun b hb _ => Or.inr hb
          have HSZ6 : Hid (∀ x ∈ Z6, sizeL [x.1.t] ≤ 1000000) := fun x hx => by
            rcases HIN.out x hx with h1 | h1
            · have h2 : x.1 ∈ ls.map (fB rs) := by rw [← HZL.out]; exact List.mem_map.2 ⟨x, h1, rfl⟩
              obtain ⟨d, hd, e⟩ := List.mem_map.1 h2
              rw [← e]
              have h3 : ¬ (2000 < sizeL [fT rs d.t]) := fun h => by
                obtain ⟨i, hi, rfl⟩ := List.getElem_of_mem hd
                have := fullB_yes hi h
                rw [HFN.out] at this; cases this
              show sizeL [fT rs d.t] ≤ 1000000
              omega
            · have h2 : x.1 ∈ rs := by rw [← HZQ.out]; exact List.mem_map.2 ⟨x, h1, rfl⟩
              obtain ⟨i, hi, e⟩ := List.getElem_of_mem h2
              have h3 := (bindsE_at HBR.out i hi).2
              rw [e] at h3
              unfold mayE at h3
              split at h3
              · cases h3
              · omega
          have HL6 : Hid (Z6.length ≤ 1000000) := by
            have h1 := HP6.out.length_eq
            have h2 := List.length_filter_le (fun x : Bc => keepB x.1) Zb
            have h3 := HZK.out.length_eq
            have h4 := List.length_filter_le (fun x : Bc => (forT ls x.1.nm).isNone) Zq
            have h5 := congrArg List.length HZL.out
            have h6 := congrArg List.length HZQ.out
            have h7 := bindsE_len HBE.out
            have h8 := bindsE_len HBR.out
            simp at h3 h5 h6
            unfold Hid
            omega
          have HA6 : Hid (ApartB (Z6.map (·.1))) := by
            refine ApartB.perm ?_ (HP6.out.map (·.1))
            exact HAB.out.sublist (List.Sublist.map _ List.filter_sublist)
          have HPF : Hid ((Z6.map (·.1)).Perm ((bothB ls rs).filter keepB)) := by
            have h1 := HP6.out.map (·.1)
            have h2 : ((Zb.filter fun x => keepB x.1).map (·.1)).Perm ((bothB ls rs).filter keepB) := by
              have h3 := (HZK.out.map (·.1)).filter keepB
              have e1 : (Z ++ Zq.filter fun x => (forT ls x.1.nm).isNone).map (·.1) = bothB ls rs := by
                rw [List.map_append, HZL.out]
                unfold bothB
                rw [← HZQ.out, List.filter_map]
                rfl
              rw [e1] at h3
              rw [List.filter_map] at h3
              exact h3
            exact h1.trans h2
          clear hM6 hP6 hg6
          go_wp2_with fail
          refine (inOrder_of HSORT Z6 w3.heap.size w6 _ HM6.out HS6.out HSZ6.out HL6.out HA6.out).mono ?_
          rintro e w7 ⟨v7, l7, rfl, hbv7, hp7, hs7, hb7⟩
          have HBV7 := hide hbv7
          have HP7 := hide (hp7.trans HPF.out)
          have HS7 := hide hs7
          have HB7 := hide (HB3.out.trans ((HB6.out.trans (hb7.mono HB6.out.size)).mono HB3.out.size))
          have hz6 := HB6.out.size
          have hz3 := HB3.out.size
          clear hbv7 hp7 hs7 hb7
          go_wp2_with fail
          refine bodyPost_ret (v := .tuple #[v7, .int .i64 0]) (by simp [results, Try.results14, go_sem]) rfl ?_
          exact ⟨HB7.out, Or.inr (Or.inr (Or.inr ⟨HBE.out, HBR.out, HFN.out, v7, l7, rfl, HBV7.out.mono fun b hb _ => by omega, HP7.out, HS7.out⟩))⟩
        · obtain ⟨x, Z', hpx, rfl, rfl⟩ := next_lift hpm
          simp only [toP] at hnx hen
          have hxq : x ∈ Zq := HPQ.out.symm.subset (by simp [hpx.symm.subset (List.mem_cons_self (a := x))])
          have hBI : w3.heap.size < I := hMr
          have HBB1 : Hid (Below w3.heap.size w3 w1') := ⟨ho1.trans hbb.os, ht1.trans hbb.tape, hu1.trans hbb.output, by rw [hz1]; exact hbb.size, fun j hj => (hk1 j (by omega)).trans (hbb.block j hj)⟩
          have HFR1 : Hid (∀ b, b < I → b ≠ w3.heap.size → w1'.heap[b]? = w5.heap[b]?) := fun b h1 h2 => (hk1 b (by omega)).trans (hfr b h1 h2)
          have HMB1 := hide (HMB.out.kept (hk1 w3.heap.size (by omega)))
          have HR1 := hide hR1
          have hI1 : I < w1'.heap.size := hR1.lt
          have HPQ1 : Hid (Zq.Perm (K ++ [x] ++ Z')) := by
            have h2 := HPQ.out.trans (hpx.append_left K)
            unfold Hid
            simpa using h2
          have HMS : Hid (Z'.length < Zr.length) := by have := hpx.length_eq; simp at this; unfold Hid; omega
          clear hR hbb hfr hz1 ho1 ht1 hu1 hk1 hR1 hpm hpx
          have J0 := hide (Blk.new w1' #[.string x.1.t.name, .slice x.2.1 x.1.t.args.length x.2.2] 25)
          have bA := hide ((Below.refl w1'.heap.size w1').alloc (Nat.le_refl _) (.cells #[.string x.1.t.name, .slice x.2.1 x.1.t.args.length x.2.2] 25))
          generalize hw6 : w1'.alloc (.cells #[.string x.1.t.name, .slice x.2.1 x.1.t.args.length x.2.2] 25) = w6 at *
          have HBB2 := hide (HBB1.out.trans (bA.out.mono HBB1.out.size))
          have HFR2 : Hid (∀ b, b < I → b ≠ w3.heap.size → w6.heap[b]? = w5.heap[b]?) := fun b h1 h2 => (bA.out.block b (by omega)).trans (HFR1.out b h1 h2)
          have HMB2 := hide (HMB1.out.below bA.out (by omega))
          have HR2 := hide (HR1.out.below bA.out (by omega) hI1)
          have hI2 : I < w6.heap.size := by have := bA.out.size; omega
          cases hf : forT ls x.1.nm with
          | none =>
            have hno : mapGet (Zb.map toP) x.1.nm = none := mapGet_no fun y hy e => by
              rcases List.mem_append.1 (HPB.out.subset hy) with h1 | h1
              · have h2 : y.1 ∈ ls.map (fB rs) := by rw [← HZL.out]; exact List.mem_map.2 ⟨y, h1, rfl⟩
                obtain ⟨d, hd, e2⟩ := List.mem_map.1 h2
                obtain ⟨t, ht⟩ := forT_some_of hd
                have e3 : d.nm = x.1.nm := by rw [← e, ← e2]; rfl
                rw [e3, hf] at ht; cases ht
              · have h2 := HAQ.out.perm ((HPQ1.out.map (·.1)).symm)
                rw [List.map_append, List.map_append] at h2
                have h3 := (List.pairwise_append.1 (List.pairwise_append.1 h2).1).2.2 y.1 (List.mem_map.2 ⟨y, (List.mem_filter.1 h1).1, rfl⟩) x.1 (by simp)
                exact h3 e
            have hlk : (Instr.lookup 69 (.map (some w3.heap.size)) (.string x.1.nm) true).run Try.prog w6 = .ok (.tuple #[.agg #[.string ⟨#[]⟩, .slice none 0 0], .bool false]) w6 := by
              rw [run_look (P := Try.prog) Try.underlying69 Try.underlying9 (hz _) HMB2.out x.1.nm, hno]; rfl
            have bB := hide ((Below.refl w6.heap.size w6).alloc (Nat.le_refl _) (.cells #[.string ⟨#[]⟩, .slice none 0 0] 25))
            have J1 := hide (J0.out.alloc (.cells #[.string ⟨#[]⟩, .slice none 0 0] 25))
            have HMB3 := hide (HMB2.out.below bB.out (by omega))
            have HR3 := hide (HR2.out.below bB.out (by omega) hI2)
            have HBB3 := hide (HBB2.out.trans (bB.out.mono HBB2.out.size))
            have j0 := J1.out.cell 0
            have j1 := J1.out.cell 1
            have hF3 : ∀ b, b < I → b ≠ w3.heap.size → (w6.alloc (.cells #[.string ⟨#[]⟩, .slice none 0 0] 25)).heap[b]? = w5.heap[b]? := fun b h1 h2 => (bB.out.block b (by omega)).trans (HFR2.out b h1 h2)
            have HF3 := hide hF3
            clear hF3
            obtain ⟨w8, hrun, hM8, hz8, ho8, ht8, hu8, hk8⟩ := run_put (P := Try.prog) Try.underlying69 Try.underlying9 HMB3.out x.1.nm (.agg #[.string x.1.t.name, .slice x.2.1 x.1.t.args.length x.2.2]) hno
            have HM8 : Hid (MapAt w8 w3.heap.size ((Zb ++ [x]).map toP)) := by unfold Hid; rw [List.map_append]; exact hM8
            have HB8 : Hid (Below w3.heap.size w3 w8) := ⟨ho8.trans HBB3.out.os, ht8.trans HBB3.out.tape, hu8.trans HBB3.out.output, by rw [hz8]; exact HBB3.out.size, fun j hj => (hk8 j (by omega)).trans (HBB3.out.block j hj)⟩
            have HF8 : Hid (∀ b, b < I → b ≠ w3.heap.size → w8.heap[b]? = w5.heap[b]?) := fun b h1 h2 => (hk8 b h2).trans (HF3.out b h1 h2)
            have HR8 := hide (HR3.out.kept (w' := w8) (hk8 q (by omega)) (hk8 I (by omega)))
            have HP8 : Hid ((Zb ++ [x]).Perm (Z ++ (K ++ [x]).filter fun x => (forT ls x.1.nm).isNone)) := by
              unfold Hid
              rw [List.filter_append, List.filter_cons_of_pos (by rw [hf]; rfl), List.filter_nil, ← List.append_assoc]
              exact HPB.out.append_right [x]
            have HA8 : Hid (ApartB ((Zb ++ [x]).map (·.1))) := by
              unfold Hid
              rw [List.map_append]
              refine List.pairwise_append.2 ⟨HAB.out, by simp, fun a ha b hb e => ?_⟩
              obtain ⟨y, hy, rfl⟩ := List.mem_map.1 ha
              have eb : b = x.1 := by simpa using hb
              rw [eb] at e
              have h2 := mapGet_toP HAB.out y hy
              rw [e, hno] at h2
              cases h2
            clear hM8 hz8 ho8 ht8 hu8 hk8 hf hno
            go_wp2_with fail
            go_roundw
            case rel => exact ⟨Z', K ++ [x], Zb ++ [x], HR8.out, HPQ1.out, HM8.out, HP8.out, HA8.out, HB8.out, HF8.out⟩
            case measure =>
              rw [HR8.out.left, HR.out.left]
              have := HMS.out
              simpa using this
          | some t0 =>
            obtain ⟨d, hd, hn, _⟩ := forT_mem hf
            have h2 : fB rs d ∈ Z.map (·.1) := by rw [HZL.out]; exact List.mem_map.2 ⟨d, hd, rfl⟩
            obtain ⟨y, hy, ey⟩ := List.mem_map.1 h2
            have hyb : y ∈ Zb := HPB.out.symm.subset (by simp [hy])
            have hyn : y.1.nm = x.1.nm := by rw [ey]; exact hn
            have hsome := mapGet_toP HAB.out y hyb
            rw [hyn] at hsome
            have hlk : (Instr.lookup 69 (.map (some w3.heap.size)) (.string x.1.nm) true).run Try.prog w6 = .ok (.tuple #[.agg #[.string y.1.t.name, .slice y.2.1 y.1.t.args.length y.2.2], .bool true]) w6 := by
              rw [run_look (P := Try.prog) Try.underlying69 Try.underlying9 (hz _) HMB2.out x.1.nm, hsome]; rfl
            have bB := hide ((Below.refl w6.heap.size w6).alloc (Nat.le_refl _) (.cells #[.string y.1.t.name, .slice y.2.1 y.1.t.args.length y.2.2] 25))
            have HMB3 := hide (HMB2.out.below bB.out (by omega))
            have HR3 := hide (HR2.out.below bB.out (by omega) hI2)
            have HBB3 := hide (HBB2.out.trans (bB.out.mono HBB2.out.size))
            have HF3 : Hid (∀ b, b < I → b ≠ w3.heap.size → (w6.alloc (.cells #[.string y.1.t.name, .slice y.2.1 y.1.t.args.length y.2.2] 25)).heap[b]? = w5.heap[b]?) := fun b h1 h2 => (bB.out.block b (by omega)).trans (HFR2.out b h1 h2)
            have HP8 : Hid (Zb.Perm (Z ++ (K ++ [x]).filter fun x => (forT ls x.1.nm).isNone)) := by
              unfold Hid
              rw [List.filter_append, List.filter_cons_of_neg (by rw [hf]; simp), List.filter_nil, List.append_nil]
              exact HPB.out
            clear hd hn h2 hy ey hyb hyn hsome hf
            go_wp2_with fail
            go_roundw
            case rel => exact ⟨Z', K ++ [x], Zb, HR3.out, HPQ1.out, HMB3.out, HP8.out, HAB.out, HBB3.out, HF3.out⟩
            case measure =>
              rw [HR3.out.left, HR.out.left]
              have := HMS.out
              simpa using this
#print axioms then_of
/-- Then. -/
theorem then_any (ls rs : List Bd) (u v : Value) (w : World) (X : Nat → Prop) (hu : BV w X u ls) (hv : BV w X v rs) :
    Calls Try.prog 14 #[u, v] w fun e w' => ThPost w ls rs e w' := then_of (hide sortBinds) ls rs u v w X hu hv
end Go.Proofs.Ytpjdkdebjkpmmai

/- What matching an instance finds: plain. -/
namespace Go.Proofs.Ytpjdkdebjkpmmai
open Go.RowKit
set_option linter.unusedSimpArgs false
set_option linter.unusedVariables false

theorem eqL_refl : ∀ l : List Tm, eqL l l = true := by
  intro l
  induction l using Tm.indL with
  | h0 => simp [eqL]
  | h s l r ihl ihr => simp [eqL, ihl, ihr]
theorem sameB_refl (t : Tm) : sameB t t = true := by simp [sameB, eqL_refl]

/-- What stands there is what the bindings put for it. -/
def Con (ls h : List Bd) : Prop := ∀ d ∈ h, d.t = onT ls ⟨d.nm, []⟩
theorem forT_inB {h : List Bd} {s : ByteArray} : (forT h s).isSome = inB s (h.map (·.nm)) := by
  induction h with
  | nil => rfl
  | cons d r ih =>
    by_cases e : d.nm = s
    · simp [forT, inB, e]
    · have hb := bytes_no e
      simp only [forT, e, if_false, List.map_cons, inB, List.any_cons, hb, Bool.false_or]
      exact ih
theorem onT_sym {ls : List Bd} (h : bindsE ls = 0) {s : ByteArray} (hs : varB s = false) (l : List Tm) : onT ls ⟨s, l⟩ = ⟨s, onL ls l⟩ := by
  refine onT_deep (Or.inr ?_)
  cases hf : forT ls s with
  | none => rfl
  | some x => rw [(forT_var h hf).1] at hs; cases hs

theorem mtL_on {ls : List Bd} (hE : bindsE ls = 0) : ∀ (l : List Tm) (h : List Bd), errL l = 0 → Con ls h → ∃ h', mtL l (onL ls l) h = some h' ∧ Con ls h' ∧ h'.map (·.nm) = varsP (h.map (·.nm)) (preL l) := by
  intro l
  induction l using Tm.indL with
  | h0 => intro h _ hc; exact ⟨h, by simp [mtL, onL], hc, by simp [varsP, preL]⟩
  | h s l r ihl ihr =>
    intro h he hc
    obtain ⟨h1, h2, h3⟩ := errL_parts he
    have key : ∃ g, mtT ⟨s, l⟩ (onT ls ⟨s, l⟩) h = some g ∧ Con ls g ∧ g.map (·.nm) = varsP (h.map (·.nm)) (⟨s, l⟩ :: preL l) := by
      cases hv : varB s with
      | true =>
        have hl := h1 hv
        subst hl
        cases hf : forT h s with
        | some x =>
          obtain ⟨d, hd, hn, ht⟩ := forT_mem hf
          have hx : x = onT ls ⟨s, []⟩ := by rw [← ht, hc d hd, hn]
          refine ⟨h, ?_, hc, ?_⟩
          · rw [mtT_old hv hf, hx, if_pos (sameB_refl _)]
          · have hin : inB s (h.map (·.nm)) = true := by rw [← forT_inB, hf]; rfl
            show _ = varsP (addV (h.map (·.nm)) s) (preL [])
            rw [addV_in hv hin]
            simp [varsP, preL]
        | none =>
          refine ⟨h ++ [⟨s, onT ls ⟨s, []⟩⟩], mtT_new hv hf, fun d hd => ?_, ?_⟩
          · rcases List.mem_append.1 hd with hd | hd
            · exact hc d hd
            · have e : d = ⟨s, onT ls ⟨s, []⟩⟩ := by simpa using hd
              rw [e]
          · have hin : inB s (h.map (·.nm)) = false := by rw [← forT_inB, hf]; rfl
            show _ = varsP (addV (h.map (·.nm)) s) (preL [])
            rw [addV_yes hv hin]
            simp [varsP, preL]
      | false =>
        obtain ⟨g, g1, g2, g3⟩ := ihl h h2 hc
        refine ⟨g, ?_, g2, ?_⟩
        · rw [onT_sym hE hv, mtT_deep hv (by simp) (onL_length ls l).symm]
          exact g1
        · show _ = varsP (addV (h.map (·.nm)) s) (preL l)
          rw [addV_no hv]
          exact g3
    obtain ⟨g, g1, g2, g3⟩ := key
    obtain ⟨h', k1, k2, k3⟩ := ihr g h3 g2
    refine ⟨h', ?_, k2, ?_⟩
    · rw [onL_cons, mtL_cons, g1]
      exact k1
    · rw [k3, g3, preL]
      rw [show (⟨s, l⟩ :: (preL l ++ preL r) : List Tm) = (⟨s, l⟩ :: preL l) ++ preL r from rfl, varsP_append]
theorem mtT_on {ls : List Bd} (hE : bindsE ls = 0) {p : Tm} (he : errL [p] = 0) : ∃ h', mtT p (onT ls p) [] = some h' ∧ Con ls h' ∧ h'.map (·.nm) = varsP [] (preL [p]) := by
  obtain ⟨h', h1, h2, h3⟩ := mtL_on hE [p] [] he (by intro d hd; cases hd)
  refine ⟨h', ?_, h2, h3⟩
  rw [onL_cons, mtL_cons] at h1
  cases hm : mtT p (onT ls p) [] with
  | none => rw [hm] at h1; cases h1
  | some g => rw [hm] at h1; simpa [mtL] using h1

#print axioms mtT_on
end Go.Proofs.Ytpjdkdebjkpmmai

/- Walks: numbers out of raw numbers. -/
namespace Go.Proofs.Ytpjdkdebjkpmmai
open Go.RowKit
set_option linter.unusedSimpArgs false
set_option linter.unusedVariables false
set_option maxRecDepth 8000

theorem mod_nat {x : Int} (hx : 0 ≤ x) {n : Nat} (hn : 0 < n) : ∃ k : Nat, x % (n : Int) = k ∧ k < n := by
  have h1 := Int.emod_nonneg x (b := (n : Int)) (by omega)
  have h2 := Int.emod_lt_of_pos x (b := (n : Int)) (by omega)
  exact ⟨(x % (n : Int)).toNat, by omega, by omega⟩

theorem pick_any (c : Int) (n : Nat) (hn : 0 < n) (hn2 : n ≤ 2000000) (hc : -9223372036854775808 ≤ c ∧ c ≤ 9223372036854775807) (w : World) :
    Calls Try.prog 6 #[.int .i64 c, .int .i64 (n : Int)] w fun e w' => ∃ k : Nat, e = .returned (.int .i64 (k : Int)) ∧ k < n ∧ w' = w := by
  go_enter Try.func6, Try.ntmps6
  by_cases h : c < 0
  · go_wp2_with fail
    go_ret
    obtain ⟨k, hk, hkn⟩ := mod_nat (x := -(c + 1)) (by omega) hn
    refine ⟨k, ?_, hkn, rfl⟩
    have h1 : -(c + 1).tmod (n : Int) = k := by rw [← Int.neg_tmod, Int.tmod_eq_emod_of_nonneg (by omega)]; exact hk
    simp [h1]
  · go_wp2_with fail
    go_ret
    obtain ⟨k, hk, hkn⟩ := mod_nat (x := c) (by omega) hn
    exact ⟨k, by simp [hk], hkn, rfl⟩

def pickN (c : Int) (n : Nat) : Nat := if c < 0 then (-(c + 1) % (n : Int)).toNat else (c % (n : Int)).toNat
theorem pickN_lt (c : Int) (n : Nat) (hn : 0 < n) : pickN c n < n := by
  unfold pickN
  split
  · obtain ⟨k, hk, hkn⟩ := mod_nat (x := -(c + 1)) (by omega) hn
    rw [hk]; simpa using hkn
  · obtain ⟨k, hk, hkn⟩ := mod_nat (x := c) (by omega) hn
    rw [hk]; simpa using hkn

theorem pick_eq (c : Int) (n : Nat) (hn : 0 < n) (hn2 : n ≤ 2000000) (hc : -9223372036854775808 ≤ c ∧ c ≤ 9223372036854775807) (w : World) :
    Calls Try.prog 6 #[.int .i64 c, .int .i64 (n : Int)] w fun e w' => e = .returned (.int .i64 (pickN c n : Int)) ∧ w' = w := by
  go_enter Try.func6, Try.ntmps6
  by_cases h : c < 0
  · have HK : Hid (((pickN c n : Nat) : Int) = -(c + 1).tmod (n : Int)) := by
      obtain ⟨k, hk, hkn⟩ := mod_nat (x := -(c + 1)) (by omega) hn
      have h1 : -(c + 1).tmod (n : Int) = k := by rw [← Int.neg_tmod, Int.tmod_eq_emod_of_nonneg (by omega)]; exact hk
      unfold Hid pickN
      rw [h1, if_pos h, hk]; simp
    go_wp2_with fail
    go_ret
    exact ⟨by simp [HK.out], rfl⟩
  · have HK : Hid (((pickN c n : Nat) : Int) = c % (n : Int)) := by
      obtain ⟨k, hk, hkn⟩ := mod_nat (x := c) (by omega) hn
      unfold Hid pickN
      rw [if_neg h, hk]; simp
    go_wp2_with fail
    go_ret
    exact ⟨by simp [HK.out], rfl⟩

theorem wrapI (x : Int) (h : -9223372036854775808 ≤ x ∧ x ≤ 9223372036854775807) : IntKind.i64.wrap x = x := by
  rw [IntKind.wrap_i64]; omega

def Rng (z : Int) : Prop := -9223372036854775808 ≤ z ∧ z ≤ 9223372036854775807

set_option maxHeartbeats 1000000 in
theorem raw_any (zs : List Int) (u : Value) (w : World) (X : Nat → Prop) (hu : PV w X u zs) (hr : ∀ z ∈ zs, Rng z) (i : Nat) (hi : i ≤ 1000000) (hzl : zs.length ≤ 1000000) :
    Calls Try.prog 30 #[u, .int .i64 (i : Int)] w fun e w' => ∃ k : Nat, e = .returned (.int .i64 (k : Int)) ∧ k ≤ 100000000000 ∧ Below w.heap.size w w' := by
  obtain ⟨a, c, rfl, hl, h⟩ := hu
  by_cases h0 : zs.length = 0
  · go_enter Try.func30, Try.ntmps30
    go_wp2_with fail
    go_ret
    exact ⟨i * 31, by simp, by omega, Below.refl _ _⟩
  · rcases h with h | ⟨b, o, rfl, hX, hc⟩
    · subst h; simp at h0
    · have hpos : 0 < zs.length := by omega
      obtain ⟨m, hm, hlt⟩ := mod_nat (x := (i : Int)) (by omega) hpos
      obtain ⟨d, hd, hdl⟩ : ∃ d : Nat, (i : Int) / (zs.length : Int) = d ∧ d ≤ i := ⟨i / zs.length, by simp, Nat.div_le_self _ _⟩
      have hm2 : (i : Int).tmod (zs.length : Int) = m := by rw [Int.tmod_eq_emod_of_nonneg (by omega)]; exact hm
      have hd2 : (i : Int).tdiv (zs.length : Int) = d := by rw [Int.tdiv_eq_ediv_of_nonneg (by omega)]; exact hd
      have hcc := hc m hlt
      have hrg := hr _ (List.getElem_mem hlt)
      generalize zs[m] = z at *
      have hm0 : (0 : Int) ≤ (m : Int) := by omega
      have hm1 : (m : Int) < (zs.length : Int) := by omega
      clear hc hr
      go_enter Try.func30, Try.ntmps30
      go_wp2_with fail
      go_region_held3 (fun w' => w'.cell? ⟨b, o + m, none⟩ = some (.int .i64 z)) (first | exact hcc | go_keep)
        ((go_at_call 6; refine (pick_any z 1000003 (by decide) (by decide) hrg _).mono ?_; rintro e w1 ⟨k, rfl, hk, rfl⟩))
      go_wp2_with fail
      go_ret
      refine ⟨k + d * 7919, by simp [wrapI (d : Int) (by omega), wrapI ((d : Int) * 7919) (by omega), wrapI ((k : Int) + (d : Int) * 7919) (by omega)], by omega, ?_⟩
      exact (Below.refl _ _).drew
#print axioms raw_any
#print axioms pick_any
end Go.Proofs.Ytpjdkdebjkpmmai

/- Walks: terms out of raw numbers. -/
namespace Go.Proofs.Ytpjdkdebjkpmmai
open Go.RowKit
set_option linter.unusedSimpArgs false
set_option linter.unusedVariables false
set_option maxRecDepth 8000

theorem leaf_any (s : ByteArray) (w : World) :
    Calls Try.prog 38 #[.string s] w fun e w' => e = .returned (.agg #[.string s, .slice none 0 0]) ∧ Below w.heap.size w w' := by
  go_enter Try.func38, Try.ntmps38
  go_wp2_with fail
  have hb := Blk.new w #[.string s, .slice none 0 0] 25
  have c0 := hb.cell 0
  have c1 := hb.cell 1
  refine bodyPost_ret (v := .agg #[.string s, .slice none 0 0]) (by simp [results, Try.results38, go_sem, c0, c1]) rfl ⟨rfl, (Below.refl _ _).alloc (Nat.le_refl _) _⟩

/-- How many knots at the most. -/
def top (m : Nat) : Nat := if m < 3 then 1 else 2 * m - 1

/-- No error, and no variables but the first ones. -/
def okV (nv : Nat) (l : List Tm) : Prop := errL l = 0 ∧ ∀ k ∈ preL l, varB k.name = true → k.name ∈ ([⟨#[88]⟩, ⟨#[89]⟩, ⟨#[90]⟩, ⟨#[85]⟩] : List ByteArray).take nv
def GrowPV (nv : Nat) (w : World) (i m : Nat) (e : Ending) (w' : World) : Prop :=
  ∃ (a : Option Addr) (c n : Nat) (t : Tm), e = .returned (.tuple #[.agg #[.string t.name, .slice a t.args.length c], .int .i64 (n : Int)]) ∧ Sl w' (fun b => w.heap.size ≤ b) a t.args ∧ t.args.length ≤ c ∧ c ≤ 9223372036854775807 ∧ sizeL [t] ≤ top m ∧ i ≤ n ∧ n ≤ i + top m ∧ Below w.heap.size w w' ∧ okV nv [t]

theorem top_pos (m : Nat) : 1 ≤ top m := by unfold top; split <;> omega

theorem top_step {m : Nat} (h : 3 ≤ m + 1) : top m + 1 ≤ top (m + 1) := by unfold top; split <;> split <;> omega

theorem top_half {m h : Nat} (hm : 3 ≤ m + 1) (hh : h = (m + 1) / 2) : 2 * top h + 1 ≤ top (m + 1) := by unfold top; split <;> split <;> omega

theorem err_leaf {s : ByteArray} (h : nameB s = true) : errL [(⟨s, []⟩ : Tm)] = 0 := by simp [errL, h]
theorem err_node {s : ByteArray} {l : List Tm} (h : nameB s = true) (hv : varB s = false) (hl : errL l = 0) : errL [(⟨s, l⟩ : Tm)] = 0 := by simp [errL, h, hv, hl]

theorem ok_node {nv : Nat} {s : ByteArray} {l : List Tm} (h : nameB s = true) (hv : varB s = false) (hl : okV nv l) : okV nv [(⟨s, l⟩ : Tm)] := by
  refine ⟨err_node h hv hl.1, fun k hk hvk => ?_⟩
  simp only [preL, List.append_nil, List.mem_cons] at hk
  rcases hk with rfl | hk
  · simp only at hvk
    rw [hv] at hvk; cases hvk
  · exact hl.2 k hk hvk
theorem preL_cons2 (t : Tm) (r : List Tm) : preL (t :: r) = preL [t] ++ preL r := by
  obtain ⟨s, l⟩ := t
  simp [preL]
theorem ok_two {nv : Nat} {a b : Tm} (ha : okV nv [a]) (hb : okV nv [b]) : okV nv [a, b] := by
  refine ⟨by rw [errL_cons, if_pos ha.1]; exact hb.1, fun k hk hv => ?_⟩
  rw [preL_cons2] at hk
  rcases List.mem_append.1 hk with hk | hk
  · exact ha.2 k hk hv
  · exact hb.2 k hk hv
theorem grow_leaf {nv : Nat} {w w' : World} {s : ByteArray} {i m : Nat} (hes : okV nv [(⟨s, []⟩ : Tm)]) (hb : Below w.heap.size w w') : GrowPV nv w i m (.returned (.tuple #[.agg #[.string s, .slice none 0 0], .int .i64 ((i : Int) + 1)])) w' := by
  have := top_pos m
  exact ⟨none, 0, i + 1, ⟨s, []⟩, by simp, ⟨by simp, Or.inl rfl⟩, by simp, by omega, by simp [sizeL]; omega, by omega, by omega, hb, hes⟩

theorem pick_var (w : World) (T k nv : Nat) (hk : k < nv) (hnv : nv ≤ 4) : ∃ s, okV nv [(⟨s, []⟩ : Tm)] ∧ (w.alloc (.cells #[.string ⟨#[88]⟩, .string ⟨#[89]⟩, .string ⟨#[90]⟩, .string ⟨#[85]⟩] T)).cell? ⟨w.heap.size, k, none⟩ = some (.string s) := by
  have h := heap_alloc_new w (.cells (([⟨#[88]⟩, ⟨#[89]⟩, ⟨#[90]⟩, ⟨#[85]⟩] : List ByteArray).map Value.string).toArray T)
  have hk4 : k < ([⟨#[88]⟩, ⟨#[89]⟩, ⟨#[90]⟩, ⟨#[85]⟩] : List ByteArray).length := by simp; omega
  refine ⟨([⟨#[88]⟩, ⟨#[89]⟩, ⟨#[90]⟩, ⟨#[85]⟩] : List ByteArray)[k], ⟨err_leaf ((show ∀ s ∈ ([⟨#[88]⟩, ⟨#[89]⟩, ⟨#[90]⟩, ⟨#[85]⟩] : List ByteArray), nameB s = true by decide) _ (List.getElem_mem hk4)), fun x hx _ => ?_⟩, ?_⟩
  · simp only [preL, List.append_nil, List.mem_cons, List.not_mem_nil, or_false] at hx
    rw [hx]
    rw [← List.getElem_take (h := by simp; omega) (j := nv)]
    exact List.getElem_mem _
  · have h2 := Lib.cell_of_heap h k
    refine h2.trans ?_
    rw [List.getElem?_toArray, List.getElem?_map, List.getElem?_eq_getElem hk4]
    rfl
theorem pick_const (w : World) (T k nv : Nat) (hk : k < 3) : ∃ s, okV nv [(⟨s, []⟩ : Tm)] ∧ (w.alloc (.cells #[.string ⟨#[97]⟩, .string ⟨#[98]⟩, .string ⟨#[99]⟩] T)).cell? ⟨w.heap.size, k, none⟩ = some (.string s) := by
  have h := heap_alloc_new w (.cells (([⟨#[97]⟩, ⟨#[98]⟩, ⟨#[99]⟩] : List ByteArray).map Value.string).toArray T)
  have hk4 : k < ([⟨#[97]⟩, ⟨#[98]⟩, ⟨#[99]⟩] : List ByteArray).length := by simpa using hk
  refine ⟨([⟨#[97]⟩, ⟨#[98]⟩, ⟨#[99]⟩] : List ByteArray)[k], ⟨err_leaf ((show ∀ s ∈ ([⟨#[97]⟩, ⟨#[98]⟩, ⟨#[99]⟩] : List ByteArray), nameB s = true by decide) _ (List.getElem_mem hk4)), fun x hx hv => ?_⟩, ?_⟩
  · simp only [preL, List.append_nil, List.mem_cons, List.not_mem_nil, or_false] at hx
    rw [hx] at hv
    have := (show ∀ s ∈ ([⟨#[97]⟩, ⟨#[98]⟩, ⟨#[99]⟩] : List ByteArray), varB s = false by decide) _ (List.getElem_mem hk4)
    rw [this] at hv; cases hv
  · have h2 := Lib.cell_of_heap h k
    refine h2.trans ?_
    rw [List.getElem?_toArray, List.getElem?_map, List.getElem?_eq_getElem hk4]
    rfl
theorem pick_cell (w : World) (l : List ByteArray) (T k : Nat) (hl : ∀ s ∈ l, nameB s = true) (hk : k < l.length) : ∃ s, errL [(⟨s, []⟩ : Tm)] = 0 ∧ (w.alloc (.cells (l.map Value.string).toArray T)).cell? ⟨w.heap.size, k, none⟩ = some (.string s) := by
  have h := heap_alloc_new w (.cells (l.map Value.string).toArray T)
  exact ⟨l[k], err_leaf (hl _ (List.getElem_mem hk)), by rw [Lib.cell_of_heap h]; simp [hk]⟩

theorem sl_one {w : World} {X Z : Nat → Prop} {B : Nat} {t : Tm} {a : Option Addr} {c T : Nat} (hb : w.heap[B]? = some (.cells #[.string t.name, .slice a t.args.length c] T (0, 0))) (hB : X B) (hs : Sl w Z a t.args) (hZ : ∀ b, Z b → b < w.heap.size → X b) : Sl w X (some ⟨B, 0, none⟩) [t] := by
  refine ⟨by simp, Or.inr ⟨B, 0, rfl, lies_mk _ _ _ fun i hi => ?_⟩⟩
  simp at hi
  subst hi
  exact ⟨hB, by simp [World.cell?, hb], a, c, by simp [World.cell?, hb], hs.mono hZ⟩

theorem grow_one {nv : Nat} {w w5 : World} {Z : Nat → Prop} {s : ByteArray} {i m n T : Nat} {a5 : Option Addr} {c5 : Nat} {t5 : Tm} {v0 v1 : Value} {o1 : Obj} (hB : Below w.heap.size w w5) (hlt : w.heap.size < w5.heap.size) (hs : Sl w5 Z a5 t5.args) (hZ : ∀ b, Z b → w.heap.size < b) (hz : sizeL [t5] ≤ top m) (hm : 3 ≤ m + 1) (hn : i ≤ n) (hn' : n ≤ i + 1 + top m) (hes : okV nv [(⟨s, [t5]⟩ : Tm)]) :
    GrowPV nv w i (m + 1) (.returned (.tuple #[.agg #[.string s, .slice (some ⟨w5.heap.size + 1, 0, none⟩) 1 1], .int .i64 (n : Int)])) ((((w5.setCell ⟨w.heap.size, 0, none⟩ v0).setCell ⟨w.heap.size, 1, none⟩ v1).alloc o1).alloc (.cells #[.string t5.name, .slice a5 t5.args.length c5] T)) := by
  have ht := top_step hm
  have hb0 : Below w.heap.size w (((w5.setCell ⟨w.heap.size, 0, none⟩ v0).setCell ⟨w.heap.size, 1, none⟩ v1).alloc o1) := ((hB.setCell (by simp) _).setCell (by simp) _).alloc (by simp [World.setCell]; omega) _
  refine ⟨some ⟨w5.heap.size + 1, 0, none⟩, 1, n, ⟨s, [t5]⟩, rfl, ?_, by simp, by omega, by simp [sizeL] at hz ⊢; omega, hn, by omega, hb0.alloc hb0.size _, hes⟩
  have hnew := heap_alloc_new (((w5.setCell ⟨w.heap.size, 0, none⟩ v0).setCell ⟨w.heap.size, 1, none⟩ v1).alloc o1) (.cells #[.string t5.name, .slice a5 t5.args.length c5] T)
  have e : (((w5.setCell ⟨w.heap.size, 0, none⟩ v0).setCell ⟨w.heap.size, 1, none⟩ v1).alloc o1).heap.size = w5.heap.size + 1 := by simp [World.setCell]
  rw [e] at hnew
  refine sl_one hnew (by omega) ((hs.mono (Y := fun b => Z b ∧ b < w5.heap.size) fun b h1 h2 => ⟨h1, h2⟩).kept (w' := _) fun b hb => ?_) (fun b hb _ => by have := hZ b hb.1; omega)
  have := hZ b hb.1
  rw [Below.heap_alloc _ _ _ (by rw [e]; omega), Below.heap_alloc _ _ _ (by simp [World.setCell]; omega), Below.heap_setCell _ _ _ _ (by simp; omega), Below.heap_setCell _ _ _ _ (by simp; omega)]

section
variable {P : Program} {ops : Array Oper} {Q : Exit → Act → World → Prop} {md : Region.Mode}
/-- A stronger condition held does as well. -/
theorem held_mono {S S' : World → Prop} (h : ∀ w, S' w → S w) : ∀ (fuel : Nat) (listed : Array Bool) (a : Act) (w : World), wpAnyH P md ops Q S' fuel listed a w → wpAnyH P md ops Q S fuel listed a w
  | 0, _, _, _, H => H
  | fuel + 1, listed, a, w, H => ⟨H.1, fun i hi => wpOp_mono (fun a' w' hh => ⟨h _ hh.1, held_mono h fuel _ a' w' hh.2⟩) (H.2 i hi)⟩
end

def TwoS (w5 w6 : World) (t5 t6 : Tm) (a5 a6 : Option Addr) (c5 c6 : Nat) (w' : World) : Prop :=
  Blk w' w5.heap.size #[.string t5.name, .slice a5 t5.args.length c5] 25 ∧ Blk w' w6.heap.size #[.string t6.name, .slice a6 t6.args.length c6] 25
def TwoF (w5 w6 : World) (t5 t6 : Tm) (a5 a6 : Option Addr) (c5 c6 : Nat) (b : Nat) (w' : World) : Prop :=
  TwoS w5 w6 t5 t6 a5 a6 c5 c6 w' ∧ Blk w' b #[.string ⟨#[102]⟩, .string ⟨#[103]⟩] 9
theorem TwoS.alloc {w5 w6 : World} {t5 t6 : Tm} {a5 a6 : Option Addr} {c5 c6 : Nat} {w' : World} (h : TwoS w5 w6 t5 t6 a5 a6 c5 c6 w') (o : Obj) : TwoS w5 w6 t5 t6 a5 a6 c5 c6 (w'.alloc o) := ⟨h.1.alloc o, h.2.alloc o⟩
theorem TwoF.alloc {w5 w6 : World} {t5 t6 : Tm} {a5 a6 : Option Addr} {c5 c6 b : Nat} {w' : World} (h : TwoF w5 w6 t5 t6 a5 a6 c5 c6 b w') (o : Obj) : TwoF w5 w6 t5 t6 a5 a6 c5 c6 b (w'.alloc o) := ⟨h.1.alloc o, h.2.alloc o⟩

theorem blk_at {w : World} {n : Nat} (h : w.heap.size = n) (cs : Array Value) (T : Nat) : Blk (w.alloc (.cells cs T)) n cs T := h ▸ Blk.new w cs T
theorem two_endA {w5 w6 : World} {t5 t6 : Tm} {a5 a6 : Option Addr} {c5 c6 b : Nat} (v0 v1 : Value) (A : Obj) (hX : Blk w6 w5.heap.size #[.string t5.name, .slice a5 t5.args.length c5] 25) (hne : w5.heap.size ≠ b) :
    TwoF w5 w6 t5 t6 a5 a6 c5 c6 (w6.heap.size + 1) (((((w6.setCell ⟨b, 0, none⟩ v0).setCell ⟨b, 1, none⟩ v1).alloc (.cells #[.string t6.name, .slice a6 t6.args.length c6] 25)).alloc (.cells #[.string ⟨#[102]⟩, .string ⟨#[103]⟩] 9)).alloc A) :=
  ⟨⟨(((((hX.setOther 0 v0 hne).setOther 1 v1 hne).alloc _).alloc _).alloc _), ((blk_at (by simp [World.setCell]) _ _).alloc _).alloc _⟩, (blk_at (by simp [World.setCell]) _ _).alloc _⟩
theorem two_endB {w5 w6 : World} {t5 t6 : Tm} {a5 a6 : Option Addr} {c5 c6 b : Nat} (v0 v1 : Value) (A : Obj) (hX : Blk w6 w5.heap.size #[.string t5.name, .slice a5 t5.args.length c5] 25) (hne : w5.heap.size ≠ b) :
    TwoF w5 w6 t5 t6 a5 a6 c5 c6 (w6.heap.size + 1 + 1) (((((w6.setCell ⟨b, 0, none⟩ v0).setCell ⟨b, 1, none⟩ v1).alloc (.cells #[.string t6.name, .slice a6 t6.args.length c6] 25)).alloc A).alloc (.cells #[.string ⟨#[102]⟩, .string ⟨#[103]⟩] 9)) :=
  ⟨⟨(((((hX.setOther 0 v0 hne).setOther 1 v1 hne).alloc _).alloc _).alloc _), ((blk_at (by simp [World.setCell]) _ _).alloc _).alloc _⟩, (blk_at (by simp [World.setCell]) _ _)⟩

theorem sl_two {w : World} {X Z5 Z6 : Nat → Prop} {B : Nat} {t5 t6 : Tm} {a5 a6 : Option Addr} {c5 c6 T : Nat} (hb : Blk w B #[.string t5.name, .slice a5 t5.args.length c5, .string t6.name, .slice a6 t6.args.length c6] T) (hB : X B) (h5 : Sl w Z5 a5 t5.args) (h6 : Sl w Z6 a6 t6.args) (hZ5 : ∀ b, Z5 b → b < w.heap.size → X b) (hZ6 : ∀ b, Z6 b → b < w.heap.size → X b) : Sl w X (some ⟨B, 0, none⟩) [t5, t6] := by
  refine ⟨by simp, Or.inr ⟨B, 0, rfl, lies_mk _ _ _ fun i hi => ?_⟩⟩
  have h01 : i = 0 ∨ i = 1 := by simp at hi; omega
  rcases h01 with rfl | rfl
  · exact ⟨hB, hb.cell 0, a5, c5, hb.cell 1, h5.mono hZ5⟩
  · exact ⟨hB, hb.cell 2, a6, c6, hb.cell 3, h6.mono hZ6⟩

theorem two_world {w w6 : World} {Z : Nat → Prop} {a : Option Addr} {l : List Tm} {v0 v1 : Value} {o1 o2 o3 : Obj} (hs : Sl w6 Z a l) (hZ : ∀ b, Z b → w.heap.size < b) : Sl (((((w6.setCell ⟨w.heap.size, 0, none⟩ v0).setCell ⟨w.heap.size, 1, none⟩ v1).alloc o1).alloc o2).alloc o3).drew (fun b => Z b ∧ b < w6.heap.size) a l := by
  refine (hs.mono (Y := fun b => Z b ∧ b < w6.heap.size) fun b h1 h2 => ⟨h1, h2⟩).kept fun b hb => ?_
  have := hZ b hb.1
  show ((((((w6.setCell ⟨w.heap.size, 0, none⟩ v0).setCell ⟨w.heap.size, 1, none⟩ v1).alloc o1).alloc o2).alloc o3)).heap[b]? = w6.heap[b]?
  rw [Below.heap_alloc _ _ _ (by simp [World.setCell]; omega), Below.heap_alloc _ _ _ (by simp [World.setCell]; omega), Below.heap_alloc _ _ _ (by simp [World.setCell]; omega), Below.heap_setCell _ _ _ _ (by simp; omega), Below.heap_setCell _ _ _ _ (by simp; omega)]

theorem grow_two {nv : Nat} {w w6 : World} {Z5 Z6 : Nat → Prop} {s : ByteArray} {i m n T bA : Nat} {a5 a6 : Option Addr} {c5 c6 : Nat} {t5 t6 : Tm} {v0 v1 : Value} {o1 o2 o3 : Obj} (hB : Below w.heap.size w w6) (hlt : w.heap.size < w6.heap.size) (h5 : Sl w6 Z5 a5 t5.args) (h6 : Sl w6 Z6 a6 t6.args) (hZ5 : ∀ b, Z5 b → w.heap.size < b) (hZ6 : ∀ b, Z6 b → w.heap.size < b) (hbig : i ≤ n ∧ n ≤ i + top (m + 1) ∧ sizeL [t5] + sizeL [t6] + 1 ≤ top (m + 1)) (hes : okV nv [(⟨s, [t5, t6]⟩ : Tm)]) (hbA : w6.heap.size < bA)
    (hA : Blk (((((w6.setCell ⟨w.heap.size, 0, none⟩ v0).setCell ⟨w.heap.size, 1, none⟩ v1).alloc o1).alloc o2).alloc o3).drew bA #[.string t5.name, .slice a5 t5.args.length c5, .string t6.name, .slice a6 t6.args.length c6] T) :
    GrowPV nv w i (m + 1) (.returned (.tuple #[.agg #[.string s, .slice (some ⟨bA, 0, none⟩) 2 2], .int .i64 (n : Int)])) (((((w6.setCell ⟨w.heap.size, 0, none⟩ v0).setCell ⟨w.heap.size, 1, none⟩ v1).alloc o1).alloc o2).alloc o3).drew := by
  have hb0 : Below w.heap.size w (((((w6.setCell ⟨w.heap.size, 0, none⟩ v0).setCell ⟨w.heap.size, 1, none⟩ v1).alloc o1).alloc o2).alloc o3) := ((((hB.setCell (by simp) _).setCell (by simp) _).alloc (by simp [World.setCell]; omega) _).alloc (by simp [World.setCell]; omega) _).alloc (by simp [World.setCell]; omega) _
  refine ⟨some ⟨bA, 0, none⟩, 2, n, ⟨s, [t5, t6]⟩, rfl, ?_, by simp, by omega, ?_, hbig.1, hbig.2.1, hb0.drew, hes⟩
  · exact sl_two hA (by omega) (two_world h5 hZ5) (two_world h6 hZ6) (fun b hb _ => by have := hZ5 b hb.1; omega) (fun b hb _ => by have := hZ6 b hb.1; omega)
  · have := hbig.2.2
    have e : sizeL [t5, t6] = sizeL [t5] + sizeL [t6] := sizeL_append [t5] [t6]
    have e2 : sizeL [⟨s, [t5, t6]⟩] = 1 + sizeL [t5, t6] := by simp [sizeL]
    omega

theorem two_up {w5 w6 : World} {t5 t6 : Tm} {a5 a6 : Option Addr} {c5 c6 b : Nat} {w' : World} (h : TwoS w5 w6 t5 t6 a5 a6 c5 c6 w') (hF : Blk w' b #[.string ⟨#[102]⟩, .string ⟨#[103]⟩] 9) : TwoF w5 w6 t5 t6 a5 a6 c5 c6 b w' := ⟨h, hF⟩

set_option maxHeartbeats 8000000 in
theorem growV_any (nv : Nat) (hnv : 1 ≤ nv) (hnv4 : nv ≤ 4) (zs : List Int) (hr : ∀ z ∈ zs, Rng z) (hzl : zs.length ≤ 1000000) : ∀ (m i : Nat) (u : Value) (w : World) (X : Nat → Prop), PV w X u zs → m ≤ 100 → i + top m ≤ 1000 →
    Calls Try.prog 19 #[u, .int .i64 (i : Int), .int .i64 (m : Int), .int .i64 (nv : Int)] w fun e w' => GrowPV nv w i m e w' := by
  have hnvI : (0 : Int) < (nv : Int) := by omega
  intro m
  induction m using Nat.strongRecOn with
  | ind m ih =>
    intro i u w X hu hm hi
    have IH := hide ih
    clear ih
    have HU := hide hu
    clear hu
    go_enter Try.func19, Try.ntmps19
    go_wp2_with fail
    refine (raw_any zs _ _ X (by exact HU.out.alloc _) hr i (by omega) hzl).mono ?_
    rintro e w1 ⟨c, rfl, hc, hb1⟩
    have B1 := hide (((Below.refl w.heap.size w).alloc (Nat.le_refl _) (.cells #[.string ⟨#[]⟩, .slice none 0 0] 25)).trans (hb1.mono (by simp)))
    have R1 := hide ((Blk.new w #[.string ⟨#[]⟩, .slice none 0 0] 25).below hb1 (by simp))
    clear hb1
    by_cases h3 : m < 3
    · go_wp2_with fail
      refine (pick_any _ 3 (by decide) (by decide) ⟨by omega, by omega⟩ _).mono ?_
      rintro e w2 ⟨k2, rfl, hk2, rfl⟩
      by_cases h2 : 0 < k2
      · go_wp2_with fail
        refine (pick_any _ nv (by omega) (by omega) ⟨by omega, by omega⟩ _).mono ?_
        rintro e w3 ⟨k3, rfl, hk3, rfl⟩
        obtain ⟨s5, hes5, hs5⟩ := pick_var w2 9 k3 nv hk3 hnv4
        have hs6 : (w2.alloc (.cells #[.string ⟨#[88]⟩, .string ⟨#[89]⟩, .string ⟨#[90]⟩, .string ⟨#[85]⟩] 9)).cell? ⟨w2.heap.size, k3, none⟩ = some (.string s5) := hs5
        have hk4 : (k3 : Int) < 4 := by omega
        clear hs5
        go_wp2_with fail
        refine (leaf_any _ _).mono ?_
        rintro e w4 ⟨rfl, hb4⟩
        have R4 := hide ((R1.out.alloc _).below hb4 (by have := R1.out.lt; simp; omega))
        have B4 := hide ((B1.out.alloc B1.out.size _).trans (hb4.mono (by have := B1.out.size; simp; omega)))
        clear hb4 hs6
        have r0 : w4.cell? ⟨w.heap.size, 0, none⟩ = some (.string ⟨#[]⟩) := R4.out.cell 0
        have r1 : w4.cell? ⟨w.heap.size, 1, none⟩ = some (.slice none 0 0) := R4.out.cell 1
        have rf := R4.out.frozen
        go_wp2_with fail
        have q0 := ((R4.out.set 0 (.string s5)).set 1 (.slice none 0 0)).cell 0
        have q1 := ((R4.out.set 0 (.string s5)).set 1 (.slice none 0 0)).cell 1
        refine bodyPost_ret (v := .tuple #[.agg #[.string s5, .slice none 0 0], .int .i64 ((i : Int) + 1)]) (by simp [results, Try.results19, go_sem, q0, q1, World.cell?_setCell_same, World.cell?_setCell_other, r0, r1]) rfl ?_
        exact grow_leaf hes5 ((B4.out.setCell (by simp) _).setCell (by simp) _)
      · go_wp2_with fail
        refine (pick_any _ 3 (by decide) (by decide) ⟨by omega, by omega⟩ _).mono ?_
        rintro e w3 ⟨k3, rfl, hk3, rfl⟩
        obtain ⟨s5, hes5, hs5⟩ := pick_const w2 9 k3 nv hk3
        have hs6 : (w2.alloc (.cells #[.string ⟨#[97]⟩, .string ⟨#[98]⟩, .string ⟨#[99]⟩] 9)).cell? ⟨w2.heap.size, k3, none⟩ = some (.string s5) := hs5
        have hk4 : (k3 : Int) < 3 := by omega
        clear hs5
        go_wp2_with fail
        refine (leaf_any _ _).mono ?_
        rintro e w4 ⟨rfl, hb4⟩
        have R4 := hide ((R1.out.alloc _).below hb4 (by have := R1.out.lt; simp; omega))
        have B4 := hide ((B1.out.alloc B1.out.size _).trans (hb4.mono (by have := B1.out.size; simp; omega)))
        clear hb4 hs6
        have r0 : w4.cell? ⟨w.heap.size, 0, none⟩ = some (.string ⟨#[]⟩) := R4.out.cell 0
        have r1 : w4.cell? ⟨w.heap.size, 1, none⟩ = some (.slice none 0 0) := R4.out.cell 1
        have rf := R4.out.frozen
        go_wp2_with fail
        have q0 := ((R4.out.set 0 (.string s5)).set 1 (.slice none 0 0)).cell 0
        have q1 := ((R4.out.set 0 (.string s5)).set 1 (.slice none 0 0)).cell 1
        refine bodyPost_ret (v := .tuple #[.agg #[.string s5, .slice none 0 0], .int .i64 ((i : Int) + 1)]) (by simp [results, Try.results19, go_sem, q0, q1, World.cell?_setCell_same, World.cell?_setCell_other, r0, r1]) rfl ?_
        exact grow_leaf hes5 ((B4.out.setCell (by simp) _).setCell (by simp) _)
    · go_wp2_with fail
      refine (pick_any _ 5 (by decide) (by decide) ⟨by omega, by omega⟩ _).mono ?_
      rintro e w1b ⟨k1, rfl, hk1, rfl⟩
      by_cases h1 : k1 < 2
      · go_wp2_with fail
        refine (pick_any _ 3 (by decide) (by decide) ⟨by omega, by omega⟩ _).mono ?_
        rintro e w2 ⟨k2, rfl, hk2, rfl⟩
        by_cases h2 : 0 < k2
        · go_wp2_with fail
          refine (pick_any _ nv (by omega) (by omega) ⟨by omega, by omega⟩ _).mono ?_
          rintro e w3 ⟨k3, rfl, hk3, rfl⟩
          obtain ⟨s5, hes5, hs5⟩ := pick_var w2 9 k3 nv hk3 hnv4
          have hs6 : (w2.alloc (.cells #[.string ⟨#[88]⟩, .string ⟨#[89]⟩, .string ⟨#[90]⟩, .string ⟨#[85]⟩] 9)).cell? ⟨w2.heap.size, k3, none⟩ = some (.string s5) := hs5
          have hk4 : (k3 : Int) < 4 := by omega
          clear hs5
          go_wp2_with fail
          refine (leaf_any _ _).mono ?_
          rintro e w4 ⟨rfl, hb4⟩
          have R4 := hide ((R1.out.alloc _).below hb4 (by have := R1.out.lt; simp; omega))
          have B4 := hide ((B1.out.alloc B1.out.size _).trans (hb4.mono (by have := B1.out.size; simp; omega)))
          clear hb4 hs6
          have r0 : w4.cell? ⟨w.heap.size, 0, none⟩ = some (.string ⟨#[]⟩) := R4.out.cell 0
          have r1 : w4.cell? ⟨w.heap.size, 1, none⟩ = some (.slice none 0 0) := R4.out.cell 1
          have rf := R4.out.frozen
          go_wp2_with fail
          have q0 := ((R4.out.set 0 (.string s5)).set 1 (.slice none 0 0)).cell 0
          have q1 := ((R4.out.set 0 (.string s5)).set 1 (.slice none 0 0)).cell 1
          refine bodyPost_ret (v := .tuple #[.agg #[.string s5, .slice none 0 0], .int .i64 ((i : Int) + 1)]) (by simp [results, Try.results19, go_sem, q0, q1, World.cell?_setCell_same, World.cell?_setCell_other, r0, r1]) rfl ?_
          exact grow_leaf hes5 ((B4.out.setCell (by simp) _).setCell (by simp) _)
        · go_wp2_with fail
          refine (pick_any _ 3 (by decide) (by decide) ⟨by omega, by omega⟩ _).mono ?_
          rintro e w3 ⟨k3, rfl, hk3, rfl⟩
          obtain ⟨s5, hes5, hs5⟩ := pick_const w2 9 k3 nv hk3
          have hs6 : (w2.alloc (.cells #[.string ⟨#[97]⟩, .string ⟨#[98]⟩, .string ⟨#[99]⟩] 9)).cell? ⟨w2.heap.size, k3, none⟩ = some (.string s5) := hs5
          have hk4 : (k3 : Int) < 3 := by omega
          clear hs5
          go_wp2_with fail
          refine (leaf_any _ _).mono ?_
          rintro e w4 ⟨rfl, hb4⟩
          have R4 := hide ((R1.out.alloc _).below hb4 (by have := R1.out.lt; simp; omega))
          have B4 := hide ((B1.out.alloc B1.out.size _).trans (hb4.mono (by have := B1.out.size; simp; omega)))
          clear hb4 hs6
          have r0 : w4.cell? ⟨w.heap.size, 0, none⟩ = some (.string ⟨#[]⟩) := R4.out.cell 0
          have r1 : w4.cell? ⟨w.heap.size, 1, none⟩ = some (.slice none 0 0) := R4.out.cell 1
          have rf := R4.out.frozen
          go_wp2_with fail
          have q0 := ((R4.out.set 0 (.string s5)).set 1 (.slice none 0 0)).cell 0
          have q1 := ((R4.out.set 0 (.string s5)).set 1 (.slice none 0 0)).cell 1
          refine bodyPost_ret (v := .tuple #[.agg #[.string s5, .slice none 0 0], .int .i64 ((i : Int) + 1)]) (by simp [results, Try.results19, go_sem, q0, q1, World.cell?_setCell_same, World.cell?_setCell_other, r0, r1]) rfl ?_
          exact grow_leaf hes5 ((B4.out.setCell (by simp) _).setCell (by simp) _)
      · go_wp2_with fail
        refine (pick_eq ((c : Int) / 5) 4 (by decide) (by decide) ⟨by omega, by omega⟩ _).mono ?_
        rintro e w2 ⟨rfl, rfl⟩
        have hk4 := pickN_lt ((c : Int) / 5) 4 (by decide)
        generalize hke : pickN ((c : Int) / 5) 4 = k4 at *
        have HKE := hide hke
        clear hke
        obtain ⟨m, rfl⟩ : ∃ m', m = m' + 1 := ⟨m - 1, by omega⟩
        by_cases h40 : k4 = 0
        · subst h40
          go_wp2_with fail
          refine (IH.out m (by omega) (i + 1) _ _ X (by exact HU.out.later B1.out) (by omega) (by have := top_step (m := m) (by omega); omega)).mono ?_
          rintro e w5 ⟨a5, c5, n5, t5, rfl, hs5, hc5, hc5', hz5, hn5, hn5', hb5, he5⟩
          have R5 := hide (R1.out.below hb5 R1.out.lt)
          have B5 := hide (B1.out.trans (hb5.mono B1.out.size))
          have S5 := hide hs5
          have HE5 := hide he5
          clear he5
          have hlt5 : w.heap.size < w5.heap.size := R5.out.lt
          clear hb5 hs5
          have r0 : w5.cell? ⟨w.heap.size, 0, none⟩ = some (.string ⟨#[]⟩) := R5.out.cell 0
          have r1 : w5.cell? ⟨w.heap.size, 1, none⟩ = some (.slice none 0 0) := R5.out.cell 1
          have rf := R5.out.frozen
          go_wp2_with fail
          refine bodyPost_ret (v := .tuple #[.agg #[.string ⟨#[104]⟩, .slice (some ⟨w5.heap.size + 1, 0, none⟩) 1 1], .int .i64 (n5 : Int)]) (by simp [results, Try.results19, go_sem, World.cell?_setCell_same, World.cell?_setCell_other, r0, r1, hlt5, World.cell?_alloc_old]) rfl ?_
          exact grow_one B5.out hlt5 S5.out (fun b hb => Nat.lt_of_lt_of_le R1.out.lt hb) hz5 (by omega) (by omega) (by omega) (ok_node (by decide) (by decide) HE5.out)
        · by_cases h41 : k4 = 1
          · subst h41
            go_wp2_with fail
            refine (IH.out m (by omega) (i + 1) _ _ X (by exact HU.out.later B1.out) (by omega) (by have := top_step (m := m) (by omega); omega)).mono ?_
            rintro e w5 ⟨a5, c5, n5, t5, rfl, hs5, hc5, hc5', hz5, hn5, hn5', hb5, he5⟩
            have R5 := hide (R1.out.below hb5 R1.out.lt)
            have B5 := hide (B1.out.trans (hb5.mono B1.out.size))
            have S5 := hide hs5
            have HE5 := hide he5
            clear he5
            have hlt5 : w.heap.size < w5.heap.size := R5.out.lt
            clear hb5 hs5
            have r0 : w5.cell? ⟨w.heap.size, 0, none⟩ = some (.string ⟨#[]⟩) := R5.out.cell 0
            have r1 : w5.cell? ⟨w.heap.size, 1, none⟩ = some (.slice none 0 0) := R5.out.cell 1
            have rf := R5.out.frozen
            go_wp2_with fail
            refine bodyPost_ret (v := .tuple #[.agg #[.string ⟨#[107]⟩, .slice (some ⟨w5.heap.size + 1, 0, none⟩) 1 1], .int .i64 (n5 : Int)]) (by simp [results, Try.results19, go_sem, World.cell?_setCell_same, World.cell?_setCell_other, r0, r1, hlt5, World.cell?_alloc_old]) rfl ?_
            exact grow_one B5.out hlt5 S5.out (fun b hb => Nat.lt_of_lt_of_le R1.out.lt hb) hz5 (by omega) (by omega) (by omega) (ok_node (by decide) (by decide) HE5.out)
          · have h42 : 2 ≤ k4 := by omega
            obtain ⟨h, hh, hh2⟩ : ∃ h : Nat, ((m : Int) + 1) / 2 = h ∧ h = (m + 1) / 2 := ⟨(m + 1) / 2, by omega, rfl⟩
            have hth := top_half (m := m) (by omega) hh2
            have HH2 := hide hh2
            have hhb : h < m + 1 ∧ h ≤ 100 := by omega
            clear hh2
            go_wp2_with fail
            refine (IH.out h (by omega) (i + 1) _ _ X (by exact HU.out.later B1.out) (by omega) (by omega)).mono ?_
            rintro e w5 ⟨a5, c5, n5, t5, rfl, hs5, hc5, hc5', hz5, hn5, hn5', hb5, he5⟩
            have R5 := hide (R1.out.below hb5 R1.out.lt)
            have B5 := hide (B1.out.trans (hb5.mono B1.out.size))
            have S5 := hide hs5
            have HE5 := hide he5
            clear he5
            have X5 := hide (Blk.new w5 #[.string t5.name, .slice a5 t5.args.length c5] 25)
            have hlt5 : w.heap.size < w5.heap.size := R5.out.lt
            clear hb5 hs5
            go_wp2_with fail
            refine (IH.out h (by omega) n5 _ _ X (by exact HU.out.later (B5.out.alloc B5.out.size _)) (by omega) (by omega)).mono ?_
            rintro e w6 ⟨a6, c6, n6, t6, rfl, hs6, hc6, hc6', hz6, hn6, hn6', hb6, he6⟩
            have R6 := hide ((R5.out.alloc _).below hb6 (by simp; omega))
            have X6 := hide (X5.out.below hb6 (by simp))
            have B6 := hide ((B5.out.alloc B5.out.size _).trans (hb6.mono (by have := B5.out.size; simp; omega)))
            have S56 := hide ((S5.out.later ((Below.refl w5.heap.size w5).alloc (Nat.le_refl _) _)).later hb6)
            have S6 := hide hs6
            have HE6 := hide he6
            clear he6
            have hlt6 : w5.heap.size < w6.heap.size := X6.out.lt
            clear hb6 hs6
            go_wp2_with fail
            have Y6 := hide (Blk.new w6 #[.string t6.name, .slice a6 t6.args.length c6] 25)
            have x0 : ∀ o, (w6.alloc o).cell? ⟨w5.heap.size, 0, none⟩ = some (.string t5.name) := fun o => (X6.out.alloc o).cell 0
            have x1 : ∀ o, (w6.alloc o).cell? ⟨w5.heap.size, 1, none⟩ = some (.slice a5 t5.args.length c5) := fun o => (X6.out.alloc o).cell 1
            have y0 := Y6.out.cell 0
            have y1 := Y6.out.cell 1
            have r0 : w6.cell? ⟨w.heap.size, 0, none⟩ = some (.string ⟨#[]⟩) := R6.out.cell 0
            have r1 : w6.cell? ⟨w.heap.size, 1, none⟩ = some (.slice none 0 0) := R6.out.cell 1
            have rf := R6.out.frozen
            have HWR : Hid (IntKind.i64.wrap ((c : Int) / 5) = (c : Int) / 5) := wrapI _ ⟨by omega, by omega⟩
            have HPK : Hid (∀ w', Calls Try.prog 6 #[.int .i64 (IntKind.i64.wrap ((c : Int) / 5)), .int .i64 4] w' fun e w'' => e = .returned (.int .i64 (k4 : Int)) ∧ w'' = w') := fun w' => by
              have h1 := pick_eq ((c : Int) / 5) 4 (by decide) (by decide) ⟨by omega, by omega⟩ w'
              rw [HKE.out] at h1
              rw [HWR.out]
              exact h1
            have HBIG : Hid (i ≤ n6 ∧ n6 ≤ i + top (m + 1) ∧ sizeL [t5] + sizeL [t6] + 1 ≤ top (m + 1)) := ⟨by omega, by omega, by omega⟩
            have hw0 : IntKind.i64.wrap 0 = 0 := by decide
            have hw1 : IntKind.i64.wrap 1 = 1 := by decide
            have hlt56 : w.heap.size < w6.heap.size := by omega
            have hlt57 : w.heap.size < w6.heap.size + 1 := by omega
            have hlt58 : w.heap.size < w6.heap.size + 1 + 1 := by omega
            have r30 : ∀ o1 o2 o3, (((w6.alloc o1).alloc o2).alloc o3).cell? ⟨w.heap.size, 0, none⟩ = some (.string ⟨#[]⟩) := fun o1 o2 o3 => (((R6.out.alloc o1).alloc o2).alloc o3).cell 0
            have r31 : ∀ o1 o2 o3, (((w6.alloc o1).alloc o2).alloc o3).cell? ⟨w.heap.size, 1, none⟩ = some (.slice none 0 0) := fun o1 o2 o3 => (((R6.out.alloc o1).alloc o2).alloc o3).cell 1
            have r3f : ∀ o1 o2 o3 i, (((w6.alloc o1).alloc o2).alloc o3).frozen? ⟨w.heap.size, i, none⟩ = false := fun o1 o2 o3 => (((R6.out.alloc o1).alloc o2).alloc o3).frozen
            have HZ6 : Hid (∀ b, (w5.alloc (.cells #[.string t5.name, .slice a5 t5.args.length c5] 25)).heap.size ≤ b → w.heap.size < b) := fun b hb => by
              simp at hb
              omega
            obtain rfl | rfl : k4 = 2 ∨ k4 = 3 := by omega
            · clear hth hhb hh hn6 hn6' hz6 hz5 hn5 hn5' hc5 hc5' hc6 hc6' hi hm hc hr hzl h42 h41 h40 hk4 h1 hk1 h3
              have HS0 : TwoS w5 w6 t5 t6 a5 a6 c5 c6 (w6.alloc (.cells #[.string t6.name, .slice a6 t6.args.length c6] 25)).drew := ⟨X6.out.alloc _, Y6.out⟩
              refine wp_region_held_drew (S := TwoS w5 w6 t5 t6 a5 a6 c5 c6) (by kernel_rfl) HS0 (fun hHeld => ?_)
              refine wpAnyH_take (i := 1) (v := ?_) rfl (by kernel_rfl) (by kernel_rfl) (by kernel_rfl) (fun _ _ _ h => h) (Or.inl ⟨by rfl, ?_⟩) (by assumption) ?_
              rotate_left
              · intro w' hSw
                go_simp <;> with_reducible rfl
              try simp only [Act.put, List.setIfInBounds_toArray, List.set_cons_zero, List.set_cons_succ, List.getElem_toArray, List.getElem_cons_succ, List.getElem_cons_zero]
              refine wpAnyH_take (i := 2) (v := ?_) rfl (by kernel_rfl) (by kernel_rfl) (by kernel_rfl) (fun _ _ _ h => h) (Or.inl ⟨by rfl, ?_⟩) (by assumption) ?_
              rotate_left
              · intro w' hSw
                go_simp <;> with_reducible rfl
              try simp only [Act.put, List.setIfInBounds_toArray, List.set_cons_zero, List.set_cons_succ, List.getElem_toArray, List.getElem_cons_succ, List.getElem_cons_zero]
              refine wpAnyH_take (i := 7) (v := ?_) rfl (by kernel_rfl) (by kernel_rfl) (by kernel_rfl) (fun _ _ _ h => h) (Or.inl ⟨by rfl, ?_⟩) (by assumption) ?_
              rotate_left
              · intro w' hSw
                have k0 : w'.cell? ⟨w5.heap.size, 0, none⟩ = some (.string t5.name) := hSw.1.cell 0
                have k1 : w'.cell? ⟨w5.heap.size, 1, none⟩ = some (.slice a5 t5.args.length c5) := hSw.1.cell 1
                go_simp <;> with_reducible rfl
              try simp only [Act.put, List.setIfInBounds_toArray, List.set_cons_zero, List.set_cons_succ, List.getElem_toArray, List.getElem_cons_succ, List.getElem_cons_zero]
              refine wpAnyH_take (i := 8) (v := ?_) rfl (by kernel_rfl) (by kernel_rfl) (by kernel_rfl) (fun _ _ _ h => h) (Or.inl ⟨by rfl, ?_⟩) (by assumption) ?_
              rotate_left
              · intro w' hSw
                have k2 : w'.cell? ⟨w6.heap.size, 0, none⟩ = some (.string t6.name) := hSw.2.cell 0
                have k3 : w'.cell? ⟨w6.heap.size, 1, none⟩ = some (.slice a6 t6.args.length c6) := hSw.2.cell 1
                go_simp <;> with_reducible rfl
              try simp only [Act.put, List.setIfInBounds_toArray, List.set_cons_zero, List.set_cons_succ, List.getElem_toArray, List.getElem_cons_succ, List.getElem_cons_zero]
              refine wpAnyH_take (i := 11) (v := ?_) rfl (by kernel_rfl) (by kernel_rfl) (by kernel_rfl) (fun _ _ _ h => h) (Or.inl ⟨by rfl, ?_⟩) (by assumption) ?_
              rotate_left
              · intro w' hSw
                go_simp <;> with_reducible rfl
              try simp only [Act.put, List.setIfInBounds_toArray, List.set_cons_zero, List.set_cons_succ, List.getElem_toArray, List.getElem_cons_succ, List.getElem_cons_zero]
              refine wpAnyH_ready (rs := [0, 3, 9]) (by kernel_rfl) (by simp) ?_
              refine AllReadyH.cons rfl (fun K hK => ?_) (AllReadyH.cons rfl (fun K hK => ?_) (AllReadyH.cons rfl (fun K hK => ?_) AllReadyH.nil))
              · go_simp
                refine hK.out _ _ (by exact hHeld.alloc _) (fun hHeld => ?_)
                clear hK K
                try simp only [Act.put, List.setIfInBounds_toArray, List.set_cons_zero, List.set_cons_succ, List.getElem_toArray, List.getElem_cons_succ, List.getElem_cons_zero]
                refine held_mono (S' := TwoF w5 w6 t5 t6 a5 a6 c5 c6 (w6.heap.size + 1)) (fun _ h => h.1) _ _ _ _ ?_
                replace hHeld := two_up (b := w6.heap.size + 1) hHeld (by exact blk_at (w := w6.alloc (.cells #[.string t6.name, .slice a6 t6.args.length c6] 25)) (by simp) _ _)
                refine wpAnyH_ready (rs := [3, 9]) (by kernel_rfl) (by simp) ?_
                refine AllReadyH.cons rfl (fun K hK => ?_) (AllReadyH.cons rfl (fun K hK => ?_) AllReadyH.nil)
                · go_simp
                  go_at_call 6
                  refine (HPK.out _).mono ?_
                  rintro e w7 ⟨rfl, rfl⟩
                  go_simp
                  refine hK.out _ _ (by exact hHeld) (fun hHeld => ?_)
                  clear hK K
                  try simp only [Act.put, List.setIfInBounds_toArray, List.set_cons_zero, List.set_cons_succ, List.getElem_toArray, List.getElem_cons_succ, List.getElem_cons_zero]
                  refine wpAnyH_take (i := 4) (v := ?_) rfl (by kernel_rfl) (by kernel_rfl) (by kernel_rfl) (fun _ _ _ h => h) (Or.inl ⟨by rfl, ?_⟩) (by assumption) ?_
                  rotate_left
                  · intro w' hSw
                    go_simp <;> with_reducible rfl
                  try simp only [Act.put, List.setIfInBounds_toArray, List.set_cons_zero, List.set_cons_succ, List.getElem_toArray, List.getElem_cons_succ, List.getElem_cons_zero]
                  refine wpAnyH_take (i := 5) (v := ?_) rfl (by kernel_rfl) (by kernel_rfl) (by kernel_rfl) (fun _ _ _ h => h) (Or.inl ⟨by rfl, ?_⟩) (by assumption) ?_
                  rotate_left
                  · intro w' hSw
                    go_simp <;> with_reducible rfl
                  try simp only [Act.put, List.setIfInBounds_toArray, List.set_cons_zero, List.set_cons_succ, List.getElem_toArray, List.getElem_cons_succ, List.getElem_cons_zero]
                  refine wpAnyH_take (i := 6) (v := ?_) rfl (by kernel_rfl) (by kernel_rfl) (by kernel_rfl) (fun _ _ _ h => h) (Or.inl ⟨by rfl, ?_⟩) (by assumption) ?_
                  rotate_left
                  · intro w' hSw
                    have k4 : w'.cell? ⟨w6.heap.size + 1, 0, none⟩ = some (.string ⟨#[102]⟩) := hSw.2.cell 0
                    have k5 : w'.cell? ⟨w6.heap.size + 1, 1, none⟩ = some (.string ⟨#[103]⟩) := hSw.2.cell 1
                    go_simp <;> with_reducible rfl
                  try simp only [Act.put, List.setIfInBounds_toArray, List.set_cons_zero, List.set_cons_succ, List.getElem_toArray, List.getElem_cons_succ, List.getElem_cons_zero]
                  refine wpAnyH_ready (rs := [9]) (by kernel_rfl) (by simp) ?_
                  refine AllReadyH.cons rfl (fun K hK => ?_) AllReadyH.nil
                  · go_simp
                    refine hK.out _ _ (by exact hHeld.alloc _) (fun hHeld => ?_)
                    clear hK K
                    try simp only [Act.put, List.setIfInBounds_toArray, List.set_cons_zero, List.set_cons_succ, List.getElem_toArray, List.getElem_cons_succ, List.getElem_cons_zero]
                    refine wpAnyH_take (i := 10) (v := ?_) rfl (by kernel_rfl) (by kernel_rfl) (by kernel_rfl) (fun _ _ _ h => h) (Or.inl ⟨by rfl, ?_⟩) (by assumption) ?_
                    rotate_left
                    · intro w' hSw
                      go_simp <;> with_reducible rfl
                    try simp only [Act.put, List.setIfInBounds_toArray, List.set_cons_zero, List.set_cons_succ, List.getElem_toArray, List.getElem_cons_succ, List.getElem_cons_zero]
                    refine wpAnyH_ready (rs := [12]) (by kernel_rfl) (by simp) ?_
                    refine AllReadyH.cons rfl (fun K hK => ?_) AllReadyH.nil
                    · go_simp
                      refine hK.out _ _ (by exact two_endA _ _ _ X6.out (Nat.ne_of_gt hlt5)) (fun hHeld => ?_)
                      clear hK K
                      try simp only [Act.put, List.setIfInBounds_toArray, List.set_cons_zero, List.set_cons_succ, List.getElem_toArray, List.getElem_cons_succ, List.getElem_cons_zero]
                      refine wpAnyH_take (i := 13) (v := ?_) rfl (by kernel_rfl) (by kernel_rfl) (by kernel_rfl) (fun _ _ _ h => h) (Or.inl ⟨by rfl, ?_⟩) (by assumption) ?_
                      rotate_left
                      · intro w' hSw
                        go_simp <;> with_reducible rfl
                      try simp only [Act.put, List.setIfInBounds_toArray, List.set_cons_zero, List.set_cons_succ, List.getElem_toArray, List.getElem_cons_succ, List.getElem_cons_zero]
                      refine wpAnyH_done (by kernel_rfl) ?_ _
                      go_wp2_with fail
                      refine bodyPost_ret (v := .tuple #[.agg #[.string ⟨#[102]⟩, .slice (some ⟨w6.heap.size + 1 + 1, 0, none⟩) 2 2], .int .i64 (n6 : Int)]) (by simp [results, Try.results19, go_sem, World.cell?_setCell_same, World.cell?_setCell_other, r0, r1, hlt56, hlt57, hlt58, World.cell?_alloc_old]) rfl ?_
                      exact grow_two B6.out hlt56 S56.out S6.out (fun b hb => Nat.lt_of_lt_of_le R1.out.lt hb) HZ6.out HBIG.out (ok_node (by decide) (by decide) (ok_two HE5.out HE6.out)) (by omega) (by exact blk_at (by simp [World.setCell]) _ _)
                · go_simp
                  refine hK.out _ _ (by exact hHeld.alloc _) (fun hHeld => ?_)
                  clear hK K
                  try simp only [Act.put, List.setIfInBounds_toArray, List.set_cons_zero, List.set_cons_succ, List.getElem_toArray, List.getElem_cons_succ, List.getElem_cons_zero]
                  refine wpAnyH_ready (rs := [3]) (by kernel_rfl) (by simp) ?_
                  refine AllReadyH.cons rfl (fun K hK => ?_) AllReadyH.nil
                  · go_simp
                    go_at_call 6
                    refine (HPK.out _).mono ?_
                    rintro e w7 ⟨rfl, rfl⟩
                    go_simp
                    refine hK.out _ _ (by exact hHeld) (fun hHeld => ?_)
                    clear hK K
                    try simp only [Act.put, List.setIfInBounds_toArray, List.set_cons_zero, List.set_cons_succ, List.getElem_toArray, List.getElem_cons_succ, List.getElem_cons_zero]
                    refine wpAnyH_take (i := 4) (v := ?_) rfl (by kernel_rfl) (by kernel_rfl) (by kernel_rfl) (fun _ _ _ h => h) (Or.inl ⟨by rfl, ?_⟩) (by assumption) ?_
                    rotate_left
                    · intro w' hSw
                      go_simp <;> with_reducible rfl
                    try simp only [Act.put, List.setIfInBounds_toArray, List.set_cons_zero, List.set_cons_succ, List.getElem_toArray, List.getElem_cons_succ, List.getElem_cons_zero]
                    refine wpAnyH_take (i := 5) (v := ?_) rfl (by kernel_rfl) (by kernel_rfl) (by kernel_rfl) (fun _ _ _ h => h) (Or.inl ⟨by rfl, ?_⟩) (by assumption) ?_
                    rotate_left
                    · intro w' hSw
                      go_simp <;> with_reducible rfl
                    try simp only [Act.put, List.setIfInBounds_toArray, List.set_cons_zero, List.set_cons_succ, List.getElem_toArray, List.getElem_cons_succ, List.getElem_cons_zero]
                    refine wpAnyH_take (i := 6) (v := ?_) rfl (by kernel_rfl) (by kernel_rfl) (by kernel_rfl) (fun _ _ _ h => h) (Or.inl ⟨by rfl, ?_⟩) (by assumption) ?_
                    rotate_left
                    · intro w' hSw
                      have k4 : w'.cell? ⟨w6.heap.size + 1, 0, none⟩ = some (.string ⟨#[102]⟩) := hSw.2.cell 0
                      have k5 : w'.cell? ⟨w6.heap.size + 1, 1, none⟩ = some (.string ⟨#[103]⟩) := hSw.2.cell 1
                      go_simp <;> with_reducible rfl
                    try simp only [Act.put, List.setIfInBounds_toArray, List.set_cons_zero, List.set_cons_succ, List.getElem_toArray, List.getElem_cons_succ, List.getElem_cons_zero]
                    refine wpAnyH_take (i := 10) (v := ?_) rfl (by kernel_rfl) (by kernel_rfl) (by kernel_rfl) (fun _ _ _ h => h) (Or.inl ⟨by rfl, ?_⟩) (by assumption) ?_
                    rotate_left
                    · intro w' hSw
                      go_simp <;> with_reducible rfl
                    try simp only [Act.put, List.setIfInBounds_toArray, List.set_cons_zero, List.set_cons_succ, List.getElem_toArray, List.getElem_cons_succ, List.getElem_cons_zero]
                    refine wpAnyH_ready (rs := [12]) (by kernel_rfl) (by simp) ?_
                    refine AllReadyH.cons rfl (fun K hK => ?_) AllReadyH.nil
                    · go_simp
                      refine hK.out _ _ (by exact two_endA _ _ _ X6.out (Nat.ne_of_gt hlt5)) (fun hHeld => ?_)
                      clear hK K
                      try simp only [Act.put, List.setIfInBounds_toArray, List.set_cons_zero, List.set_cons_succ, List.getElem_toArray, List.getElem_cons_succ, List.getElem_cons_zero]
                      refine wpAnyH_take (i := 13) (v := ?_) rfl (by kernel_rfl) (by kernel_rfl) (by kernel_rfl) (fun _ _ _ h => h) (Or.inl ⟨by rfl, ?_⟩) (by assumption) ?_
                      rotate_left
                      · intro w' hSw
                        go_simp <;> with_reducible rfl
                      try simp only [Act.put, List.setIfInBounds_toArray, List.set_cons_zero, List.set_cons_succ, List.getElem_toArray, List.getElem_cons_succ, List.getElem_cons_zero]
                      refine wpAnyH_done (by kernel_rfl) ?_ _
                      go_wp2_with fail
                      refine bodyPost_ret (v := .tuple #[.agg #[.string ⟨#[102]⟩, .slice (some ⟨w6.heap.size + 1 + 1, 0, none⟩) 2 2], .int .i64 (n6 : Int)]) (by simp [results, Try.results19, go_sem, World.cell?_setCell_same, World.cell?_setCell_other, r0, r1, hlt56, hlt57, hlt58, World.cell?_alloc_old]) rfl ?_
                      exact grow_two B6.out hlt56 S56.out S6.out (fun b hb => Nat.lt_of_lt_of_le R1.out.lt hb) HZ6.out HBIG.out (ok_node (by decide) (by decide) (ok_two HE5.out HE6.out)) (by omega) (by exact blk_at (by simp [World.setCell]) _ _)
              · go_simp
                go_at_call 6
                refine (HPK.out _).mono ?_
                rintro e w7 ⟨rfl, rfl⟩
                go_simp
                refine hK.out _ _ (by exact hHeld) (fun hHeld => ?_)
                clear hK K
                try simp only [Act.put, List.setIfInBounds_toArray, List.set_cons_zero, List.set_cons_succ, List.getElem_toArray, List.getElem_cons_succ, List.getElem_cons_zero]
                refine wpAnyH_take (i := 4) (v := ?_) rfl (by kernel_rfl) (by kernel_rfl) (by kernel_rfl) (fun _ _ _ h => h) (Or.inl ⟨by rfl, ?_⟩) (by assumption) ?_
                rotate_left
                · intro w' hSw
                  go_simp <;> with_reducible rfl
                try simp only [Act.put, List.setIfInBounds_toArray, List.set_cons_zero, List.set_cons_succ, List.getElem_toArray, List.getElem_cons_succ, List.getElem_cons_zero]
                refine wpAnyH_ready (rs := [0, 9]) (by kernel_rfl) (by simp) ?_
                refine AllReadyH.cons rfl (fun K hK => ?_) (AllReadyH.cons rfl (fun K hK => ?_) AllReadyH.nil)
                · go_simp
                  refine hK.out _ _ (by exact hHeld.alloc _) (fun hHeld => ?_)
                  clear hK K
                  try simp only [Act.put, List.setIfInBounds_toArray, List.set_cons_zero, List.set_cons_succ, List.getElem_toArray, List.getElem_cons_succ, List.getElem_cons_zero]
                  refine held_mono (S' := TwoF w5 w6 t5 t6 a5 a6 c5 c6 (w6.heap.size + 1)) (fun _ h => h.1) _ _ _ _ ?_
                  replace hHeld := two_up (b := w6.heap.size + 1) hHeld (by exact blk_at (w := w6.alloc (.cells #[.string t6.name, .slice a6 t6.args.length c6] 25)) (by simp) _ _)
                  refine wpAnyH_take (i := 5) (v := ?_) rfl (by kernel_rfl) (by kernel_rfl) (by kernel_rfl) (fun _ _ _ h => h) (Or.inl ⟨by rfl, ?_⟩) (by assumption) ?_
                  rotate_left
                  · intro w' hSw
                    go_simp <;> with_reducible rfl
                  try simp only [Act.put, List.setIfInBounds_toArray, List.set_cons_zero, List.set_cons_succ, List.getElem_toArray, List.getElem_cons_succ, List.getElem_cons_zero]
                  refine wpAnyH_take (i := 6) (v := ?_) rfl (by kernel_rfl) (by kernel_rfl) (by kernel_rfl) (fun _ _ _ h => h) (Or.inl ⟨by rfl, ?_⟩) (by assumption) ?_
                  rotate_left
                  · intro w' hSw
                    have k4 : w'.cell? ⟨w6.heap.size + 1, 0, none⟩ = some (.string ⟨#[102]⟩) := hSw.2.cell 0
                    have k5 : w'.cell? ⟨w6.heap.size + 1, 1, none⟩ = some (.string ⟨#[103]⟩) := hSw.2.cell 1
                    go_simp <;> with_reducible rfl
                  try simp only [Act.put, List.setIfInBounds_toArray, List.set_cons_zero, List.set_cons_succ, List.getElem_toArray, List.getElem_cons_succ, List.getElem_cons_zero]
                  refine wpAnyH_ready (rs := [9]) (by kernel_rfl) (by simp) ?_
                  refine AllReadyH.cons rfl (fun K hK => ?_) AllReadyH.nil
                  · go_simp
                    refine hK.out _ _ (by exact hHeld.alloc _) (fun hHeld => ?_)
                    clear hK K
                    try simp only [Act.put, List.setIfInBounds_toArray, List.set_cons_zero, List.set_cons_succ, List.getElem_toArray, List.getElem_cons_succ, List.getElem_cons_zero]
                    refine wpAnyH_take (i := 10) (v := ?_) rfl (by kernel_rfl) (by kernel_rfl) (by kernel_rfl) (fun _ _ _ h => h) (Or.inl ⟨by rfl, ?_⟩) (by assumption) ?_
                    rotate_left
                    · intro w' hSw
                      go_simp <;> with_reducible rfl
                    try simp only [Act.put, List.setIfInBounds_toArray, List.set_cons_zero, List.set_cons_succ, List.getElem_toArray, List.getElem_cons_succ, List.getElem_cons_zero]
                    refine wpAnyH_ready (rs := [12]) (by kernel_rfl) (by simp) ?_
                    refine AllReadyH.cons rfl (fun K hK => ?_) AllReadyH.nil
                    · go_simp
                      refine hK.out _ _ (by exact two_endA _ _ _ X6.out (Nat.ne_of_gt hlt5)) (fun hHeld => ?_)
                      clear hK K
                      try simp only [Act.put, List.setIfInBounds_toArray, List.set_cons_zero, List.set_cons_succ, List.getElem_toArray, List.getElem_cons_succ, List.getElem_cons_zero]
                      refine wpAnyH_take (i := 13) (v := ?_) rfl (by kernel_rfl) (by kernel_rfl) (by kernel_rfl) (fun _ _ _ h => h) (Or.inl ⟨by rfl, ?_⟩) (by assumption) ?_
                      rotate_left
                      · intro w' hSw
                        go_simp <;> with_reducible rfl
                      try simp only [Act.put, List.setIfInBounds_toArray, List.set_cons_zero, List.set_cons_succ, List.getElem_toArray, List.getElem_cons_succ, List.getElem_cons_zero]
                      refine wpAnyH_done (by kernel_rfl) ?_ _
                      go_wp2_with fail
                      refine bodyPost_ret (v := .tuple #[.agg #[.string ⟨#[102]⟩, .slice (some ⟨w6.heap.size + 1 + 1, 0, none⟩) 2 2], .int .i64 (n6 : Int)]) (by simp [results, Try.results19, go_sem, World.cell?_setCell_same, World.cell?_setCell_other, r0, r1, hlt56, hlt57, hlt58, World.cell?_alloc_old]) rfl ?_
                      exact grow_two B6.out hlt56 S56.out S6.out (fun b hb => Nat.lt_of_lt_of_le R1.out.lt hb) HZ6.out HBIG.out (ok_node (by decide) (by decide) (ok_two HE5.out HE6.out)) (by omega) (by exact blk_at (by simp [World.setCell]) _ _)
                · go_simp
                  refine hK.out _ _ (by exact hHeld.alloc _) (fun hHeld => ?_)
                  clear hK K
                  try simp only [Act.put, List.setIfInBounds_toArray, List.set_cons_zero, List.set_cons_succ, List.getElem_toArray, List.getElem_cons_succ, List.getElem_cons_zero]
                  refine wpAnyH_ready (rs := [0]) (by kernel_rfl) (by simp) ?_
                  refine AllReadyH.cons rfl (fun K hK => ?_) AllReadyH.nil
                  · go_simp
                    refine hK.out _ _ (by exact hHeld.alloc _) (fun hHeld => ?_)
                    clear hK K
                    try simp only [Act.put, List.setIfInBounds_toArray, List.set_cons_zero, List.set_cons_succ, List.getElem_toArray, List.getElem_cons_succ, List.getElem_cons_zero]
                    refine held_mono (S' := TwoF w5 w6 t5 t6 a5 a6 c5 c6 (w6.heap.size + 1 + 1)) (fun _ h => h.1) _ _ _ _ ?_
                    replace hHeld := two_up (b := w6.heap.size + 1 + 1) hHeld (by exact blk_at (w := (w6.alloc (.cells #[.string t6.name, .slice a6 t6.args.length c6] 25)).alloc (.cells #[.string t5.name, .slice a5 t5.args.length c5, .string t6.name, .slice a6 t6.args.length c6] 25)) (by simp) _ _)
                    refine wpAnyH_take (i := 5) (v := ?_) rfl (by kernel_rfl) (by kernel_rfl) (by kernel_rfl) (fun _ _ _ h => h) (Or.inl ⟨by rfl, ?_⟩) (by assumption) ?_
                    rotate_left
                    · intro w' hSw
                      go_simp <;> with_reducible rfl
                    try simp only [Act.put, List.setIfInBounds_toArray, List.set_cons_zero, List.set_cons_succ, List.getElem_toArray, List.getElem_cons_succ, List.getElem_cons_zero]
                    refine wpAnyH_take (i := 6) (v := ?_) rfl (by kernel_rfl) (by kernel_rfl) (by kernel_rfl) (fun _ _ _ h => h) (Or.inl ⟨by rfl, ?_⟩) (by assumption) ?_
                    rotate_left
                    · intro w' hSw
                      have k4 : w'.cell? ⟨w6.heap.size + 1 + 1, 0, none⟩ = some (.string ⟨#[102]⟩) := hSw.2.cell 0
                      have k5 : w'.cell? ⟨w6.heap.size + 1 + 1, 1, none⟩ = some (.string ⟨#[103]⟩) := hSw.2.cell 1
                      go_simp <;> with_reducible rfl
                    try simp only [Act.put, List.setIfInBounds_toArray, List.set_cons_zero, List.set_cons_succ, List.getElem_toArray, List.getElem_cons_succ, List.getElem_cons_zero]
                    refine wpAnyH_take (i := 10) (v := ?_) rfl (by kernel_rfl) (by kernel_rfl) (by kernel_rfl) (fun _ _ _ h => h) (Or.inl ⟨by rfl, ?_⟩) (by assumption) ?_
                    rotate_left
                    · intro w' hSw
                      go_simp <;> with_reducible rfl
                    try simp only [Act.put, List.setIfInBounds_toArray, List.set_cons_zero, List.set_cons_succ, List.getElem_toArray, List.getElem_cons_succ, List.getElem_cons_zero]
                    refine wpAnyH_ready (rs := [12]) (by kernel_rfl) (by simp) ?_
                    refine AllReadyH.cons rfl (fun K hK => ?_) AllReadyH.nil
                    · go_simp
                      refine hK.out _ _ (by exact two_endB _ _ _ X6.out (Nat.ne_of_gt hlt5)) (fun hHeld => ?_)
                      clear hK K
                      try simp only [Act.put, List.setIfInBounds_toArray, List.set_cons_zero, List.set_cons_succ, List.getElem_toArray, List.getElem_cons_succ, List.getElem_cons_zero]
                      refine wpAnyH_take (i := 13) (v := ?_) rfl (by kernel_rfl) (by kernel_rfl) (by kernel_rfl) (fun _ _ _ h => h) (Or.inl ⟨by rfl, ?_⟩) (by assumption) ?_
                      rotate_left
                      · intro w' hSw
                        go_simp <;> with_reducible rfl
                      try simp only [Act.put, List.setIfInBounds_toArray, List.set_cons_zero, List.set_cons_succ, List.getElem_toArray, List.getElem_cons_succ, List.getElem_cons_zero]
                      refine wpAnyH_done (by kernel_rfl) ?_ _
                      go_wp2_with fail
                      refine bodyPost_ret (v := .tuple #[.agg #[.string ⟨#[102]⟩, .slice (some ⟨w6.heap.size + 1, 0, none⟩) 2 2], .int .i64 (n6 : Int)]) (by simp [results, Try.results19, go_sem, World.cell?_setCell_same, World.cell?_setCell_other, r0, r1, hlt56, hlt57, hlt58, World.cell?_alloc_old]) rfl ?_
                      exact grow_two B6.out hlt56 S56.out S6.out (fun b hb => Nat.lt_of_lt_of_le R1.out.lt hb) HZ6.out HBIG.out (ok_node (by decide) (by decide) (ok_two HE5.out HE6.out)) (by omega) (by exact (blk_at (by simp [World.setCell]) _ _).alloc _)
              · go_simp
                refine hK.out _ _ (by exact hHeld.alloc _) (fun hHeld => ?_)
                clear hK K
                try simp only [Act.put, List.setIfInBounds_toArray, List.set_cons_zero, List.set_cons_succ, List.getElem_toArray, List.getElem_cons_succ, List.getElem_cons_zero]
                refine wpAnyH_ready (rs := [0, 3]) (by kernel_rfl) (by simp) ?_
                refine AllReadyH.cons rfl (fun K hK => ?_) (AllReadyH.cons rfl (fun K hK => ?_) AllReadyH.nil)
                · go_simp
                  refine hK.out _ _ (by exact hHeld.alloc _) (fun hHeld => ?_)
                  clear hK K
                  try simp only [Act.put, List.setIfInBounds_toArray, List.set_cons_zero, List.set_cons_succ, List.getElem_toArray, List.getElem_cons_succ, List.getElem_cons_zero]
                  refine held_mono (S' := TwoF w5 w6 t5 t6 a5 a6 c5 c6 (w6.heap.size + 1 + 1)) (fun _ h => h.1) _ _ _ _ ?_
                  replace hHeld := two_up (b := w6.heap.size + 1 + 1) hHeld (by exact blk_at (w := (w6.alloc (.cells #[.string t6.name, .slice a6 t6.args.length c6] 25)).alloc (.cells #[.string t5.name, .slice a5 t5.args.length c5, .string t6.name, .slice a6 t6.args.length c6] 25)) (by simp) _ _)
                  refine wpAnyH_ready (rs := [3]) (by kernel_rfl) (by simp) ?_
                  refine AllReadyH.cons rfl (fun K hK => ?_) AllReadyH.nil
                  · go_simp
                    go_at_call 6
                    refine (HPK.out _).mono ?_
                    rintro e w7 ⟨rfl, rfl⟩
                    go_simp
                    refine hK.out _ _ (by exact hHeld) (fun hHeld => ?_)
                    clear hK K
                    try simp only [Act.put, List.setIfInBounds_toArray, List.set_cons_zero, List.set_cons_succ, List.getElem_toArray, List.getElem_cons_succ, List.getElem_cons_zero]
                    refine wpAnyH_take (i := 4) (v := ?_) rfl (by kernel_rfl) (by kernel_rfl) (by kernel_rfl) (fun _ _ _ h => h) (Or.inl ⟨by rfl, ?_⟩) (by assumption) ?_
                    rotate_left
                    · intro w' hSw
                      go_simp <;> with_reducible rfl
                    try simp only [Act.put, List.setIfInBounds_toArray, List.set_cons_zero, List.set_cons_succ, List.getElem_toArray, List.getElem_cons_succ, List.getElem_cons_zero]
                    refine wpAnyH_take (i := 5) (v := ?_) rfl (by kernel_rfl) (by kernel_rfl) (by kernel_rfl) (fun _ _ _ h => h) (Or.inl ⟨by rfl, ?_⟩) (by assumption) ?_
                    rotate_left
                    · intro w' hSw
                      go_simp <;> with_reducible rfl
                    try simp only [Act.put, List.setIfInBounds_toArray, List.set_cons_zero, List.set_cons_succ, List.getElem_toArray, List.getElem_cons_succ, List.getElem_cons_zero]
                    refine wpAnyH_take (i := 6) (v := ?_) rfl (by kernel_rfl) (by kernel_rfl) (by kernel_rfl) (fun _ _ _ h => h) (Or.inl ⟨by rfl, ?_⟩) (by assumption) ?_
                    rotate_left
                    · intro w' hSw
                      have k4 : w'.cell? ⟨w6.heap.size + 1 + 1, 0, none⟩ = some (.string ⟨#[102]⟩) := hSw.2.cell 0
                      have k5 : w'.cell? ⟨w6.heap.size + 1 + 1, 1, none⟩ = some (.string ⟨#[103]⟩) := hSw.2.cell 1
                      go_simp <;> with_reducible rfl
                    try simp only [Act.put, List.setIfInBounds_toArray, List.set_cons_zero, List.set_cons_succ, List.getElem_toArray, List.getElem_cons_succ, List.getElem_cons_zero]
                    refine wpAnyH_take (i := 10) (v := ?_) rfl (by kernel_rfl) (by kernel_rfl) (by kernel_rfl) (fun _ _ _ h => h) (Or.inl ⟨by rfl, ?_⟩) (by assumption) ?_
                    rotate_left
                    · intro w' hSw
                      go_simp <;> with_reducible rfl
                    try simp only [Act.put, List.setIfInBounds_toArray, List.set_cons_zero, List.set_cons_succ, List.getElem_toArray, List.getElem_cons_succ, List.getElem_cons_zero]
                    refine wpAnyH_ready (rs := [12]) (by kernel_rfl) (by simp) ?_
                    refine AllReadyH.cons rfl (fun K hK => ?_) AllReadyH.nil
                    · go_simp
                      refine hK.out _ _ (by exact two_endB _ _ _ X6.out (Nat.ne_of_gt hlt5)) (fun hHeld => ?_)
                      clear hK K
                      try simp only [Act.put, List.setIfInBounds_toArray, List.set_cons_zero, List.set_cons_succ, List.getElem_toArray, List.getElem_cons_succ, List.getElem_cons_zero]
                      refine wpAnyH_take (i := 13) (v := ?_) rfl (by kernel_rfl) (by kernel_rfl) (by kernel_rfl) (fun _ _ _ h => h) (Or.inl ⟨by rfl, ?_⟩) (by assumption) ?_
                      rotate_left
                      · intro w' hSw
                        go_simp <;> with_reducible rfl
                      try simp only [Act.put, List.setIfInBounds_toArray, List.set_cons_zero, List.set_cons_succ, List.getElem_toArray, List.getElem_cons_succ, List.getElem_cons_zero]
                      refine wpAnyH_done (by kernel_rfl) ?_ _
                      go_wp2_with fail
                      refine bodyPost_ret (v := .tuple #[.agg #[.string ⟨#[102]⟩, .slice (some ⟨w6.heap.size + 1, 0, none⟩) 2 2], .int .i64 (n6 : Int)]) (by simp [results, Try.results19, go_sem, World.cell?_setCell_same, World.cell?_setCell_other, r0, r1, hlt56, hlt57, hlt58, World.cell?_alloc_old]) rfl ?_
                      exact grow_two B6.out hlt56 S56.out S6.out (fun b hb => Nat.lt_of_lt_of_le R1.out.lt hb) HZ6.out HBIG.out (ok_node (by decide) (by decide) (ok_two HE5.out HE6.out)) (by omega) (by exact (blk_at (by simp [World.setCell]) _ _).alloc _)
                · go_simp
                  go_at_call 6
                  refine (HPK.out _).mono ?_
                  rintro e w7 ⟨rfl, rfl⟩
                  go_simp
                  refine hK.out _ _ (by exact hHeld) (fun hHeld => ?_)
                  clear hK K
                  try simp only [Act.put, List.setIfInBounds_toArray, List.set_cons_zero, List.set_cons_succ, List.getElem_toArray, List.getElem_cons_succ, List.getElem_cons_zero]
                  refine wpAnyH_take (i := 4) (v := ?_) rfl (by kernel_rfl) (by kernel_rfl) (by kernel_rfl) (fun _ _ _ h => h) (Or.inl ⟨by rfl, ?_⟩) (by assumption) ?_
                  rotate_left
                  · intro w' hSw
                    go_simp <;> with_reducible rfl
                  try simp only [Act.put, List.setIfInBounds_toArray, List.set_cons_zero, List.set_cons_succ, List.getElem_toArray, List.getElem_cons_succ, List.getElem_cons_zero]
                  refine wpAnyH_ready (rs := [0]) (by kernel_rfl) (by simp) ?_
                  refine AllReadyH.cons rfl (fun K hK => ?_) AllReadyH.nil
                  · go_simp
                    refine hK.out _ _ (by exact hHeld.alloc _) (fun hHeld => ?_)
                    clear hK K
                    try simp only [Act.put, List.setIfInBounds_toArray, List.set_cons_zero, List.set_cons_succ, List.getElem_toArray, List.getElem_cons_succ, List.getElem_cons_zero]
                    refine held_mono (S' := TwoF w5 w6 t5 t6 a5 a6 c5 c6 (w6.heap.size + 1 + 1)) (fun _ h => h.1) _ _ _ _ ?_
                    replace hHeld := two_up (b := w6.heap.size + 1 + 1) hHeld (by exact blk_at (w := (w6.alloc (.cells #[.string t6.name, .slice a6 t6.args.length c6] 25)).alloc (.cells #[.string t5.name, .slice a5 t5.args.length c5, .string t6.name, .slice a6 t6.args.length c6] 25)) (by simp) _ _)
                    refine wpAnyH_take (i := 5) (v := ?_) rfl (by kernel_rfl) (by kernel_rfl) (by kernel_rfl) (fun _ _ _ h => h) (Or.inl ⟨by rfl, ?_⟩) (by assumption) ?_
                    rotate_left
                    · intro w' hSw
                      go_simp <;> with_reducible rfl
                    try simp only [Act.put, List.setIfInBounds_toArray, List.set_cons_zero, List.set_cons_succ, List.getElem_toArray, List.getElem_cons_succ, List.getElem_cons_zero]
                    refine wpAnyH_take (i := 6) (v := ?_) rfl (by kernel_rfl) (by kernel_rfl) (by kernel_rfl) (fun _ _ _ h => h) (Or.inl ⟨by rfl, ?_⟩) (by assumption) ?_
                    rotate_left
                    · intro w' hSw
                      have k4 : w'.cell? ⟨w6.heap.size + 1 + 1, 0, none⟩ = some (.string ⟨#[102]⟩) := hSw.2.cell 0
                      have k5 : w'.cell? ⟨w6.heap.size + 1 + 1, 1, none⟩ = some (.string ⟨#[103]⟩) := hSw.2.cell 1
                      go_simp <;> with_reducible rfl
                    try simp only [Act.put, List.setIfInBounds_toArray, List.set_cons_zero, List.set_cons_succ, List.getElem_toArray, List.getElem_cons_succ, List.getElem_cons_zero]
                    refine wpAnyH_take (i := 10) (v := ?_) rfl (by kernel_rfl) (by kernel_rfl) (by kernel_rfl) (fun _ _ _ h => h) (Or.inl ⟨by rfl, ?_⟩) (by assumption) ?_
                    rotate_left
                    · intro w' hSw
                      go_simp <;> with_reducible rfl
                    try simp only [Act.put, List.setIfInBounds_toArray, List.set_cons_zero, List.set_cons_succ, List.getElem_toArray, List.getElem_cons_succ, List.getElem_cons_zero]
                    refine wpAnyH_ready (rs := [12]) (by kernel_rfl) (by simp) ?_
                    refine AllReadyH.cons rfl (fun K hK => ?_) AllReadyH.nil
                    · go_simp
                      refine hK.out _ _ (by exact two_endB _ _ _ X6.out (Nat.ne_of_gt hlt5)) (fun hHeld => ?_)
                      clear hK K
                      try simp only [Act.put, List.setIfInBounds_toArray, List.set_cons_zero, List.set_cons_succ, List.getElem_toArray, List.getElem_cons_succ, List.getElem_cons_zero]
                      refine wpAnyH_take (i := 13) (v := ?_) rfl (by kernel_rfl) (by kernel_rfl) (by kernel_rfl) (fun _ _ _ h => h) (Or.inl ⟨by rfl, ?_⟩) (by assumption) ?_
                      rotate_left
                      · intro w' hSw
                        go_simp <;> with_reducible rfl
                      try simp only [Act.put, List.setIfInBounds_toArray, List.set_cons_zero, List.set_cons_succ, List.getElem_toArray, List.getElem_cons_succ, List.getElem_cons_zero]
                      refine wpAnyH_done (by kernel_rfl) ?_ _
                      go_wp2_with fail
                      refine bodyPost_ret (v := .tuple #[.agg #[.string ⟨#[102]⟩, .slice (some ⟨w6.heap.size + 1, 0, none⟩) 2 2], .int .i64 (n6 : Int)]) (by simp [results, Try.results19, go_sem, World.cell?_setCell_same, World.cell?_setCell_other, r0, r1, hlt56, hlt57, hlt58, World.cell?_alloc_old]) rfl ?_
                      exact grow_two B6.out hlt56 S56.out S6.out (fun b hb => Nat.lt_of_lt_of_le R1.out.lt hb) HZ6.out HBIG.out (ok_node (by decide) (by decide) (ok_two HE5.out HE6.out)) (by omega) (by exact (blk_at (by simp [World.setCell]) _ _).alloc _)
            · clear hth hhb hh hn6 hn6' hz6 hz5 hn5 hn5' hc5 hc5' hc6 hc6' hi hm hc hr hzl h42 h41 h40 hk4 h1 hk1 h3
              have HS0 : TwoS w5 w6 t5 t6 a5 a6 c5 c6 (w6.alloc (.cells #[.string t6.name, .slice a6 t6.args.length c6] 25)).drew := ⟨X6.out.alloc _, Y6.out⟩
              refine wp_region_held_drew (S := TwoS w5 w6 t5 t6 a5 a6 c5 c6) (by kernel_rfl) HS0 (fun hHeld => ?_)
              refine wpAnyH_take (i := 1) (v := ?_) rfl (by kernel_rfl) (by kernel_rfl) (by kernel_rfl) (fun _ _ _ h => h) (Or.inl ⟨by rfl, ?_⟩) (by assumption) ?_
              rotate_left
              · intro w' hSw
                go_simp <;> with_reducible rfl
              try simp only [Act.put, List.setIfInBounds_toArray, List.set_cons_zero, List.set_cons_succ, List.getElem_toArray, List.getElem_cons_succ, List.getElem_cons_zero]
              refine wpAnyH_take (i := 2) (v := ?_) rfl (by kernel_rfl) (by kernel_rfl) (by kernel_rfl) (fun _ _ _ h => h) (Or.inl ⟨by rfl, ?_⟩) (by assumption) ?_
              rotate_left
              · intro w' hSw
                go_simp <;> with_reducible rfl
              try simp only [Act.put, List.setIfInBounds_toArray, List.set_cons_zero, List.set_cons_succ, List.getElem_toArray, List.getElem_cons_succ, List.getElem_cons_zero]
              refine wpAnyH_take (i := 7) (v := ?_) rfl (by kernel_rfl) (by kernel_rfl) (by kernel_rfl) (fun _ _ _ h => h) (Or.inl ⟨by rfl, ?_⟩) (by assumption) ?_
              rotate_left
              · intro w' hSw
                have k0 : w'.cell? ⟨w5.heap.size, 0, none⟩ = some (.string t5.name) := hSw.1.cell 0
                have k1 : w'.cell? ⟨w5.heap.size, 1, none⟩ = some (.slice a5 t5.args.length c5) := hSw.1.cell 1
                go_simp <;> with_reducible rfl
              try simp only [Act.put, List.setIfInBounds_toArray, List.set_cons_zero, List.set_cons_succ, List.getElem_toArray, List.getElem_cons_succ, List.getElem_cons_zero]
              refine wpAnyH_take (i := 8) (v := ?_) rfl (by kernel_rfl) (by kernel_rfl) (by kernel_rfl) (fun _ _ _ h => h) (Or.inl ⟨by rfl, ?_⟩) (by assumption) ?_
              rotate_left
              · intro w' hSw
                have k2 : w'.cell? ⟨w6.heap.size, 0, none⟩ = some (.string t6.name) := hSw.2.cell 0
                have k3 : w'.cell? ⟨w6.heap.size, 1, none⟩ = some (.slice a6 t6.args.length c6) := hSw.2.cell 1
                go_simp <;> with_reducible rfl
              try simp only [Act.put, List.setIfInBounds_toArray, List.set_cons_zero, List.set_cons_succ, List.getElem_toArray, List.getElem_cons_succ, List.getElem_cons_zero]
              refine wpAnyH_take (i := 11) (v := ?_) rfl (by kernel_rfl) (by kernel_rfl) (by kernel_rfl) (fun _ _ _ h => h) (Or.inl ⟨by rfl, ?_⟩) (by assumption) ?_
              rotate_left
              · intro w' hSw
                go_simp <;> with_reducible rfl
              try simp only [Act.put, List.setIfInBounds_toArray, List.set_cons_zero, List.set_cons_succ, List.getElem_toArray, List.getElem_cons_succ, List.getElem_cons_zero]
              refine wpAnyH_ready (rs := [0, 3, 9]) (by kernel_rfl) (by simp) ?_
              refine AllReadyH.cons rfl (fun K hK => ?_) (AllReadyH.cons rfl (fun K hK => ?_) (AllReadyH.cons rfl (fun K hK => ?_) AllReadyH.nil))
              · go_simp
                refine hK.out _ _ (by exact hHeld.alloc _) (fun hHeld => ?_)
                clear hK K
                try simp only [Act.put, List.setIfInBounds_toArray, List.set_cons_zero, List.set_cons_succ, List.getElem_toArray, List.getElem_cons_succ, List.getElem_cons_zero]
                refine held_mono (S' := TwoF w5 w6 t5 t6 a5 a6 c5 c6 (w6.heap.size + 1)) (fun _ h => h.1) _ _ _ _ ?_
                replace hHeld := two_up (b := w6.heap.size + 1) hHeld (by exact blk_at (w := w6.alloc (.cells #[.string t6.name, .slice a6 t6.args.length c6] 25)) (by simp) _ _)
                refine wpAnyH_ready (rs := [3, 9]) (by kernel_rfl) (by simp) ?_
                refine AllReadyH.cons rfl (fun K hK => ?_) (AllReadyH.cons rfl (fun K hK => ?_) AllReadyH.nil)
                · go_simp
                  go_at_call 6
                  refine (HPK.out _).mono ?_
                  rintro e w7 ⟨rfl, rfl⟩
                  go_simp
                  refine hK.out _ _ (by exact hHeld) (fun hHeld => ?_)
                  clear hK K
                  try simp only [Act.put, List.setIfInBounds_toArray, List.set_cons_zero, List.set_cons_succ, List.getElem_toArray, List.getElem_cons_succ, List.getElem_cons_zero]
                  refine wpAnyH_take (i := 4) (v := ?_) rfl (by kernel_rfl) (by kernel_rfl) (by kernel_rfl) (fun _ _ _ h => h) (Or.inl ⟨by rfl, ?_⟩) (by assumption) ?_
                  rotate_left
                  · intro w' hSw
                    go_simp <;> with_reducible rfl
                  try simp only [Act.put, List.setIfInBounds_toArray, List.set_cons_zero, List.set_cons_succ, List.getElem_toArray, List.getElem_cons_succ, List.getElem_cons_zero]
                  refine wpAnyH_take (i := 5) (v := ?_) rfl (by kernel_rfl) (by kernel_rfl) (by kernel_rfl) (fun _ _ _ h => h) (Or.inl ⟨by rfl, ?_⟩) (by assumption) ?_
                  rotate_left
                  · intro w' hSw
                    go_simp <;> with_reducible rfl
                  try simp only [Act.put, List.setIfInBounds_toArray, List.set_cons_zero, List.set_cons_succ, List.getElem_toArray, List.getElem_cons_succ, List.getElem_cons_zero]
                  refine wpAnyH_take (i := 6) (v := ?_) rfl (by kernel_rfl) (by kernel_rfl) (by kernel_rfl) (fun _ _ _ h => h) (Or.inl ⟨by rfl, ?_⟩) (by assumption) ?_
                  rotate_left
                  · intro w' hSw
                    have k4 : w'.cell? ⟨w6.heap.size + 1, 0, none⟩ = some (.string ⟨#[102]⟩) := hSw.2.cell 0
                    have k5 : w'.cell? ⟨w6.heap.size + 1, 1, none⟩ = some (.string ⟨#[103]⟩) := hSw.2.cell 1
                    go_simp <;> with_reducible rfl
                  try simp only [Act.put, List.setIfInBounds_toArray, List.set_cons_zero, List.set_cons_succ, List.getElem_toArray, List.getElem_cons_succ, List.getElem_cons_zero]
                  refine wpAnyH_ready (rs := [9]) (by kernel_rfl) (by simp) ?_
                  refine AllReadyH.cons rfl (fun K hK => ?_) AllReadyH.nil
                  · go_simp
                    refine hK.out _ _ (by exact hHeld.alloc _) (fun hHeld => ?_)
                    clear hK K
                    try simp only [Act.put, List.setIfInBounds_toArray, List.set_cons_zero, List.set_cons_succ, List.getElem_toArray, List.getElem_cons_succ, List.getElem_cons_zero]
                    refine wpAnyH_take (i := 10) (v := ?_) rfl (by kernel_rfl) (by kernel_rfl) (by kernel_rfl) (fun _ _ _ h => h) (Or.inl ⟨by rfl, ?_⟩) (by assumption) ?_
                    rotate_left
                    · intro w' hSw
                      go_simp <;> with_reducible rfl
                    try simp only [Act.put, List.setIfInBounds_toArray, List.set_cons_zero, List.set_cons_succ, List.getElem_toArray, List.getElem_cons_succ, List.getElem_cons_zero]
                    refine wpAnyH_ready (rs := [12]) (by kernel_rfl) (by simp) ?_
                    refine AllReadyH.cons rfl (fun K hK => ?_) AllReadyH.nil
                    · go_simp
                      refine hK.out _ _ (by exact two_endA _ _ _ X6.out (Nat.ne_of_gt hlt5)) (fun hHeld => ?_)
                      clear hK K
                      try simp only [Act.put, List.setIfInBounds_toArray, List.set_cons_zero, List.set_cons_succ, List.getElem_toArray, List.getElem_cons_succ, List.getElem_cons_zero]
                      refine wpAnyH_take (i := 13) (v := ?_) rfl (by kernel_rfl) (by kernel_rfl) (by kernel_rfl) (fun _ _ _ h => h) (Or.inl ⟨by rfl, ?_⟩) (by assumption) ?_
                      rotate_left
                      · intro w' hSw
                        go_simp <;> with_reducible rfl
                      try simp only [Act.put, List.setIfInBounds_toArray, List.set_cons_zero, List.set_cons_succ, List.getElem_toArray, List.getElem_cons_succ, List.getElem_cons_zero]
                      refine wpAnyH_done (by kernel_rfl) ?_ _
                      go_wp2_with fail
                      refine bodyPost_ret (v := .tuple #[.agg #[.string ⟨#[103]⟩, .slice (some ⟨w6.heap.size + 1 + 1, 0, none⟩) 2 2], .int .i64 (n6 : Int)]) (by simp [results, Try.results19, go_sem, World.cell?_setCell_same, World.cell?_setCell_other, r0, r1, hlt56, hlt57, hlt58, World.cell?_alloc_old]) rfl ?_
                      exact grow_two B6.out hlt56 S56.out S6.out (fun b hb => Nat.lt_of_lt_of_le R1.out.lt hb) HZ6.out HBIG.out (ok_node (by decide) (by decide) (ok_two HE5.out HE6.out)) (by omega) (by exact blk_at (by simp [World.setCell]) _ _)
                · go_simp
                  refine hK.out _ _ (by exact hHeld.alloc _) (fun hHeld => ?_)
                  clear hK K
                  try simp only [Act.put, List.setIfInBounds_toArray, List.set_cons_zero, List.set_cons_succ, List.getElem_toArray, List.getElem_cons_succ, List.getElem_cons_zero]
                  refine wpAnyH_ready (rs := [3]) (by kernel_rfl) (by simp) ?_
                  refine AllReadyH.cons rfl (fun K hK => ?_) AllReadyH.nil
                  · go_simp
                    go_at_call 6
                    refine (HPK.out _).mono ?_
                    rintro e w7 ⟨rfl, rfl⟩
                    go_simp
                    refine hK.out _ _ (by exact hHeld) (fun hHeld => ?_)
                    clear hK K
                    try simp only [Act.put, List.setIfInBounds_toArray, List.set_cons_zero, List.set_cons_succ, List.getElem_toArray, List.getElem_cons_succ, List.getElem_cons_zero]
                    refine wpAnyH_take (i := 4) (v := ?_) rfl (by kernel_rfl) (by kernel_rfl) (by kernel_rfl) (fun _ _ _ h => h) (Or.inl ⟨by rfl, ?_⟩) (by assumption) ?_
                    rotate_left
                    · intro w' hSw
                      go_simp <;> with_reducible rfl
                    try simp only [Act.put, List.setIfInBounds_toArray, List.set_cons_zero, List.set_cons_succ, List.getElem_toArray, List.getElem_cons_succ, List.getElem_cons_zero]
                    refine wpAnyH_take (i := 5) (v := ?_) rfl (by kernel_rfl) (by kernel_rfl) (by kernel_rfl) (fun _ _ _ h => h) (Or.inl ⟨by rfl, ?_⟩) (by assumption) ?_
                    rotate_left
                    · intro w' hSw
                      go_simp <;> with_reducible rfl
                    try simp only [Act.put, List.setIfInBounds_toArray, List.set_cons_zero, List.set_cons_succ, List.getElem_toArray, List.getElem_cons_succ, List.getElem_cons_zero]
                    refine wpAnyH_take (i := 6) (v := ?_) rfl (by kernel_rfl) (by kernel_rfl) (by kernel_rfl) (fun _ _ _ h => h) (Or.inl ⟨by rfl, ?_⟩) (by assumption) ?_
                    rotate_left
                    · intro w' hSw
                      have k4 : w'.cell? ⟨w6.heap.size + 1, 0, none⟩ = some (.string ⟨#[102]⟩) := hSw.2.cell 0
                      have k5 : w'.cell? ⟨w6.heap.size + 1, 1, none⟩ = some (.string ⟨#[103]⟩) := hSw.2.cell 1
                      go_simp <;> with_reducible rfl
                    try simp only [Act.put, List.setIfInBounds_toArray, List.set_cons_zero, List.set_cons_succ, List.getElem_toArray, List.getElem_cons_succ, List.getElem_cons_zero]
                    refine wpAnyH_take (i := 10) (v := ?_) rfl (by kernel_rfl) (by kernel_rfl) (by kernel_rfl) (fun _ _ _ h => h) (Or.inl ⟨by rfl, ?_⟩) (by assumption) ?_
                    rotate_left
                    · intro w' hSw
                      go_simp <;> with_reducible rfl
                    try simp only [Act.put, List.setIfInBounds_toArray, List.set_cons_zero, List.set_cons_succ, List.getElem_toArray, List.getElem_cons_succ, List.getElem_cons_zero]
                    refine wpAnyH_ready (rs := [12]) (by kernel_rfl) (by simp) ?_
                    refine AllReadyH.cons rfl (fun K hK => ?_) AllReadyH.nil
                    · go_simp
                      refine hK.out _ _ (by exact two_endA _ _ _ X6.out (Nat.ne_of_gt hlt5)) (fun hHeld => ?_)
                      clear hK K
                      try simp only [Act.put, List.setIfInBounds_toArray, List.set_cons_zero, List.set_cons_succ, List.getElem_toArray, List.getElem_cons_succ, List.getElem_cons_zero]
                      refine wpAnyH_take (i := 13) (v := ?_) rfl (by kernel_rfl) (by kernel_rfl) (by kernel_rfl) (fun _ _ _ h => h) (Or.inl ⟨by rfl, ?_⟩) (by assumption) ?_
                      rotate_left
                      · intro w' hSw
                        go_simp <;> with_reducible rfl
                      try simp only [Act.put, List.setIfInBounds_toArray, List.set_cons_zero, List.set_cons_succ, List.getElem_toArray, List.getElem_cons_succ, List.getElem_cons_zero]
                      refine wpAnyH_done (by kernel_rfl) ?_ _
                      go_wp2_with fail
                      refine bodyPost_ret (v := .tuple #[.agg #[.string ⟨#[103]⟩, .slice (some ⟨w6.heap.size + 1 + 1, 0, none⟩) 2 2], .int .i64 (n6 : Int)]) (by simp [results, Try.results19, go_sem, World.cell?_setCell_same, World.cell?_setCell_other, r0, r1, hlt56, hlt57, hlt58, World.cell?_alloc_old]) rfl ?_
                      exact grow_two B6.out hlt56 S56.out S6.out (fun b hb => Nat.lt_of_lt_of_le R1.out.lt hb) HZ6.out HBIG.out (ok_node (by decide) (by decide) (ok_two HE5.out HE6.out)) (by omega) (by exact blk_at (by simp [World.setCell]) _ _)
              · go_simp
                go_at_call 6
                refine (HPK.out _).mono ?_
                rintro e w7 ⟨rfl, rfl⟩
                go_simp
                refine hK.out _ _ (by exact hHeld) (fun hHeld => ?_)
                clear hK K
                try simp only [Act.put, List.setIfInBounds_toArray, List.set_cons_zero, List.set_cons_succ, List.getElem_toArray, List.getElem_cons_succ, List.getElem_cons_zero]
                refine wpAnyH_take (i := 4) (v := ?_) rfl (by kernel_rfl) (by kernel_rfl) (by kernel_rfl) (fun _ _ _ h => h) (Or.inl ⟨by rfl, ?_⟩) (by assumption) ?_
                rotate_left
                · intro w' hSw
                  go_simp <;> with_reducible rfl
                try simp only [Act.put, List.setIfInBounds_toArray, List.set_cons_zero, List.set_cons_succ, List.getElem_toArray, List.getElem_cons_succ, List.getElem_cons_zero]
                refine wpAnyH_ready (rs := [0, 9]) (by kernel_rfl) (by simp) ?_
                refine AllReadyH.cons rfl (fun K hK => ?_) (AllReadyH.cons rfl (fun K hK => ?_) AllReadyH.nil)
                · go_simp
                  refine hK.out _ _ (by exact hHeld.alloc _) (fun hHeld => ?_)
                  clear hK K
                  try simp only [Act.put, List.setIfInBounds_toArray, List.set_cons_zero, List.set_cons_succ, List.getElem_toArray, List.getElem_cons_succ, List.getElem_cons_zero]
                  refine held_mono (S' := TwoF w5 w6 t5 t6 a5 a6 c5 c6 (w6.heap.size + 1)) (fun _ h => h.1) _ _ _ _ ?_
                  replace hHeld := two_up (b := w6.heap.size + 1) hHeld (by exact blk_at (w := w6.alloc (.cells #[.string t6.name, .slice a6 t6.args.length c6] 25)) (by simp) _ _)
                  refine wpAnyH_take (i := 5) (v := ?_) rfl (by kernel_rfl) (by kernel_rfl) (by kernel_rfl) (fun _ _ _ h => h) (Or.inl ⟨by rfl, ?_⟩) (by assumption) ?_
                  rotate_left
                  · intro w' hSw
                    go_simp <;> with_reducible rfl
                  try simp only [Act.put, List.setIfInBounds_toArray, List.set_cons_zero, List.set_cons_succ, List.getElem_toArray, List.getElem_cons_succ, List.getElem_cons_zero]
                  refine wpAnyH_take (i := 6) (v := ?_) rfl (by kernel_rfl) (by kernel_rfl) (by kernel_rfl) (fun _ _ _ h => h) (Or.inl ⟨by rfl, ?_⟩) (by assumption) ?_
                  rotate_left
                  · intro w' hSw
                    have k4 : w'.cell? ⟨w6.heap.size + 1, 0, none⟩ = some (.string ⟨#[102]⟩) := hSw.2.cell 0
                    have k5 : w'.cell? ⟨w6.heap.size + 1, 1, none⟩ = some (.string ⟨#[103]⟩) := hSw.2.cell 1
                    go_simp <;> with_reducible rfl
                  try simp only [Act.put, List.setIfInBounds_toArray, List.set_cons_zero, List.set_cons_succ, List.getElem_toArray, List.getElem_cons_succ, List.getElem_cons_zero]
                  refine wpAnyH_ready (rs := [9]) (by kernel_rfl) (by simp) ?_
                  refine AllReadyH.cons rfl (fun K hK => ?_) AllReadyH.nil
                  · go_simp
                    refine hK.out _ _ (by exact hHeld.alloc _) (fun hHeld => ?_)
                    clear hK K
                    try simp only [Act.put, List.setIfInBounds_toArray, List.set_cons_zero, List.set_cons_succ, List.getElem_toArray, List.getElem_cons_succ, List.getElem_cons_zero]
                    refine wpAnyH_take (i := 10) (v := ?_) rfl (by kernel_rfl) (by kernel_rfl) (by kernel_rfl) (fun _ _ _ h => h) (Or.inl ⟨by rfl, ?_⟩) (by assumption) ?_
                    rotate_left
                    · intro w' hSw
                      go_simp <;> with_reducible rfl
                    try simp only [Act.put, List.setIfInBounds_toArray, List.set_cons_zero, List.set_cons_succ, List.getElem_toArray, List.getElem_cons_succ, List.getElem_cons_zero]
                    refine wpAnyH_ready (rs := [12]) (by kernel_rfl) (by simp) ?_
                    refine AllReadyH.cons rfl (fun K hK => ?_) AllReadyH.nil
                    · go_simp
                      refine hK.out _ _ (by exact two_endA _ _ _ X6.out (Nat.ne_of_gt hlt5)) (fun hHeld => ?_)
                      clear hK K
                      try simp only [Act.put, List.setIfInBounds_toArray, List.set_cons_zero, List.set_cons_succ, List.getElem_toArray, List.getElem_cons_succ, List.getElem_cons_zero]
                      refine wpAnyH_take (i := 13) (v := ?_) rfl (by kernel_rfl) (by kernel_rfl) (by kernel_rfl) (fun _ _ _ h => h) (Or.inl ⟨by rfl, ?_⟩) (by assumption) ?_
                      rotate_left
                      · intro w' hSw
                        go_simp <;> with_reducible rfl
                      try simp only [Act.put, List.setIfInBounds_toArray, List.set_cons_zero, List.set_cons_succ, List.getElem_toArray, List.getElem_cons_succ, List.getElem_cons_zero]
                      refine wpAnyH_done (by kernel_rfl) ?_ _
                      go_wp2_with fail
                      refine bodyPost_ret (v := .tuple #[.agg #[.string ⟨#[103]⟩, .slice (some ⟨w6.heap.size + 1 + 1, 0, none⟩) 2 2], .int .i64 (n6 : Int)]) (by simp [results, Try.results19, go_sem, World.cell?_setCell_same, World.cell?_setCell_other, r0, r1, hlt56, hlt57, hlt58, World.cell?_alloc_old]) rfl ?_
                      exact grow_two B6.out hlt56 S56.out S6.out (fun b hb => Nat.lt_of_lt_of_le R1.out.lt hb) HZ6.out HBIG.out (ok_node (by decide) (by decide) (ok_two HE5.out HE6.out)) (by omega) (by exact blk_at (by simp [World.setCell]) _ _)
                · go_simp
                  refine hK.out _ _ (by exact hHeld.alloc _) (fun hHeld => ?_)
                  clear hK K
                  try simp only [Act.put, List.setIfInBounds_toArray, List.set_cons_zero, List.set_cons_succ, List.getElem_toArray, List.getElem_cons_succ, List.getElem_cons_zero]
                  refine wpAnyH_ready (rs := [0]) (by kernel_rfl) (by simp) ?_
                  refine AllReadyH.cons rfl (fun K hK => ?_) AllReadyH.nil
                  · go_simp
                    refine hK.out _ _ (by exact hHeld.alloc _) (fun hHeld => ?_)
                    clear hK K
                    try simp only [Act.put, List.setIfInBounds_toArray, List.set_cons_zero, List.set_cons_succ, List.getElem_toArray, List.getElem_cons_succ, List.getElem_cons_zero]
                    refine held_mono (S' := TwoF w5 w6 t5 t6 a5 a6 c5 c6 (w6.heap.size + 1 + 1)) (fun _ h => h.1) _ _ _ _ ?_
                    replace hHeld := two_up (b := w6.heap.size + 1 + 1) hHeld (by exact blk_at (w := (w6.alloc (.cells #[.string t6.name, .slice a6 t6.args.length c6] 25)).alloc (.cells #[.string t5.name, .slice a5 t5.args.length c5, .string t6.name, .slice a6 t6.args.length c6] 25)) (by simp) _ _)
                    refine wpAnyH_take (i := 5) (v := ?_) rfl (by kernel_rfl) (by kernel_rfl) (by kernel_rfl) (fun _ _ _ h => h) (Or.inl ⟨by rfl, ?_⟩) (by assumption) ?_
                    rotate_left
                    · intro w' hSw
                      go_simp <;> with_reducible rfl
                    try simp only [Act.put, List.setIfInBounds_toArray, List.set_cons_zero, List.set_cons_succ, List.getElem_toArray, List.getElem_cons_succ, List.getElem_cons_zero]
                    refine wpAnyH_take (i := 6) (v := ?_) rfl (by kernel_rfl) (by kernel_rfl) (by kernel_rfl) (fun _ _ _ h => h) (Or.inl ⟨by rfl, ?_⟩) (by assumption) ?_
                    rotate_left
                    · intro w' hSw
                      have k4 : w'.cell? ⟨w6.heap.size + 1 + 1, 0, none⟩ = some (.string ⟨#[102]⟩) := hSw.2.cell 0
                      have k5 : w'.cell? ⟨w6.heap.size + 1 + 1, 1, none⟩ = some (.string ⟨#[103]⟩) := hSw.2.cell 1
                      go_simp <;> with_reducible rfl
                    try simp only [Act.put, List.setIfInBounds_toArray, List.set_cons_zero, List.set_cons_succ, List.getElem_toArray, List.getElem_cons_succ, List.getElem_cons_zero]
                    refine wpAnyH_take (i := 10) (v := ?_) rfl (by kernel_rfl) (by kernel_rfl) (by kernel_rfl) (fun _ _ _ h => h) (Or.inl ⟨by rfl, ?_⟩) (by assumption) ?_
                    rotate_left
                    · intro w' hSw
                      go_simp <;> with_reducible rfl
                    try simp only [Act.put, List.setIfInBounds_toArray, List.set_cons_zero, List.set_cons_succ, List.getElem_toArray, List.getElem_cons_succ, List.getElem_cons_zero]
                    refine wpAnyH_ready (rs := [12]) (by kernel_rfl) (by simp) ?_
                    refine AllReadyH.cons rfl (fun K hK => ?_) AllReadyH.nil
                    · go_simp
                      refine hK.out _ _ (by exact two_endB _ _ _ X6.out (Nat.ne_of_gt hlt5)) (fun hHeld => ?_)
                      clear hK K
                      try simp only [Act.put, List.setIfInBounds_toArray, List.set_cons_zero, List.set_cons_succ, List.getElem_toArray, List.getElem_cons_succ, List.getElem_cons_zero]
                      refine wpAnyH_take (i := 13) (v := ?_) rfl (by kernel_rfl) (by kernel_rfl) (by kernel_rfl) (fun _ _ _ h => h) (Or.inl ⟨by rfl, ?_⟩) (by assumption) ?_
                      rotate_left
                      · intro w' hSw
                        go_simp <;> with_reducible rfl
                      try simp only [Act.put, List.setIfInBounds_toArray, List.set_cons_zero, List.set_cons_succ, List.getElem_toArray, List.getElem_cons_succ, List.getElem_cons_zero]
                      refine wpAnyH_done (by kernel_rfl) ?_ _
                      go_wp2_with fail
                      refine bodyPost_ret (v := .tuple #[.agg #[.string ⟨#[103]⟩, .slice (some ⟨w6.heap.size + 1, 0, none⟩) 2 2], .int .i64 (n6 : Int)]) (by simp [results, Try.results19, go_sem, World.cell?_setCell_same, World.cell?_setCell_other, r0, r1, hlt56, hlt57, hlt58, World.cell?_alloc_old]) rfl ?_
                      exact grow_two B6.out hlt56 S56.out S6.out (fun b hb => Nat.lt_of_lt_of_le R1.out.lt hb) HZ6.out HBIG.out (ok_node (by decide) (by decide) (ok_two HE5.out HE6.out)) (by omega) (by exact (blk_at (by simp [World.setCell]) _ _).alloc _)
              · go_simp
                refine hK.out _ _ (by exact hHeld.alloc _) (fun hHeld => ?_)
                clear hK K
                try simp only [Act.put, List.setIfInBounds_toArray, List.set_cons_zero, List.set_cons_succ, List.getElem_toArray, List.getElem_cons_succ, List.getElem_cons_zero]
                refine wpAnyH_ready (rs := [0, 3]) (by kernel_rfl) (by simp) ?_
                refine AllReadyH.cons rfl (fun K hK => ?_) (AllReadyH.cons rfl (fun K hK => ?_) AllReadyH.nil)
                · go_simp
                  refine hK.out _ _ (by exact hHeld.alloc _) (fun hHeld => ?_)
                  clear hK K
                  try simp only [Act.put, List.setIfInBounds_toArray, List.set_cons_zero, List.set_cons_succ, List.getElem_toArray, List.getElem_cons_succ, List.getElem_cons_zero]
                  refine held_mono (S' := TwoF w5 w6 t5 t6 a5 a6 c5 c6 (w6.heap.size + 1 + 1)) (fun _ h => h.1) _ _ _ _ ?_
                  replace hHeld := two_up (b := w6.heap.size + 1 + 1) hHeld (by exact blk_at (w := (w6.alloc (.cells #[.string t6.name, .slice a6 t6.args.length c6] 25)).alloc (.cells #[.string t5.name, .slice a5 t5.args.length c5, .string t6.name, .slice a6 t6.args.length c6] 25)) (by simp) _ _)
                  refine wpAnyH_ready (rs := [3]) (by kernel_rfl) (by simp) ?_
                  refine AllReadyH.cons rfl (fun K hK => ?_) AllReadyH.nil
                  · go_simp
                    go_at_call 6
                    refine (HPK.out _).mono ?_
                    rintro e w7 ⟨rfl, rfl⟩
                    go_simp
                    refine hK.out _ _ (by exact hHeld) (fun hHeld => ?_)
                    clear hK K
                    try simp only [Act.put, List.setIfInBounds_toArray, List.set_cons_zero, List.set_cons_succ, List.getElem_toArray, List.getElem_cons_succ, List.getElem_cons_zero]
                    refine wpAnyH_take (i := 4) (v := ?_) rfl (by kernel_rfl) (by kernel_rfl) (by kernel_rfl) (fun _ _ _ h => h) (Or.inl ⟨by rfl, ?_⟩) (by assumption) ?_
                    rotate_left
                    · intro w' hSw
                      go_simp <;> with_reducible rfl
                    try simp only [Act.put, List.setIfInBounds_toArray, List.set_cons_zero, List.set_cons_succ, List.getElem_toArray, List.getElem_cons_succ, List.getElem_cons_zero]
                    refine wpAnyH_take (i := 5) (v := ?_) rfl (by kernel_rfl) (by kernel_rfl) (by kernel_rfl) (fun _ _ _ h => h) (Or.inl ⟨by rfl, ?_⟩) (by assumption) ?_
                    rotate_left
                    · intro w' hSw
                      go_simp <;> with_reducible rfl
                    try simp only [Act.put, List.setIfInBounds_toArray, List.set_cons_zero, List.set_cons_succ, List.getElem_toArray, List.getElem_cons_succ, List.getElem_cons_zero]
                    refine wpAnyH_take (i := 6) (v := ?_) rfl (by kernel_rfl) (by kernel_rfl) (by kernel_rfl) (fun _ _ _ h => h) (Or.inl ⟨by rfl, ?_⟩) (by assumption) ?_
                    rotate_left
                    · intro w' hSw
                      have k4 : w'.cell? ⟨w6.heap.size + 1 + 1, 0, none⟩ = some (.string ⟨#[102]⟩) := hSw.2.cell 0
                      have k5 : w'.cell? ⟨w6.heap.size + 1 + 1, 1, none⟩ = some (.string ⟨#[103]⟩) := hSw.2.cell 1
                      go_simp <;> with_reducible rfl
                    try simp only [Act.put, List.setIfInBounds_toArray, List.set_cons_zero, List.set_cons_succ, List.getElem_toArray, List.getElem_cons_succ, List.getElem_cons_zero]
                    refine wpAnyH_take (i := 10) (v := ?_) rfl (by kernel_rfl) (by kernel_rfl) (by kernel_rfl) (fun _ _ _ h => h) (Or.inl ⟨by rfl, ?_⟩) (by assumption) ?_
                    rotate_left
                    · intro w' hSw
                      go_simp <;> with_reducible rfl
                    try simp only [Act.put, List.setIfInBounds_toArray, List.set_cons_zero, List.set_cons_succ, List.getElem_toArray, List.getElem_cons_succ, List.getElem_cons_zero]
                    refine wpAnyH_ready (rs := [12]) (by kernel_rfl) (by simp) ?_
                    refine AllReadyH.cons rfl (fun K hK => ?_) AllReadyH.nil
                    · go_simp
                      refine hK.out _ _ (by exact two_endB _ _ _ X6.out (Nat.ne_of_gt hlt5)) (fun hHeld => ?_)
                      clear hK K
                      try simp only [Act.put, List.setIfInBounds_toArray, List.set_cons_zero, List.set_cons_succ, List.getElem_toArray, List.getElem_cons_succ, List.getElem_cons_zero]
                      refine wpAnyH_take (i := 13) (v := ?_) rfl (by kernel_rfl) (by kernel_rfl) (by kernel_rfl) (fun _ _ _ h => h) (Or.inl ⟨by rfl, ?_⟩) (by assumption) ?_
                      rotate_left
                      · intro w' hSw
                        go_simp <;> with_reducible rfl
                      try simp only [Act.put, List.setIfInBounds_toArray, List.set_cons_zero, List.set_cons_succ, List.getElem_toArray, List.getElem_cons_succ, List.getElem_cons_zero]
                      refine wpAnyH_done (by kernel_rfl) ?_ _
                      go_wp2_with fail
                      refine bodyPost_ret (v := .tuple #[.agg #[.string ⟨#[103]⟩, .slice (some ⟨w6.heap.size + 1, 0, none⟩) 2 2], .int .i64 (n6 : Int)]) (by simp [results, Try.results19, go_sem, World.cell?_setCell_same, World.cell?_setCell_other, r0, r1, hlt56, hlt57, hlt58, World.cell?_alloc_old]) rfl ?_
                      exact grow_two B6.out hlt56 S56.out S6.out (fun b hb => Nat.lt_of_lt_of_le R1.out.lt hb) HZ6.out HBIG.out (ok_node (by decide) (by decide) (ok_two HE5.out HE6.out)) (by omega) (by exact (blk_at (by simp [World.setCell]) _ _).alloc _)
                · go_simp
                  go_at_call 6
                  refine (HPK.out _).mono ?_
                  rintro e w7 ⟨rfl, rfl⟩
                  go_simp
                  refine hK.out _ _ (by exact hHeld) (fun hHeld => ?_)
                  clear hK K
                  try simp only [Act.put, List.setIfInBounds_toArray, List.set_cons_zero, List.set_cons_succ, List.getElem_toArray, List.getElem_cons_succ, List.getElem_cons_zero]
                  refine wpAnyH_take (i := 4) (v := ?_) rfl (by kernel_rfl) (by kernel_rfl) (by kernel_rfl) (fun _ _ _ h => h) (Or.inl ⟨by rfl, ?_⟩) (by assumption) ?_
                  rotate_left
                  · intro w' hSw
                    go_simp <;> with_reducible rfl
                  try simp only [Act.put, List.setIfInBounds_toArray, List.set_cons_zero, List.set_cons_succ, List.getElem_toArray, List.getElem_cons_succ, List.getElem_cons_zero]
                  refine wpAnyH_ready (rs := [0]) (by kernel_rfl) (by simp) ?_
                  refine AllReadyH.cons rfl (fun K hK => ?_) AllReadyH.nil
                  · go_simp
                    refine hK.out _ _ (by exact hHeld.alloc _) (fun hHeld => ?_)
                    clear hK K
                    try simp only [Act.put, List.setIfInBounds_toArray, List.set_cons_zero, List.set_cons_succ, List.getElem_toArray, List.getElem_cons_succ, List.getElem_cons_zero]
                    refine held_mono (S' := TwoF w5 w6 t5 t6 a5 a6 c5 c6 (w6.heap.size + 1 + 1)) (fun _ h => h.1) _ _ _ _ ?_
                    replace hHeld := two_up (b := w6.heap.size + 1 + 1) hHeld (by exact blk_at (w := (w6.alloc (.cells #[.string t6.name, .slice a6 t6.args.length c6] 25)).alloc (.cells #[.string t5.name, .slice a5 t5.args.length c5, .string t6.name, .slice a6 t6.args.length c6] 25)) (by simp) _ _)
                    refine wpAnyH_take (i := 5) (v := ?_) rfl (by kernel_rfl) (by kernel_rfl) (by kernel_rfl) (fun _ _ _ h => h) (Or.inl ⟨by rfl, ?_⟩) (by assumption) ?_
                    rotate_left
                    · intro w' hSw
                      go_simp <;> with_reducible rfl
                    try simp only [Act.put, List.setIfInBounds_toArray, List.set_cons_zero, List.set_cons_succ, List.getElem_toArray, List.getElem_cons_succ, List.getElem_cons_zero]
                    refine wpAnyH_take (i := 6) (v := ?_) rfl (by kernel_rfl) (by kernel_rfl) (by kernel_rfl) (fun _ _ _ h => h) (Or.inl ⟨by rfl, ?_⟩) (by assumption) ?_
                    rotate_left
                    · intro w' hSw
                      have k4 : w'.cell? ⟨w6.heap.size + 1 + 1, 0, none⟩ = some (.string ⟨#[102]⟩) := hSw.2.cell 0
                      have k5 : w'.cell? ⟨w6.heap.size + 1 + 1, 1, none⟩ = some (.string ⟨#[103]⟩) := hSw.2.cell 1
                      go_simp <;> with_reducible rfl
                    try simp only [Act.put, List.setIfInBounds_toArray, List.set_cons_zero, List.set_cons_succ, List.getElem_toArray, List.getElem_cons_succ, List.getElem_cons_zero]
                    refine wpAnyH_take (i := 10) (v := ?_) rfl (by kernel_rfl) (by kernel_rfl) (by kernel_rfl) (fun _ _ _ h => h) (Or.inl ⟨by rfl, ?_⟩) (by assumption) ?_
                    rotate_left
                    · intro w' hSw
                      go_simp <;> with_reducible rfl
                    try simp only [Act.put, List.setIfInBounds_toArray, List.set_cons_zero, List.set_cons_succ, List.getElem_toArray, List.getElem_cons_succ, List.getElem_cons_zero]
                    refine wpAnyH_ready (rs := [12]) (by kernel_rfl) (by simp) ?_
                    refine AllReadyH.cons rfl (fun K hK => ?_) AllReadyH.nil
                    · go_simp
                      refine hK.out _ _ (by exact two_endB _ _ _ X6.out (Nat.ne_of_gt hlt5)) (fun hHeld => ?_)
                      clear hK K
                      try simp only [Act.put, List.setIfInBounds_toArray, List.set_cons_zero, List.set_cons_succ, List.getElem_toArray, List.getElem_cons_succ, List.getElem_cons_zero]
                      refine wpAnyH_take (i := 13) (v := ?_) rfl (by kernel_rfl) (by kernel_rfl) (by kernel_rfl) (fun _ _ _ h => h) (Or.inl ⟨by rfl, ?_⟩) (by assumption) ?_
                      rotate_left
                      · intro w' hSw
                        go_simp <;> with_reducible rfl
                      try simp only [Act.put, List.setIfInBounds_toArray, List.set_cons_zero, List.set_cons_succ, List.getElem_toArray, List.getElem_cons_succ, List.getElem_cons_zero]
                      refine wpAnyH_done (by kernel_rfl) ?_ _
                      go_wp2_with fail
                      refine bodyPost_ret (v := .tuple #[.agg #[.string ⟨#[103]⟩, .slice (some ⟨w6.heap.size + 1, 0, none⟩) 2 2], .int .i64 (n6 : Int)]) (by simp [results, Try.results19, go_sem, World.cell?_setCell_same, World.cell?_setCell_other, r0, r1, hlt56, hlt57, hlt58, World.cell?_alloc_old]) rfl ?_
                      exact grow_two B6.out hlt56 S56.out S6.out (fun b hb => Nat.lt_of_lt_of_le R1.out.lt hb) HZ6.out HBIG.out (ok_node (by decide) (by decide) (ok_two HE5.out HE6.out)) (by omega) (by exact (blk_at (by simp [World.setCell]) _ _).alloc _)

def GrowPost (w : World) (i m : Nat) (e : Ending) (w' : World) : Prop :=
  ∃ (a : Option Addr) (c n : Nat) (t : Tm), e = .returned (.tuple #[.agg #[.string t.name, .slice a t.args.length c], .int .i64 (n : Int)]) ∧ Sl w' (fun b => w.heap.size ≤ b) a t.args ∧ t.args.length ≤ c ∧ c ≤ 9223372036854775807 ∧ sizeL [t] ≤ top m ∧ i ≤ n ∧ n ≤ i + top m ∧ Below w.heap.size w w' ∧ errL [t] = 0

theorem grow_any (nv : Nat) (hnv : 1 ≤ nv) (hnv4 : nv ≤ 4) (zs : List Int) (hr : ∀ z ∈ zs, Rng z) (hzl : zs.length ≤ 1000000) (m i : Nat) (u : Value) (w : World) (X : Nat → Prop) (hu : PV w X u zs) (hm : m ≤ 100) (hi : i + top m ≤ 1000) :
    Calls Try.prog 19 #[u, .int .i64 (i : Int), .int .i64 (m : Int), .int .i64 (nv : Int)] w fun e w' => GrowPost w i m e w' := by
  refine (growV_any nv hnv hnv4 zs hr hzl m i u w X hu hm hi).mono ?_
  rintro e w' ⟨a, c, n, t, h1, h2, h3, h4, h5, h6, h7, h8, h9⟩
  exact ⟨a, c, n, t, h1, h2, h3, h4, h5, h6, h7, h8, h9.1⟩
end Go.Proofs.Ytpjdkdebjkpmmai

/- Walks: a term out of raw numbers, and the law on all its places. -/
namespace Go.Proofs.Ytpjdkdebjkpmmai
open Go.RowKit
set_option linter.unusedSimpArgs false
set_option linter.unusedVariables false
set_option maxRecDepth 8000

theorem one_world {w w5 : World} {Z : Nat → Prop} {a : Option Addr} {l : List Tm} {v0 v1 : Value} {o1 : Obj} (hs : Sl w5 Z a l) (hZ : ∀ b, Z b → w.heap.size < b) : Sl (((w5.setCell ⟨w.heap.size, 0, none⟩ v0).setCell ⟨w.heap.size, 1, none⟩ v1).alloc o1) (fun b => Z b ∧ b < w5.heap.size) a l := by
  refine (hs.mono (Y := fun b => Z b ∧ b < w5.heap.size) fun b h1 h2 => ⟨h1, h2⟩).kept fun b hb => ?_
  have := hZ b hb.1
  rw [Below.heap_alloc _ _ _ (by simp [World.setCell]; omega), Below.heap_setCell _ _ _ _ (by simp; omega), Below.heap_setCell _ _ _ _ (by simp; omega)]

theorem termOfV_any (nv : Nat) (hnv : 1 ≤ nv) (hnv4 : nv ≤ 4) (zs : List Int) (hr : ∀ z ∈ zs, Rng z) (hzl : zs.length ≤ 1000000) (m i : Nat) (u : Value) (w : World) (X : Nat → Prop) (hu : PV w X u zs) (hm : m ≤ 100) (hi : i + top m ≤ 1000) :
    Calls Try.prog 5 #[u, .int .i64 (i : Int), .int .i64 (m : Int), .int .i64 (nv : Int)] w fun e w' => ∃ (t : Tm) (a : Option Addr) (c : Nat), e = .returned (.agg #[.string t.name, .slice a t.args.length c]) ∧ Sl w' (fun b => w.heap.size ≤ b) a t.args ∧ sizeL [t] ≤ top m ∧ Below w.heap.size w w' ∧ okV nv [t] := by
  have HU := hide hu
  clear hu
  go_enter Try.func5, Try.ntmps5
  go_wp2_with fail
  refine (growV_any nv hnv hnv4 zs hr hzl m i u _ X (by exact HU.out.alloc _) hm hi).mono ?_
  rintro e w5 ⟨a5, c5, n5, t5, rfl, hs5, hc5, hc5', hz5, hn5, hn5', hb5, he5⟩
  have HE5 := hide he5
  clear he5
  have R5 := hide ((Blk.new w #[.string ⟨#[]⟩, .slice none 0 0] 25).below hb5 (by simp))
  have B5 := hide (((Below.refl w.heap.size w).alloc (Nat.le_refl _) (.cells #[.string ⟨#[]⟩, .slice none 0 0] 25)).trans (hb5.mono (by simp)))
  have S5 := hide hs5
  have hlt5 : w.heap.size < w5.heap.size := R5.out.lt
  clear hb5 hs5
  have r0 : w5.cell? ⟨w.heap.size, 0, none⟩ = some (.string ⟨#[]⟩) := R5.out.cell 0
  have r1 : w5.cell? ⟨w.heap.size, 1, none⟩ = some (.slice none 0 0) := R5.out.cell 1
  have rf := R5.out.frozen
  go_wp2_with fail
  refine bodyPost_ret (v := .agg #[.string t5.name, .slice a5 t5.args.length c5]) (by simp [results, Try.results5, go_sem, World.cell?_setCell_same, World.cell?_setCell_other, r0, r1, hlt5, World.cell?_alloc_old]) rfl ?_
  refine ⟨t5, a5, c5, rfl, (one_world S5.out (fun b hb => ?_)).mono (fun b hb _ => ?_), hz5, ?_, HE5.out⟩
  · simp at hb; omega
  · have := hb.1; simp at this; omega
  · exact ((B5.out.setCell (by simp) _).setCell (by simp) _).alloc (by simp [World.setCell]; omega) _

theorem termOf_any (nv : Nat) (hnv : 1 ≤ nv) (hnv4 : nv ≤ 4) (zs : List Int) (hr : ∀ z ∈ zs, Rng z) (hzl : zs.length ≤ 1000000) (m i : Nat) (u : Value) (w : World) (X : Nat → Prop) (hu : PV w X u zs) (hm : m ≤ 100) (hi : i + top m ≤ 1000) :
    Calls Try.prog 5 #[u, .int .i64 (i : Int), .int .i64 (m : Int), .int .i64 (nv : Int)] w fun e w' => ∃ (t : Tm) (a : Option Addr) (c : Nat), e = .returned (.agg #[.string t.name, .slice a t.args.length c]) ∧ Sl w' (fun b => w.heap.size ≤ b) a t.args ∧ sizeL [t] ≤ top m ∧ Below w.heap.size w w' ∧ errL [t] = 0 := by
  refine (termOfV_any nv hnv hnv4 zs hr hzl m i u w X hu hm hi).mono ?_
  rintro e w' ⟨t, a, c, rfl, h1, h2, h3, h4⟩
  exact ⟨t, a, c, rfl, h1, h2, h3, h4.1⟩
end Go.Proofs.Ytpjdkdebjkpmmai

/- Walks: bindings out of raw numbers. -/
namespace Go.Proofs.Ytpjdkdebjkpmmai
open Go.RowKit
set_option linter.unusedSimpArgs false
set_option linter.unusedVariables false
set_option maxRecDepth 8000

/-- The names of made bindings. -/
def four : List ByteArray := [⟨#[85]⟩, ⟨#[88]⟩, ⟨#[89]⟩, ⟨#[90]⟩]
theorem four_at (k : Nat) (h : k < 4) : ∃ s, (#[Value.string ⟨#[85]⟩, .string ⟨#[88]⟩, .string ⟨#[89]⟩, .string ⟨#[90]⟩] : Array Value)[k]? = some (.string s) ∧ four.take (k + 1) = four.take k ++ [s] := by
  match k, h with
  | 0, _ => exact ⟨_, rfl, rfl⟩
  | 1, _ => exact ⟨_, rfl, rfl⟩
  | 2, _ => exact ⟨_, rfl, rfl⟩
  | 3, _ => exact ⟨_, rfl, rfl⟩
def BfInv (w : World) (m : Nat) (u v : Value) (wr : World) : Prop :=
  ∃ (k : Nat) (cs : List Bc), k ≤ 4 ∧ v = .int .i64 (k : Int) ∧ BRow wr (w.heap.size + 1) (fun _ => False) u cs ∧ (cs.map fun x => x.1.nm).Sublist (four.take k) ∧ (∀ x ∈ cs, sizeL [x.1.t] ≤ top m ∧ errL [x.1.t] = 0) ∧ Blk wr w.heap.size #[.string ⟨#[85]⟩, .string ⟨#[88]⟩, .string ⟨#[89]⟩, .string ⟨#[90]⟩] 9 ∧ Below w.heap.size w wr

set_option maxHeartbeats 1000000 in
theorem bindsFrom_any (nv : Nat) (hnv : 1 ≤ nv) (hnv4 : nv ≤ 4) (zs : List Int) (hr : ∀ z ∈ zs, Rng z) (hzl : zs.length ≤ 1000000) (m i : Nat) (u : Value) (w : World) (X : Nat → Prop) (hu : PV w X u zs) (hm : m ≤ 100) (hi : i + 30 + top m ≤ 1000) :
    Calls Try.prog 13 #[u, .int .i64 (i : Int), .int .i64 (m : Int), .int .i64 (nv : Int)] w fun e w' => ∃ v ls, e = .returned v ∧ BV w' (fun b => w.heap.size ≤ b) v ls ∧ (ls.map (·.nm)).Sublist four ∧ (∀ d ∈ ls, sizeL [d.t] ≤ top m ∧ errL [d.t] = 0) ∧ Below w.heap.size w w' := by
  have HU := hide hu
  clear hu
  obtain ⟨i0, hi0, hz0, hz1, hz2⟩ := info_parts Try.infoBind
  go_enter Try.func13, Try.ntmps13
  go_wp2_with fail
  go_loopw [9, 11] (fun u v wr => BfInv w m u v wr) (fun u v wr => 4 - (intOf v).toNat)
  case atStart => exact ⟨0, [], by omega, rfl, BRow.start _ _ _, by simp, by simp, Blk.new w _ _, (Below.refl _ _).alloc (Nat.le_refl _) _⟩
  case round =>
    obtain ⟨k, cs, hk, rfl, hrow, hnm, hall, hnb, hb⟩ := hrel
    have HROW := hide hrow
    have HNM := hide hnm
    have HALL := hide hall
    have HNB := hide hnb
    have HB := hide hb
    clear hrow hnm hall hnb
    by_cases hlt : k < 4
    · have hlt2 : (k : Int) < 4 := by omega
      have RA := hide (raw_any zs u wr X (HU.out.later hb) hr (i + k) (by omega) hzl)
      have e1 : ((i + k : Nat) : Int) = (i : Int) + (k : Int) := by omega
      rw [e1] at RA
      clear hb e1
      go_wp2_with fail
      refine RA.out.mono ?_
      rintro e w1 ⟨c1, rfl, hc1, hb1⟩
      have HB1 := hide (HB.out.trans (hb1.mono HB.out.size))
      have HROW1 := hide (HROW.out.below hb1)
      have HNB1 := hide (HNB.out.below hb1 HNB.out.lt)
      clear hb1
      go_wp2_with fail
      refine (pick_any _ 4 (by decide) (by decide) ⟨by omega, by omega⟩ _).mono ?_
      rintro e w2 ⟨k2, rfl, hk2, rfl⟩
      by_cases hk0 : 0 < k2
      · have hk0I : (0 : Int) < (k2 : Int) := by omega
        obtain ⟨s, hs4, htk⟩ := four_at k hlt
        have hn0 : w2.cell? ⟨w.heap.size, k, none⟩ = some (.string s) := (HNB1.out.cell k).trans hs4
        have HTK := hide htk
        clear hs4 htk
        have hw1 : IntKind.i64.wrap ((i : Int) + 4) = (i : Int) + 4 := by rw [IntKind.wrap_i64]; omega
        have hw2 : IntKind.i64.wrap (7 * (k : Int)) = 7 * (k : Int) := by rw [IntKind.wrap_i64]; omega
        have hw3 : IntKind.i64.wrap ((i : Int) + 4 + 7 * (k : Int)) = (i : Int) + 4 + 7 * (k : Int) := by rw [IntKind.wrap_i64]; omega
        have hlenc : cs.length ≤ 4 := by
          have h := HNM.out.length_le
          simp [four] at h
          omega
        have TO := hide (termOf_any nv hnv hnv4 zs hr hzl m (i + 4 + 7 * k) u w2.drew X (by exact (HU.out.later HB1.out).later (below_drewN (Below.refl _ _) 1)) hm (by omega))
        have e1 : ((i + 4 + 7 * k : Nat) : Int) = (i : Int) + 4 + 7 * (k : Int) := by omega
        rw [e1] at TO
        clear e1
        go_wp2_with fail
        go_region_law (first
          | (go_simp; go_at_call 5; refine TO.out.mono ?_; rintro e w5 ⟨t5, a5, c5, rfl, hs5, hz5, hb5, he5⟩; have hn5 : w5.cell? ⟨w.heap.size, k, none⟩ = some (.string s) := ((HNB1.out.drewN 1).below hb5 (by have := HNB1.out.lt; simp; omega)).cell k ▸ (HNB1.out.cell k) ▸ hn0)
          | (refine step_append_lies _ rfl _ _ 40 rfl (w.heap.size + 1) 67 i0 _ 3 56 Try.underlying40 hi0 hz0 hz1 hz2 rfl (by decide) u9 cs.length (flat3 cs) rfl (by exact ((HROW1.out.below (below_drewN (Below.refl _ _) 1)).below hb5).own.alloc _) ⟨w5.heap.size, 0, none⟩ 1 1 (enc3 (⟨s, t5⟩, a5, c5)) rfl rfl (cell_three_new _ _ _ _ _) (fun x hx => by simp [enc3] at hx; rcases hx with rfl | rfl | rfl <;> rfl) (by decide) (by unfold maxLen; omega) (by omega) (by have := hb5.size; have := HNB1.out.lt; simp at *; omega) _ rfl ?_; intro g cap w6 hown6 hgrow6 hat6 hlt6))
        all_goals
          have hb25 : Below w2.heap.size w2 w5 := (below_drewN (Below.refl _ _) 1).trans (hb5.mono (by simp))
          have hN2 : w.heap.size + 1 ≤ w2.heap.size := HNB1.out.lt
          have hz25 := hb25.size
          have HR6 := hide (HROW1.out.push (w1 := w5) (x := (⟨s, t5⟩, a5, c5)) hN2 (fun _ h => h.elim) hb25 (hs5.mono fun b hb _ => Or.inr (by simpa using hb)) _ rfl hown6 hgrow6 hat6)
          have hltr := HROW1.out.own.lt
          have HB6 : Hid (Below w.heap.size w w6) := ((HB1.out.trans (hb25.mono HB1.out.size)).alloc (by omega) _).grown hgrow6 (by simp; omega) (fun j hj => by have := (hltr j hj).1; omega)
          have HNB6 : Hid (Blk w6 w.heap.size #[.string ⟨#[85]⟩, .string ⟨#[88]⟩, .string ⟨#[89]⟩, .string ⟨#[90]⟩] 9) := ((HNB1.out.below hb25 HNB1.out.lt).alloc _).grown hgrow6 (HROW1.out.ne (Nat.lt_succ_self _))
          have HN6 : Hid (((cs ++ [((⟨s, t5⟩, a5, c5) : Bc)]).map fun x : Bc => x.1.nm).Sublist (four.take (k + 1))) := by
            unfold Hid
            rw [HTK.out, List.map_append]
            exact HNM.out.append (List.Sublist.refl _)
          have HA6 : Hid (∀ x ∈ cs ++ [((⟨s, t5⟩, a5, c5) : Bc)], sizeL [x.1.t] ≤ top m ∧ errL [x.1.t] = 0) := fun x hx => by
            rcases List.mem_append.1 hx with hx | hx
            · exact HALL.out x hx
            · have e : x = (⟨s, t5⟩, a5, c5) := by simpa using hx
              subst e
              exact ⟨hz5, he5⟩
          clear hown6 hgrow6 hat6 hlt6 hb5 hb25 hs5 hn5
          go_wp2_with fail
          go_roundw
          case rel => exact ⟨k + 1, _, by omega, by go_num, HR6.out, HN6.out, HA6.out, HNB6.out, HB6.out⟩
          case measure => simp [intOf]; omega
      · have hk0I : ¬ (0 : Int) < (k2 : Int) := by omega
        have HN : Hid ((cs.map fun x => x.1.nm).Sublist (four.take (k + 1))) := HNM.out.trans (List.take_sublist_take_left (by omega))
        go_wp2_with fail
        go_roundw
        case rel => exact ⟨k + 1, cs, by omega, by go_num, HROW1.out, HN.out, HALL.out, HNB1.out, HB1.out⟩
        case measure => simp [intOf]; omega
    · have HN : Hid ((cs.map fun x => x.1.nm).Sublist four) := by
        have h := HNM.out
        rwa [List.take_of_length_le (by simp [four]; omega)] at h
      go_wp2_with fail
      go_ret
      exact ⟨_, _, rfl, HROW.out.bv.mono (fun b hb _ => by rcases hb with h | h; exact h.elim; omega), by rw [List.map_map]; exact HN.out, fun d hd => by obtain ⟨x, hx, rfl⟩ := List.mem_map.1 hd; exact HALL.out x hx, HB.out⟩
#print axioms bindsFrom_any
end Go.Proofs.Ytpjdkdebjkpmmai

/- What matching an instance finds, put into the pattern: plain. -/
namespace Go.Proofs.Ytpjdkdebjkpmmai
open Go.RowKit
set_option linter.unusedSimpArgs false
set_option linter.unusedVariables false

theorem errL_on {ls : List Bd} (hE : bindsE ls = 0) : ∀ l : List Tm, errL l = 0 → errL (onL ls l) = 0 := by
  intro l
  induction l using Tm.indL with
  | h0 => intro _; simp [onL, errL]
  | h s l r ihl ihr =>
    intro he
    obtain ⟨h1, h2, h3⟩ := errL_parts he
    have hn := errL_name he
    rw [onL_cons]
    have key : errL [onT ls ⟨s, l⟩] = 0 := by
      cases hv : varB s with
      | false => rw [onT_sym hE hv]; exact err_node hn hv (ihl h2)
      | true =>
        have hl := h1 hv
        subst hl
        cases hf : forT ls s with
        | none =>
          rw [onT_deep (Or.inr hf)]
          simpa [onL] using err_leaf hn
        | some x =>
          rw [onT_some hf]
          have hm := (forT_var hE hf).2
          unfold mayE at hm
          split at hm
          · cases hm
          · exact hm
    rw [errL_cons, if_pos key]
    exact ihr h3
theorem errL_onT {ls : List Bd} (hE : bindsE ls = 0) {p : Tm} (he : errL [p] = 0) : errL [onT ls p] = 0 := by
  have h := errL_on hE [p] he
  rw [onL_cons] at h
  simpa [onL] using h
theorem preL_err : ∀ l : List Tm, errL l = 0 → ∀ k ∈ preL l, nameB k.name = true := by
  intro l
  induction l using Tm.indL with
  | h0 => intro _ k hk; simp [preL] at hk
  | h s l r ihl ihr =>
    intro he k hk
    obtain ⟨h1, h2, h3⟩ := errL_parts he
    rw [preL] at hk
    rcases List.mem_cons.1 hk with rfl | hk
    · exact errL_name he
    · rcases List.mem_append.1 hk with hk | hk
      · exact ihl h2 k hk
      · exact ihr h3 k hk
theorem mayE_mk {t : Tm} (he : errL [t] = 0) (hs : sizeL [t] ≤ 200) : mayE t = 0 := by
  unfold mayE
  rw [if_neg (by omega)]; exact he
theorem mayE_err {t : Tm} (h : mayE t = 0) : errL [t] = 0 := by
  unfold mayE at h
  split at h
  · cases h
  · exact h
theorem ltB_leB {a b : ByteArray} (h : ltB a b = true) : leB b a = false := by
  unfold leB
  have h1 : Op.bytesLess b.toList a.toList = false := ltB_asymm h
  rw [h1, Bool.false_or]
  cases he : (b.toList == a.toList) with
  | false => rfl
  | true =>
    have e : b = a := bytes_inj (by simpa using he)
    rw [e, ltB_irrefl] at h; cases h
theorem bindsE_mk {l : List Bd} (hs : SortedB l) (hl : l.length ≤ 40) (ha : ∀ d ∈ l, (nameB d.nm && varB d.nm) = true ∧ mayE d.t = 0) : bindsE l = 0 := by
  unfold bindsE
  rw [if_neg (by omega)]
  have key : ∀ n, n ≤ l.length → bmT l n = 0 := by
    intro n
    induction n with
    | zero => intro _; rfl
    | succ n ih =>
      intro hn
      refine bmT_next (ih (by omega)) ?_
      have hk : n < l.length := by omega
      obtain ⟨h1, h2⟩ := ha l[n] (List.getElem_mem hk)
      cases n with
      | zero => rw [bmK_first hk h1]; exact h2
      | succ j =>
        have hlt : ltB (l[j]'(by omega)).nm l[j + 1].nm = true := by
          unfold SortedB at hs
          rw [List.pairwise_iff_getElem] at hs
          exact hs j (j + 1) (by omega) hk (by omega)
        rw [bmK_may hk h1 (ltB_leB hlt)]; exact h2
  exact key _ (Nat.le_refl _)
theorem onL_eq {ls l' : List Bd} (hE : bindsE ls = 0) (hE' : bindsE l' = 0) : ∀ l : List Tm, errL l = 0 → (∀ k ∈ preL l, varB k.name = true → forT l' k.name = some (onT ls ⟨k.name, []⟩)) → onL l' l = onL ls l := by
  intro l
  induction l using Tm.indL with
  | h0 => intro _ _; simp [onL]
  | h s l r ihl ihr =>
    intro he hk
    obtain ⟨h1, h2, h3⟩ := errL_parts he
    rw [onL_cons, onL_cons, ihr h3 fun k hk' hv => hk k (by rw [preL]; simp [hk']) hv]
    congr 1
    cases hv : varB s with
    | false => rw [onT_sym hE hv, onT_sym hE' hv, ihl h2 fun k hk' hv' => hk k (by rw [preL]; simp [hk']) hv']
    | true =>
      have hl := h1 hv
      subst hl
      exact onT_some (hk ⟨s, []⟩ (by rw [preL]; simp) hv)

/-- All that the law on matching an instance asks. -/
theorem topMatch_pure {ls : List Bd} {p : Tm} (hE : bindsE ls = 0) (he : errL [p] = 0) (hsp : sizeL [p] ≤ 40) (hsx : sizeL [onT ls p] ≤ 200) :
    twoE p (onT ls p) = 0 ∧ ∃ h', mtT p (onT ls p) [] = some h' ∧ ∀ l' : List Bd, l'.Perm h' → SortedB l' → bindsE l' = 0 ∧ mayE p = 0 ∧ fT l' p = onT ls p ∧ l'.length = (varsP [] (preL [p])).length := by
  have hmp : mayE p = 0 := mayE_mk he (by omega)
  have hmx : mayE (onT ls p) = 0 := mayE_mk (errL_onT hE he) hsx
  refine ⟨by unfold twoE; rw [if_pos hmp]; exact hmx, ?_⟩
  obtain ⟨h', h1, h2, h3⟩ := mtT_on hE he
  refine ⟨h', h1, fun l' hp hs => ?_⟩
  have hlen : l'.length = (varsP [] (preL [p])).length := by
    have e1 := hp.length_eq
    have e2 := congrArg List.length h3
    rw [List.length_map] at e2
    omega
  have hE' : bindsE l' = 0 := by
    refine bindsE_mk hs ?_ fun d hd => ?_
    · have e1 := varsP_len (preL [p]) []
      have e2 := preL_length [p]
      simp at e1
      omega
    · have hd' : d ∈ h' := hp.subset hd
      have hn : d.nm ∈ varsP [] (preL [p]) := by rw [← h3]; exact List.mem_map.2 ⟨d, hd', rfl⟩
      rcases varsP_sub _ _ _ hn with h4 | ⟨k, hk, hkn, hv⟩
      · cases h4
      · refine ⟨by rw [hv, ← hkn, preL_err [p] he k hk]; rfl, mayE_mk ?_ ?_⟩
        · rw [h2 d hd']
          exact errL_onT hE (err_leaf (by rw [← hkn]; exact preL_err [p] he k hk))
        · have := mtT_size h1 d hd'
          omega
  refine ⟨hE', hmp, ?_, hlen⟩
  rw [fT_onT hE' p hmp]
  have h5 := onL_eq hE hE' [p] he fun k hk hv => by
    have hn := (varsP_has (preL [p]) []).2 k hk hv
    rw [← h3] at hn
    obtain ⟨d, hd, e⟩ := List.mem_map.1 hn
    have h6 := forT_of hs.apart (hp.symm.subset hd)
    have e' : d.nm = k.name := e
    rw [e', h2 d hd, e'] at h6
    exact h6
  rw [onL_cons, onL_cons] at h5
  simp only [onL, List.cons.injEq, and_true] at h5
  exact h5
theorem topMatch_in {p x : Tm} {sa sg : ByteArray} (hp : mayE p = 0) (hx : errL [x] = 0) (hs : sizeL [x] ≤ 190) (hm : mtB p x = true) (ha : nameB sa = true) (hg : nameB sg = true) (hv : varB sg = false) :
    twoE ⟨sg, [⟨sa, []⟩, x]⟩ p = 0 ∧ hcB ⟨sg, [⟨sa, []⟩, x]⟩ p = true := by
  have e1 : sizeL [(⟨sg, [⟨sa, []⟩, x]⟩ : Tm)] = 2 + sizeL [x] := by obtain ⟨s, l⟩ := x; simp [sizeL]; omega
  have h1 : mayE ⟨sg, [⟨sa, []⟩, x]⟩ = 0 := by
    refine mayE_mk (err_node hg hv ?_) (by omega)
    rw [errL_cons, if_pos (err_leaf ha)]; exact hx
  refine ⟨by unfold twoE; rw [if_pos h1]; exact hp, ?_⟩
  unfold hcB
  rw [List.any_eq_true]
  refine ⟨x, ?_, hm⟩
  obtain ⟨s, l⟩ := x
  simp [preL]
theorem four_E {ls : List Bd} (hs : (ls.map (·.nm)).Sublist four) (ha : ∀ d ∈ ls, sizeL [d.t] ≤ 200 ∧ errL [d.t] = 0) : bindsE ls = 0 := by
  refine bindsE_mk ?_ ?_ fun d hd => ⟨?_, mayE_mk (ha d hd).2 (ha d hd).1⟩
  · have lt1 : ∀ x y : UInt8, x < y → ltB ⟨#[x]⟩ ⟨#[y]⟩ = true := fun x y h => by
      unfold ltB
      rw [ByteArray.toList_eq, ByteArray.toList_eq]
      simp [Op.bytesLess, h]
    have h4 : four.Pairwise fun a b => ltB a b = true := by
      unfold four
      simp only [List.pairwise_cons, List.mem_cons, List.not_mem_nil, or_false, List.Pairwise.nil, and_true, false_or]
      refine ⟨fun b hb => ?_, fun b hb => ?_, fun b hb => ?_, fun b hb => by cases hb⟩
      · rcases hb with rfl | rfl | rfl <;> exact lt1 _ _ (by decide)
      · rcases hb with rfl | rfl <;> exact lt1 _ _ (by decide)
      · subst hb; exact lt1 _ _ (by decide)
    exact List.pairwise_map.1 (h4.sublist hs)
  · have := hs.length_le
    simp [four] at this
    omega
  · have h4 : ∀ n ∈ four, (nameB n && varB n) = true := by unfold four; decide
    exact h4 _ (hs.subset (List.mem_map.2 ⟨d, hd, rfl⟩))
#print axioms topMatch_pure
#print axioms topMatch_in
#print axioms four_E
end Go.Proofs.Ytpjdkdebjkpmmai


/- Walks: two answers that are terms. -/
namespace Go.Proofs.Ytpjdkdebjkpmmai
open Go.RowKit
set_option linter.unusedSimpArgs false
set_option linter.unusedVariables false

end Go.Proofs.Ytpjdkdebjkpmmai


/- Walks: bindings that are the same; two answers that are bindings. -/
namespace Go.Proofs.Ytpjdkdebjkpmmai
open Go.RowKit
set_option linter.unusedSimpArgs false
set_option linter.unusedVariables false
set_option maxRecDepth 8000

def SmbInv (ls : List Bd) (w : World) (v : Value) (wr : World) : Prop := ∃ k : Nat, v = .int .i64 (k : Int) ∧ k ≤ ls.length ∧ Below w.heap.size w wr

set_option maxHeartbeats 1000000 in
theorem sameBinds_any (ls : List Bd) (u v : Value) (w : World) (X Y : Nat → Prop) (hu : BV w X u ls) (hv : BV w Y v ls) :
    Calls Try.prog 17 #[u, v] w fun e w' => e = .returned (.bool true) ∧ Below w.heap.size w w' := by
  have HU := hide hu
  have HV := hide hv
  obtain ⟨a, c, rfl, hl, _⟩ := hu
  obtain ⟨a2, c2, rfl, hl2, _⟩ := hv
  go_enter Try.func17, Try.ntmps17
  go_wp2_with fail
  go_loopw [5] (fun v wr => SmbInv ls w v wr) (fun v wr => ls.length - (intOf v).toNat)
  case atStart => exact ⟨0, rfl, Nat.zero_le _, Below.refl _ _⟩
  case round =>
    obtain ⟨k, rfl, hk, hb⟩ := hrel
    have HB := hide hb
    by_cases hlt : k < ls.length
    · obtain ⟨b, o, a', c', rfl, d0, d1, d2, hs⟩ := (HU.out.later hb).get k hlt
      obtain ⟨b2, o2, a2', c2', rfl, e0, e1, e2, hs2⟩ := (HV.out.later hb).get k hlt
      have HX := hide hs
      have HX2 := hide hs2
      have HS0 := hide (And.intro d0 (And.intro d1 (And.intro d2 (And.intro e0 (And.intro e1 e2)))))
      clear hb hs hs2
      generalize ls[k] = d at *
      have hbb : (d.nm.toList == d.nm.toList) = true := by simp
      go_wp2_with fail
      go_region_held3 (fun w' => w'.cell? ⟨b, o + k * 3, none⟩ = some (.string d.nm) ∧ w'.cell? ⟨b, o + k * 3 + 1, none⟩ = some (.string d.t.name) ∧ w'.cell? ⟨b, o + k * 3 + 2, none⟩ = some (.slice a' d.t.args.length c') ∧ w'.cell? ⟨b2, o2 + k * 3, none⟩ = some (.string d.nm) ∧ w'.cell? ⟨b2, o2 + k * 3 + 1, none⟩ = some (.string d.t.name) ∧ w'.cell? ⟨b2, o2 + k * 3 + 2, none⟩ = some (.slice a2' d.t.args.length c2')) (first | exact HS0.out | exact hS1 | go_keep)
        ((go_at_call 10; refine (same_any d.t _ _ _ X Y (by exact ⟨_, _, rfl, HX.out.later (below_drewN (Below.refl _ _) 1)⟩) (by exact ⟨_, _, rfl, HX2.out.later (below_drewN (Below.refl _ _) 1)⟩)).mono ?_; rintro e w1 ⟨rfl, hb1⟩; have hS1 := same_cells (n := 1) hb1 HS0.out))
      have HB1 := hide ((below_drewN HB.out 1).trans (hb1.mono (by have := HB.out.size; simp; omega)))
      clear hb1
      go_wp2_with fail
      go_roundw
      case rel => exact ⟨k + 1, by go_num, by omega, HB1.out⟩
      case measure => simp [intOf]; omega
    · go_wp2_with fail
      go_ret
      exact ⟨rfl, HB.out⟩

#print axioms sameBinds_any
end Go.Proofs.Ytpjdkdebjkpmmai


/- The law on matching: it answers true. -/
namespace Go.Proofs.Ytpjdkdebjkpmmai
open Go.RowKit
set_option linter.unusedSimpArgs false
set_option linter.unusedVariables false
set_option maxRecDepth 8000

theorem bv_nil (w : World) (X : Nat → Prop) : BV w X (.slice none 0 0) [] := ⟨none, 0, rfl, by simp, Or.inl rfl⟩

end Go.Proofs.Ytpjdkdebjkpmmai


/- Walks: how great a term would be with bindings in it. -/
namespace Go.Proofs.Ytpjdkdebjkpmmai
open Go.RowKit
set_option linter.unusedSimpArgs false
set_option linter.unusedVariables false
set_option maxRecDepth 8000

def GwInv (w0 : World) (M : Nat) (ls : List Bd) (l : List Tm) (most : Int) (n i : Value) (wr : World) : Prop := ∃ k : Nat, k ≤ l.length ∧ i = .int .i64 k ∧ n = .int .i64 (min (1 + sizeL (onL ls (l.take k))) (most + 1)) ∧ Below M w0 wr

end Go.Proofs.Ytpjdkdebjkpmmai


/- Walks: a term with bindings in it, as the document says. -/
namespace Go.Proofs.Ytpjdkdebjkpmmai
open Go.RowKit
set_option linter.unusedSimpArgs false
set_option linter.unusedVariables false
set_option maxRecDepth 8000

def OnPost (w : World) (X : Nat → Prop) (t : Tm) (e : Ending) (w' : World) : Prop :=
  ∃ a c, e = .returned (.agg #[.string t.name, .slice a t.args.length c]) ∧ Sl w' (fun b => (X b ∧ b < w.heap.size) ∨ w.heap.size ≤ b) a t.args ∧ Below w.heap.size w w'

/-- What is held while a knot's next term is made. -/
def OnS (w : World) (b o : Nat) (s : ByteArray) (a : Option Addr) (n c : Nat) (s1 : ByteArray) (v1 : Value) (w' : World) : Prop :=
  Blk w' w.heap.size #[.string s, .slice a n c] 25 ∧ w'.cell? ⟨b, o, none⟩ = some (.string s1) ∧ w'.cell? ⟨b, o + 1, none⟩ = some v1
theorem cell_same {w w' : World} {b i : Nat} {v : Value} (hb : w'.heap[b]? = w.heap[b]?) (h : w.cell? ⟨b, i, none⟩ = some v) : w'.cell? ⟨b, i, none⟩ = some v := by simpa [World.cell?, hb] using h
theorem OnS.below {w wr w1 : World} {b o n c : Nat} {s s1 : ByteArray} {a : Option Addr} {v1 : Value} (h : OnS w b o s a n c s1 v1 wr) (hb : Below wr.heap.size wr w1) (hlt : w.heap.size < wr.heap.size ∧ b < wr.heap.size) : OnS w b o s a n c s1 v1 w1 :=
  ⟨h.1.below hb hlt.1, cell_same (hb.block b hlt.2) h.2.1, cell_same (hb.block b hlt.2) h.2.2⟩
theorem OnS.alloc {w wr : World} {b o n c : Nat} {s s1 : ByteArray} {a : Option Addr} {v1 : Value} (h : OnS w b o s a n c s1 v1 wr) (x : Obj) : OnS w b o s a n c s1 v1 (wr.alloc x) :=
  ⟨h.1.alloc x, cell_same (Below.heap_alloc _ _ _ (cell_lt h.2.1)) h.2.1, cell_same (Below.heap_alloc _ _ _ (cell_lt h.2.1)) h.2.2⟩
theorem OnS.grown {w wr w3 : World} {b o n c : Nat} {s s1 : ByteArray} {a : Option Addr} {v1 : Value} {row : Option Nat} (h : OnS w b o s a n c s1 v1 wr) (hg : wr.grownBy w3 row) (hne : ∀ j, j ≤ w.heap.size → some j ≠ row) (hb : b < w.heap.size) (_ : True) : OnS w b o s a n c s1 v1 w3 :=
  ⟨h.1.grown hg (hne _ (Nat.le_refl _)), cell_same (hg.block b (cell_lt h.2.1) (hne b (by omega))) h.2.1, cell_same (hg.block b (cell_lt h.2.1) (hne b (by omega))) h.2.2⟩
theorem OnS.set {w wr : World} {b o n c : Nat} {s s1 : ByteArray} {a : Option Addr} {v1 : Value} {O i : Nat} (h : OnS w b o s a n c s1 v1 wr) (v : Value) (_ : True) (hO : w.heap.size ≠ O) (hb : b ≠ O) : OnS w b o s a n c s1 v1 (wr.setCell ⟨O, i, none⟩ v) :=
  ⟨h.1.setOther _ _ hO, cell_same (Below.heap_setCell _ _ _ _ (by simpa using hb)) h.2.1, cell_same (Below.heap_setCell _ _ _ _ (by simpa using hb)) h.2.2⟩
theorem hxb {w : World} {X : Nat → Prop} {b o : Nat} {l : List Tm} (h : Sl w X (some ⟨b, o, none⟩) l) (hl : 0 < l.length) : b < w.heap.size := by
  obtain ⟨_, h⟩ := h
  rcases h with rfl | ⟨b', o', e, h⟩
  · simp at hl
  · simp at e
    obtain ⟨rfl, rfl⟩ := e
    exact cell_lt (lies_get l b o h 0 hl).2.1

/-- What is laid ahead of the rounds. -/
def OnSet (w : World) (Y : Nat → Prop) (O : Nat) (s : ByteArray) (a : Option Addr) (n c : Nat) (u : Value) (L : List Tm) (wr : World) : Prop :=
  ∃ xs, Row wr (O + 1) 25 Y u L xs ∧ Below w.heap.size w wr ∧ Blk wr w.heap.size #[.string s, .slice a n c] 25 ∧ Blk wr (w.heap.size + 1) #[.string ⟨#[]⟩, .slice none 0 0] 25 ∧ Blk wr O #[.string s, u] 25 ∧ O < wr.heap.size
def OnInv (w : World) (Y : Nat → Prop) (O : Nat) (s : ByteArray) (a : Option Addr) (c : Nat) (ls : List Bd) (l : List Tm) (i : Value) (wr : World) : Prop :=
  ∃ (k : Nat) (u : Value), k ≤ l.length ∧ i = .int .i64 (k : Int) ∧ OnSet w Y O s a l.length c u (onL ls (l.take k)) wr

theorem on_step {w wr w1 w3 : World} {Y : Nat → Prop} {O n c : Nat} {u : Value} {L : List Tm} {xs : List Value} {o2 : Obj} {s s' : ByteArray} {a a1 : Option Addr} {n1 c1 g cap : Nat} {t : Tm} (hO : w.heap.size + 2 ≤ O) (hY : ∀ b, Y b → b < w.heap.size)
    (hrow : Row wr (O + 1) 25 Y u L xs) (hx : Below w.heap.size w wr) (hT : Blk wr w.heap.size #[.string s, .slice a n c] 25) (hR : Blk wr (w.heap.size + 1) #[.string ⟨#[]⟩, .slice none 0 0] 25) (hOb : Blk wr O #[.string s, u] 25)
    (he1 : Below wr.heap.size wr w1) (ht : TV w1 (fun b => Y b ∨ wr.heap.size ≤ b) (.agg #[.string s', .slice a1 n1 c1]) t)
    (hown : w3.ownsRow (O + 1) 25 2 (.slice (some ⟨g, 0, none⟩) (L.length + 1) cap) (L.length + 1) (xs ++ [.string s', .slice a1 n1 c1])) (hg : (w1.alloc o2).grownBy w3 u.ownBlock) (hat : u.ownBlock = some g ∨ g = (w1.alloc o2).heap.size) :
    OnSet w Y O s a n c (.slice (some ⟨g, 0, none⟩) (L.length + 1) cap) (L ++ [t]) (w3.setCell ⟨O, 1, none⟩ (.slice (some ⟨g, 0, none⟩) (L.length + 1) cap)) := by
  have hlt' := hrow.own.lt
  have hOl := hOb.lt
  have hp := hrow.push (w1 := w1) (w2 := w1.alloc o2) (w3 := w3) (by omega) (fun b h => by have := hY b h; omega) he1 ht o2 rfl hown hg hat
  have hne : ∀ b, b < O + 1 → some b ≠ u.ownBlock := fun b hb e => by have := (hlt' b e.symm).1; omega
  have hs1 := he1.size
  have hsx := hx.size
  have hx3 : Below w.heap.size w w3 := ((hx.trans (he1.mono (by omega))).alloc (by omega) o2).grown hg (by simp; omega) (fun k hk => by have := (hlt' k hk).1; omega)
  have hs3 := hg.size
  simp at hs3
  refine ⟨_, hp.setCell (by omega) (fun h => by have := hY _ h; omega) _, hx3.setCell (p := ⟨O, 1, none⟩) (by simp; omega) _, ?_, ?_, ?_, by simp [World.setCell]; omega⟩
  · exact (((hT.below he1 (by omega)).alloc o2).grown hg (hne _ (by omega))).setOther _ _ (by omega)
  · exact (((hR.below he1 (by omega)).alloc o2).grown hg (hne _ (by omega))).setOther _ _ (by omega)
  · exact (((hOb.below he1 (by omega)).alloc o2).grown hg (hne _ (by omega))).set 1 _

end Go.Proofs.Ytpjdkdebjkpmmai


/- Walks: a term with bindings in it, if it isn't too great; whether bindings may be. -/
namespace Go.Proofs.Ytpjdkdebjkpmmai
open Go.RowKit
set_option linter.unusedSimpArgs false
set_option linter.unusedVariables false
set_option maxRecDepth 8000

def OnAll (w : World) (X : Nat → Prop) (t : Tm) (e : Ending) (w' : World) : Prop :=
  Below w.heap.size w w' ∧ ((2000 < sizeL [t] ∧ e = .returned (.tuple #[.agg #[.string ⟨#[]⟩, .slice none 0 0], .bool false])) ∨ (sizeL [t] ≤ 2000 ∧ ∃ a c, e = .returned (.tuple #[.agg #[.string t.name, .slice a t.args.length c], .bool true]) ∧ Sl w' (fun b => (X b ∧ b < w.heap.size) ∨ w.heap.size ≤ b) a t.args))

end Go.Proofs.Ytpjdkdebjkpmmai


/- The law on matching a term made of raw numbers: it answers true. -/
namespace Go.Proofs.Ytpjdkdebjkpmmai
open Go.RowKit
set_option linter.unusedSimpArgs false
set_option linter.unusedVariables false
set_option maxRecDepth 8000

/-- How great a term is with bindings in it. -/
theorem onL_size {ls : List Bd} {M : Nat} (hM : 1 ≤ M) (h : ∀ d ∈ ls, sizeL [d.t] ≤ M) : ∀ l : List Tm, sizeL (onL ls l) ≤ sizeL l * M := by
  intro l
  induction l using Tm.indL with
  | h0 => simp [onL, sizeL]
  | h s l r ihl ihr =>
    have e1 : sizeL (onL ls (⟨s, l⟩ :: r)) = sizeL [onT ls ⟨s, l⟩] + sizeL (onL ls r) := by
      rw [onL_cons]
      generalize onT ls ⟨s, l⟩ = x
      obtain ⟨s2, m⟩ := x
      simp [sizeL]
    have e2 : sizeL (⟨s, l⟩ :: r) = (1 + sizeL l) + sizeL r := by simp [sizeL]
    have h1 : sizeL [onT ls ⟨s, l⟩] ≤ (1 + sizeL l) * M := by
      have hdeep : sizeL [(⟨s, onL ls l⟩ : Tm)] ≤ (1 + sizeL l) * M := by
        simp only [sizeL]
        rw [Nat.add_mul]
        omega
      unfold onT onN
      cases hf : forT ls s with
      | none => exact hdeep
      | some x =>
        dsimp only
        split
        · obtain ⟨d, hd, _, rfl⟩ := forT_mem hf
          have := h d hd
          rw [Nat.add_mul]
          omega
        · exact hdeep
    rw [e1, e2, Nat.add_mul]
    omega
theorem onT_size {ls : List Bd} {M : Nat} (hM : 1 ≤ M) (h : ∀ d ∈ ls, sizeL [d.t] ≤ M) (t : Tm) : sizeL [onT ls t] ≤ sizeL [t] * M := by
  have h1 := onL_size hM h [t]
  rw [onL_cons] at h1
  simpa [onL] using h1

/-- What the region that makes the instance leaves. -/
def MmB (w3 : World) (Q : Nat) (s : ByteArray) (a : Option Addr) (n c : Nat) (l0 : List Tm) (w9 : World) : Prop := Blk w9 Q #[.string s, .slice a n c] 25 ∧ Below w3.heap.size w3 w9 ∧ Sl w9 (fun _ => True) a l0
theorem mmB_set {w3 w8 : World} {Q n c : Nat} {s : ByteArray} {a : Option Addr} {l0 : List Tm} (hQ : Blk w8 Q #[.string ⟨#[]⟩, .slice none 0 0] 25) (hw : w3.heap.size ≤ Q) (hb : Below w3.heap.size w3 w8) (hs : Sl w8 (fun b => b ≠ Q) a l0) :
    MmB w3 Q s a n c l0 ((w8.setCell ⟨Q, 0, none⟩ (.string s)).setCell ⟨Q, 1, none⟩ (.slice a n c)) :=
  ⟨(hQ.set 0 _).set 1 _, (hb.setCell (by exact hw) _).setCell (by exact hw) _, (hs.kept fun b hb => by
    rw [Below.heap_setCell _ _ _ _ (by simpa using hb), Below.heap_setCell _ _ _ _ (by simpa using hb)]).mono fun b hb _ => trivial⟩

end Go.Proofs.Ytpjdkdebjkpmmai

/- Bindings behind one another: plain. -/
namespace Go.Proofs.Ytpjdkdebjkpmmai
open Go.RowKit
set_option linter.unusedSimpArgs false
set_option linter.unusedVariables false

theorem errL_var {t : Tm} (he : errL [t] = 0) (hv : varB t.name = true) : t = ⟨t.name, []⟩ := by
  obtain ⟨s, l⟩ := t
  have h := (errL_parts he).1 hv
  subst h
  rfl
/-- Bindings that may be: at most k, each of at most m nodes. -/
def Gd (k m : Nat) (l : List Bd) : Prop := SortedB l ∧ l.length ≤ k ∧ ∀ d ∈ l, (nameB d.nm && varB d.nm) = true ∧ errL [d.t] = 0 ∧ sizeL [d.t] ≤ m
theorem Gd.E {k m : Nat} {l : List Bd} (h : Gd k m l) (hk : k ≤ 40) (hm : m ≤ 200) : bindsE l = 0 :=
  bindsE_mk h.1 (Nat.le_trans h.2.1 hk) fun d hd => ⟨(h.2.2 d hd).1, mayE_mk (h.2.2 d hd).2.1 (Nat.le_trans (h.2.2 d hd).2.2 hm)⟩
theorem gd_four {ls : List Bd} {m : Nat} (hm : m ≤ 200) (hs : (ls.map (·.nm)).Sublist four) (ha : ∀ d ∈ ls, sizeL [d.t] ≤ m ∧ errL [d.t] = 0) : Gd 4 m ls := by
  refine ⟨bindsE_sorted (four_E hs fun d hd => ⟨Nat.le_trans (ha d hd).1 hm, (ha d hd).2⟩), ?_, fun d hd => ⟨?_, (ha d hd).2, (ha d hd).1⟩⟩
  · have := hs.length_le
    simp [four] at this
    omega
  · have h4 : ∀ n ∈ four, (nameB n && varB n) = true := by unfold four; decide
    exact h4 _ (hs.subset (List.mem_map.2 ⟨d, hd, rfl⟩))

theorem forT_mapB (rs ls : List Bd) (n : ByteArray) : forT (ls.map (fB rs)) n = (forT ls n).map (fT rs) := by
  induction ls with
  | nil => rfl
  | cons d r ih =>
    rw [List.map_cons, forT, forT]
    by_cases e : d.nm = n
    · rw [if_pos e, if_pos (show (fB rs d).nm = n from e)]; rfl
    · rw [if_neg e, if_neg (show ¬ (fB rs d).nm = n from e)]; exact ih
theorem forT_filterN (ls rs : List Bd) (n : ByteArray) : forT (rs.filter fun d => (forT ls d.nm).isNone) n = if (forT ls n).isNone = true then forT rs n else none := by
  induction rs with
  | nil => simp [forT]
  | cons d r ih =>
    by_cases hd : (forT ls d.nm).isNone = true
    · rw [List.filter_cons_of_pos (p := fun d : Bd => (forT ls d.nm).isNone) hd, forT, forT, ih]
      by_cases e : d.nm = n
      · subst e
        rw [if_pos rfl, if_pos rfl, if_pos hd]
      · rw [if_neg e, if_neg e]
    · rw [List.filter_cons_of_neg (p := fun d : Bd => (forT ls d.nm).isNone) hd, ih, forT]
      by_cases e : d.nm = n
      · subst e
        rw [if_neg hd, if_neg hd]
      · rw [if_neg e]
theorem val_both {ls rs : List Bd} (h1 : bindsE ls = 0) (h2 : bindsE rs = 0) (n : ByteArray) : onT (bothB ls rs) ⟨n, []⟩ = onT rs (onT ls ⟨n, []⟩) := by
  rw [onT_leaf]
  unfold bothB
  rw [forT_append, forT_mapB, forT_filterN]
  cases hf : forT ls n with
  | none =>
    rw [onT_leaf ls, hf]
    show ((none : Option Tm).or (if true = true then forT rs n else none)).getD _ = onT rs ⟨n, []⟩
    rw [onT_leaf]
    simp
  | some t =>
    rw [onT_some hf, ← fT_onT h2 t (forT_var h1 hf).2]
    simp
theorem val_kept {B l : List Bd} (hB : ApartB B) (hg : ∀ d ∈ B, varB d.nm = true ∧ errL [d.t] = 0) (hp : l.Perm (B.filter keepB)) (hl : ApartB l) (n : ByteArray) : onT l ⟨n, []⟩ = onT B ⟨n, []⟩ := by
  rw [onT_leaf, onT_leaf]
  cases hb : forT B n with
  | some t =>
    obtain ⟨d, hd, hn, ht⟩ := forT_mem hb
    cases hk : keepB d with
    | true =>
      have h1 : d ∈ l := hp.symm.subset (List.mem_filter.2 ⟨hd, hk⟩)
      have h2 := forT_of hl h1
      rw [hn, ht] at h2
      rw [h2]
    | false =>
      have e : d.t.name = d.nm := bytes_inj (by simpa [keepB] using hk)
      have e2 := errL_var (hg d hd).2 (by rw [e]; exact (hg d hd).1)
      cases h1 : forT l n with
      | none =>
        show (⟨n, []⟩ : Tm) = t
        rw [← ht, e2, e, hn]
      | some t' =>
        obtain ⟨d', hd', hn', ht'⟩ := forT_mem h1
        obtain ⟨h3, h4⟩ := List.mem_filter.1 (hp.subset hd')
        have h5 := forT_of hB h3
        rw [hn', hb] at h5
        cases h5
        unfold keepB at hk h4
        rw [hn', ← ht] at h4
        rw [hn] at hk
        rw [h4] at hk
        cases hk
  | none =>
    cases h1 : forT l n with
    | none => rfl
    | some t' =>
      obtain ⟨d', hd', hn', ht'⟩ := forT_mem h1
      have h5 := forT_of hB (List.mem_filter.1 (hp.subset hd')).1
      rw [hn', hb] at h5
      cases h5
theorem bothB_apart2 {ls rs : List Bd} (h1 : bindsE ls = 0) (h2 : bindsE rs = 0) : ApartB (bothB ls rs) := by
  unfold bothB
  refine List.pairwise_append.2 ⟨List.pairwise_map.2 (bindsE_sorted h1).apart, (bindsE_sorted h2).apart.sublist List.filter_sublist, fun a ha b hb e => ?_⟩
  obtain ⟨d, hd, rfl⟩ := List.mem_map.1 ha
  obtain ⟨_, hf⟩ := List.mem_filter.1 hb
  obtain ⟨t, ht⟩ := forT_some_of hd
  have e2 : d.nm = b.nm := e
  rw [← e2, ht] at hf
  cases hf
theorem both_mem {k1 m1 k2 m2 : Nat} {ls rs : List Bd} (h1 : Gd k1 m1 ls) (h2 : Gd k2 m2 rs) (hk1 : k1 ≤ 40) (hk2 : k2 ≤ 40) (hm1 : m1 ≤ 200) (hm2 : m2 ≤ 200) (p1 : 1 ≤ m1) (p2 : 1 ≤ m2) : ∀ d ∈ bothB ls rs, (nameB d.nm && varB d.nm) = true ∧ errL [d.t] = 0 ∧ sizeL [d.t] ≤ m1 * m2 := by
  intro d hd
  unfold bothB at hd
  have E1 := h1.E hk1 hm1
  have E2 := h2.E hk2 hm2
  rcases List.mem_append.1 hd with hd | hd
  · obtain ⟨d', hd', rfl⟩ := List.mem_map.1 hd
    obtain ⟨g1, g2, g3⟩ := h1.2.2 d' hd'
    have e : fT rs d'.t = onT rs d'.t := fT_onT E2 _ (mayE_mk g2 (by omega))
    refine ⟨g1, ?_, ?_⟩
    · show errL [fT rs d'.t] = 0
      rw [e]
      exact errL_onT E2 g2
    · show sizeL [fT rs d'.t] ≤ _
      rw [e]
      exact Nat.le_trans (onT_size p2 (fun d hd => (h2.2.2 d hd).2.2) d'.t) (Nat.mul_le_mul_right _ g3)
  · obtain ⟨g1, g2, g3⟩ := h2.2.2 d (List.mem_filter.1 hd).1
    exact ⟨g1, g2, Nat.le_trans g3 (Nat.le_mul_of_pos_left _ p1)⟩
/-- What Then answers. -/
def IsThen (ls rs l : List Bd) : Prop := l.Perm ((bothB ls rs).filter keepB) ∧ SortedB l
theorem IsThen.gd {k1 m1 k2 m2 : Nat} {ls rs l : List Bd} (h : IsThen ls rs l) (h1 : Gd k1 m1 ls) (h2 : Gd k2 m2 rs) (hk1 : k1 ≤ 40) (hk2 : k2 ≤ 40) (hm1 : m1 ≤ 200) (hm2 : m2 ≤ 200) (p1 : 1 ≤ m1) (p2 : 1 ≤ m2) : Gd (k1 + k2) (m1 * m2) l := by
  refine ⟨h.2, ?_, fun d hd => both_mem h1 h2 hk1 hk2 hm1 hm2 p1 p2 d (List.mem_filter.1 (h.1.subset hd)).1⟩
  have e1 := h.1.length_eq
  have e2 : ((bothB ls rs).filter keepB).length ≤ (bothB ls rs).length := List.length_filter_le _ _
  have e3 : (bothB ls rs).length ≤ ls.length + rs.length := by
    unfold bothB
    rw [List.length_append, List.length_map]
    have := List.length_filter_le (fun d : Bd => (forT ls d.nm).isNone) rs
    omega
  have := h1.2.1
  have := h2.2.1
  omega
theorem IsThen.val {k1 m1 k2 m2 : Nat} {ls rs l : List Bd} (h : IsThen ls rs l) (h1 : Gd k1 m1 ls) (h2 : Gd k2 m2 rs) (hk1 : k1 ≤ 40) (hk2 : k2 ≤ 40) (hm1 : m1 ≤ 200) (hm2 : m2 ≤ 200) (p1 : 1 ≤ m1) (p2 : 1 ≤ m2) (n : ByteArray) : onT l ⟨n, []⟩ = onT rs (onT ls ⟨n, []⟩) := by
  rw [← val_both (h1.E hk1 hm1) (h2.E hk2 hm2)]
  exact val_kept (bothB_apart2 (h1.E hk1 hm1) (h2.E hk2 hm2)) (fun d hd => by
    obtain ⟨g1, g2, _⟩ := both_mem h1 h2 hk1 hk2 hm1 hm2 p1 p2 d hd
    exact ⟨(Bool.and_eq_true_iff.1 g1).2, g2⟩) h.1 h.2.apart n
theorem comp_L {ls rs l : List Bd} (h1 : bindsE ls = 0) (h2 : bindsE rs = 0) (h3 : bindsE l = 0) (hv : ∀ n, onT l ⟨n, []⟩ = onT rs (onT ls ⟨n, []⟩)) : ∀ ts : List Tm, errL ts = 0 → onL l ts = onL rs (onL ls ts) := by
  intro ts
  induction ts using Tm.indL with
  | h0 => intro _; simp [onL]
  | h s al r ihl ihr =>
    intro he
    obtain ⟨g1, g2, g3⟩ := errL_parts he
    rw [onL_cons, onL_cons, onL_cons, ihr g3]
    congr 1
    cases hs : varB s with
    | false => rw [onT_sym h3 hs, onT_sym h1 hs, onT_sym h2 hs, ihl g2]
    | true =>
      have e := g1 hs
      subst e
      exact hv s
theorem comp_T {ls rs l : List Bd} (h1 : bindsE ls = 0) (h2 : bindsE rs = 0) (h3 : bindsE l = 0) (hv : ∀ n, onT l ⟨n, []⟩ = onT rs (onT ls ⟨n, []⟩)) {t : Tm} (he : errL [t] = 0) : onT l t = onT rs (onT ls t) := by
  have h := comp_L h1 h2 h3 hv [t] he
  rw [onL_cons, onL_cons, onL_cons] at h
  simpa [onL] using h
theorem sorted_ext : ∀ {x y : List Bd}, SortedB x → SortedB y → (∀ d, d ∈ x ↔ d ∈ y) → x = y
  | [], [], _, _, _ => rfl
  | [], b :: ys, _, _, h => by have := (h b).2 (by simp); cases this
  | a :: xs, [], _, _, h => by have := (h a).1 (by simp); cases this
  | a :: xs, b :: ys, hx, hy, h => by
    obtain ⟨hx1, hx2⟩ := List.pairwise_cons.1 hx
    obtain ⟨hy1, hy2⟩ := List.pairwise_cons.1 hy
    have e : a = b := by
      rcases List.mem_cons.1 ((h a).1 (by simp)) with e | ha
      · exact e
      · rcases List.mem_cons.1 ((h b).2 (by simp)) with e | hb
        · exact e.symm
        · have h1 := hx1 b hb
          have h2 := hy1 a ha
          have h3 : ltB b.nm a.nm = false := ltB_asymm h1
          rw [h3] at h2
          cases h2
    subst e
    congr 1
    refine sorted_ext hx2 hy2 fun d => ⟨fun hd => ?_, fun hd => ?_⟩
    · rcases List.mem_cons.1 ((h d).1 (by simp [hd])) with e | hd'
      · have := hx1 d hd
        rw [e, ltB_irrefl] at this
        cases this
      · exact hd'
    · rcases List.mem_cons.1 ((h d).2 (by simp [hd])) with e | hd'
      · have := hy1 d hd
        rw [e, ltB_irrefl] at this
        cases this
      · exact hd'
theorem sub_of_val {x y : List Bd} (hx : SortedB x) (hk : ∀ d ∈ x, keepB d = true ∧ nameB d.nm = true) (hv : ∀ n, nameB n = true → onT x ⟨n, []⟩ = onT y ⟨n, []⟩) : ∀ d ∈ x, d ∈ y := by
  intro d hd
  have h1 := hv d.nm (hk d hd).2
  rw [onT_leaf, onT_leaf, forT_of hx.apart hd] at h1
  cases hf : forT y d.nm with
  | none =>
    rw [hf] at h1
    have e : d.t = ⟨d.nm, []⟩ := h1
    have h2 := (hk d hd).1
    unfold keepB at h2
    rw [e] at h2
    simp at h2
  | some t =>
    rw [hf] at h1
    have e : d.t = t := h1
    obtain ⟨d', hd', hn, ht⟩ := forT_mem hf
    have e2 : d' = d := by
      cases d; cases d'
      simp only at hn ht e
      rw [hn, ht, e]
    rw [← e2]
    exact hd'
/-- Doing one behind the other is associative. -/
theorem then_assoc {s r q sr rq x y : List Bd} (hs : Gd 4 11 s) (hr : Gd 4 11 r) (hq : Gd 4 11 q) (h1 : IsThen s r sr) (h2 : IsThen r q rq) (h3 : IsThen sr q x) (h4 : IsThen s rq y) : x = y := by
  have gsr : Gd 8 121 sr := h1.gd hs hr (by omega) (by omega) (by omega) (by omega) (by omega) (by omega)
  have grq : Gd 8 121 rq := h2.gd hr hq (by omega) (by omega) (by omega) (by omega) (by omega) (by omega)
  have gx := h3.gd gsr hq (by omega) (by omega) (by omega) (by omega) (by omega) (by omega)
  have gy := h4.gd hs grq (by omega) (by omega) (by omega) (by omega) (by omega) (by omega)
  have hv : ∀ n, nameB n = true → onT x ⟨n, []⟩ = onT y ⟨n, []⟩ := fun n hn => by
    rw [h3.val gsr hq (by omega) (by omega) (by omega) (by omega) (by omega) (by omega), h4.val hs grq (by omega) (by omega) (by omega) (by omega) (by omega) (by omega), h1.val hs hr (by omega) (by omega) (by omega) (by omega) (by omega) (by omega)]
    exact (comp_T (hr.E (by omega) (by omega)) (hq.E (by omega) (by omega)) (grq.E (by omega) (by omega)) (h2.val hr hq (by omega) (by omega) (by omega) (by omega) (by omega) (by omega)) (errL_onT (hs.E (by omega) (by omega)) (err_leaf hn))).symm
  have kx : ∀ d ∈ x, keepB d = true ∧ nameB d.nm = true := fun d hd => ⟨(List.mem_filter.1 (h3.1.subset hd)).2, (Bool.and_eq_true_iff.1 (gx.2.2 d hd).1).1⟩
  have ky : ∀ d ∈ y, keepB d = true ∧ nameB d.nm = true := fun d hd => ⟨(List.mem_filter.1 (h4.1.subset hd)).2, (Bool.and_eq_true_iff.1 (gy.2.2 d hd).1).1⟩
  exact sorted_ext h3.2 h4.2 fun d => ⟨sub_of_val h3.2 kx hv d, sub_of_val h4.2 ky (fun n hn => (hv n hn).symm) d⟩
#print axioms then_assoc
end Go.Proofs.Ytpjdkdebjkpmmai

/- The law on doing one behind the other: it answers true. -/
namespace Go.Proofs.Ytpjdkdebjkpmmai
open Go.RowKit
set_option linter.unusedSimpArgs false
set_option linter.unusedVariables false
set_option maxRecDepth 8000

theorem then_good {k1 m1 k2 m2 : Nat} {ls rs : List Bd} (u v : Value) (w : World) (hu : BV w (fun _ => True) u ls) (hv : BV w (fun _ => True) v rs) (h1 : Gd k1 m1 ls) (h2 : Gd k2 m2 rs) (hk1 : k1 ≤ 40) (hk2 : k2 ≤ 40) (hm1 : m1 ≤ 200) (hm2 : m2 ≤ 200) (p2 : 1 ≤ m2) (hm : m1 * m2 ≤ 2000) :
    Calls Try.prog 14 #[u, v] w fun e w' => ∃ v' l, e = .returned (.tuple #[v', .int .i64 0]) ∧ BV w' (fun _ => True) v' l ∧ IsThen ls rs l ∧ Below w.heap.size w w' := by
  have E1 := h1.E hk1 hm1
  have E2 := h2.E hk2 hm2
  refine (then_any ls rs u v w _ hu hv).mono ?_
  rintro e w' ⟨hb, ⟨h, _⟩ | ⟨_, h, _⟩ | ⟨_, _, h, _⟩ | ⟨_, _, _, v', l, rfl, hv', hp, hs⟩⟩
  · exact absurd E1 h
  · exact absurd E2 h
  · rw [fullB_no fun d hd => ?_] at h
    · cases h
    · obtain ⟨_, g2, g3⟩ := h1.2.2 d hd
      rw [fT_onT E2 _ (mayE_mk g2 (by omega))]
      have h3 := onT_size p2 (fun d hd => (h2.2.2 d hd).2.2) d.t
      have h4 := Nat.mul_le_mul_right m2 g3
      omega
  · exact ⟨v', l, rfl, hv'.mono (fun _ _ _ => trivial), ⟨hp, hs⟩, hb⟩
theorem apply_good {k m : Nat} {ls : List Bd} {t : Tm} (u : Value) (a : Option Addr) (c : Nat) (w : World) (hu : BV w (fun _ => True) u ls) (ht : Sl w (fun _ => True) a t.args) (h1 : Gd k m ls) (hk : k ≤ 40) (hm : m ≤ 200) (p : 1 ≤ m) (he : errL [t] = 0) (hs : sizeL [t] ≤ 200) (hp : sizeL [t] * m ≤ 2000) :
    Calls Try.prog 15 #[u, .agg #[.string t.name, .slice a t.args.length c]] w fun e w' => ∃ a' c', e = .returned (.tuple #[.agg #[.string (onT ls t).name, .slice a' (onT ls t).args.length c'], .int .i64 0]) ∧ Sl w' (fun _ => True) a' (onT ls t).args ∧ Below w.heap.size w w' := by
  have E1 := h1.E hk hm
  have hmt := mayE_mk he hs
  have hz := onT_size p (fun d hd => (h1.2.2 d hd).2.2) t
  refine (apply_on ls t _ _ w (fun _ => True) hu ⟨_, _, rfl, ht⟩).mono ?_
  rintro e w' ⟨hb, ⟨h, _⟩ | ⟨_, h, _⟩ | ⟨_, _, ⟨_, a', c', rfl, hs'⟩ | ⟨h, _⟩⟩⟩
  · exact absurd E1 h
  · exact absurd hmt h
  · rw [fT_onT E1 t hmt] at hs' ⊢
    exact ⟨a', c', rfl, hs'.mono fun _ _ _ => trivial, hb⟩
  · rw [fT_onT E1 t hmt] at h
    omega
theorem bv_one (w : World) (B : Nat) (n s : ByteArray) (T : Nat) (h : Blk w B #[.string n, .string s, .slice none 0 0] T) : BV w (fun _ => True) (.slice (some ⟨B, 0, none⟩) 1 1) [⟨n, ⟨s, []⟩⟩] := by
  refine ⟨some ⟨B, 0, none⟩, 1, rfl, by simp, Or.inr ⟨B, 0, rfl, trivial, fun i hi => ?_⟩⟩
  have e : i = 0 := by simp at hi; omega
  subst e
  exact ⟨h.cell 0, h.cell 1, none, 0, h.cell 2, by simp, Or.inl rfl⟩

set_option maxHeartbeats 3000000 in
theorem puts_any (w : World) : Calls Try.prog 18 #[] w fun e w' => e = .returned (.bool true) ∧ Below w.heap.size w w' := by
  go_enter Try.func18, Try.ntmps18
  go_wp2_with fail
  refine (leaf_any _ _).mono ?_
  rintro e w1 ⟨rfl, hb1⟩
  have HB1 := hide hb1
  clear hb1
  go_wp2_with fail
  have hbA : Below w1.heap.size w1 (w1.alloc (.cells #[.string ⟨#[88]⟩, .string ⟨#[97]⟩, .slice none 0 0] 67)) := (Below.refl _ _).alloc (Nat.le_refl _) _
  have V2 := hide (bv_one _ _ _ _ _ (Blk.new w1 #[.string ⟨#[88]⟩, .string ⟨#[97]⟩, .slice none 0 0] 67))
  have HB2 := hide (HB1.out.trans (hbA.mono HB1.out.size))
  clear hbA
  generalize w1.alloc (.cells #[.string ⟨#[88]⟩, .string ⟨#[97]⟩, .slice none 0 0] 67) = w2 at *
  refine (leaf_any _ _).mono ?_
  rintro e w3 ⟨rfl, hb3⟩
  have V3 := hide (V2.out.later hb3)
  have HB3 := hide (HB2.out.trans (hb3.mono HB2.out.size))
  clear hb3
  have G : Gd 1 1 [⟨⟨#[88]⟩, ⟨⟨#[97]⟩, []⟩⟩] := by
    refine ⟨by simp [SortedB], by simp, fun d hd => ?_⟩
    have e : d = ⟨⟨#[88]⟩, ⟨⟨#[97]⟩, []⟩⟩ := by simpa using hd
    subst e
    exact ⟨by decide, err_leaf (by decide), by simp [sizeL]⟩
  have AP : Hid (Calls Try.prog 15 #[.slice (some ⟨w1.heap.size, 0, none⟩) 1 1, .agg #[.string ⟨#[88]⟩, .slice none 0 0]] w3 fun e w'' => ∃ a' c', e = .returned (.tuple #[.agg #[.string ⟨#[97]⟩, .slice a' 0 c'], .int .i64 0]) ∧ Below w3.heap.size w3 w'') := by
    refine (apply_good (t := ⟨⟨#[88]⟩, []⟩) _ none 0 _ V3.out ⟨by simp, Or.inl rfl⟩ G (by decide) (by decide) (by decide) (err_leaf (by decide)) (by simp [sizeL]) (by simp [sizeL])).mono ?_
    rintro e w' ⟨a', c', rfl, _, hb⟩
    have e2 : onT [⟨⟨#[88]⟩, ⟨⟨#[97]⟩, []⟩⟩] ⟨⟨#[88]⟩, []⟩ = ⟨⟨#[97]⟩, []⟩ := by rw [onT_leaf]; simp [forT]
    rw [e2]
    exact ⟨a', c', rfl, hb⟩
  clear G
  go_wp2_with fail
  refine AP.out.mono ?_
  rintro e w4 ⟨a4, c4, rfl, hb4⟩
  have hbA : Below w4.heap.size w4 (w4.alloc (.cells #[.string ⟨#[97]⟩, .slice a4 0 c4] 25)) := (Below.refl _ _).alloc (Nat.le_refl _) _
  have x0 := (Blk.new w4 #[.string ⟨#[97]⟩, .slice a4 0 c4] 25).cell 0
  have hb5 := hb4.trans (hbA.mono hb4.size)
  have HB5 := hide (HB3.out.trans (hb5.mono HB3.out.size))
  clear hbA hb4 hb5
  go_wp2_with fail
  go_ret
  exact ⟨rfl, HB5.out⟩
#print axioms puts_any

set_option maxHeartbeats 3000000 in
theorem topCompose_any (PU : Hid (∀ w, Calls Try.prog 18 #[] w fun e w' => e = .returned (.bool true) ∧ Below w.heap.size w w')) (zs : List Int) (hr : ∀ z ∈ zs, Rng z) (y : Int) (hy : Rng y) (u : Value) (w : World) (X : Nat → Prop) (hu : PV w X u zs) :
    Calls Try.prog 4 #[u, .int .i64 y] w fun e w' => e = .returned (.bool true) ∧ Below w.heap.size w w' := by
  have HU := hide hu
  obtain ⟨a, c, rfl, hlc, hu2⟩ := hu
  clear hu2
  by_cases h256 : 256 < zs.length
  · go_enter Try.func4, Try.ntmps4
    go_wp2_with fail
    go_ret
    exact ⟨rfl, Below.refl _ _⟩
  · go_enter Try.func4, Try.ntmps4
    go_wp2_with fail
    refine (pick_any _ 7 (by decide) (by decide) hy _).mono ?_
    rintro e w1 ⟨k1, rfl, hk1, rfl⟩
    have BF : Hid (∀ (i : Nat) (w' : World), i ≤ 80 → Below w1.heap.size w1 w' → Calls Try.prog 13 #[.slice a zs.length c, .int .i64 (i : Int), .int .i64 (k1 : Int), .int .i64 4] w' fun e w'' => ∃ v ls, e = .returned v ∧ BV w'' (fun _ => True) v ls ∧ Gd 4 11 ls ∧ Below w'.heap.size w' w'') := fun i w' hi hb => by
      refine (bindsFrom_any 4 (by decide) (by decide) zs hr (by omega) k1 i _ w' X (HU.out.later hb) (by omega) (by unfold top; split <;> omega)).mono ?_
      rintro e w5 ⟨v, ls, rfl, hv, hfo, hsz, hb5⟩
      have ht : top k1 ≤ 11 := by unfold top; split <;> omega
      exact ⟨v, ls, rfl, hv.mono fun _ _ _ => trivial, gd_four (by decide) hfo fun d hd => ⟨by have := (hsz d hd).1; omega, (hsz d hd).2⟩, hb5⟩
    go_wp2_with fail
    refine (BF.out 0 _ (by omega) (Below.refl _ _)).mono ?_
    rintro e w2 ⟨vs, s, rfl, hvs, gs, hb2⟩
    have VS := hide hvs
    have GS := hide gs
    have HB2 := hide hb2
    clear hvs gs hb2
    go_wp2_with fail
    refine (BF.out 40 _ (by omega) HB2.out).mono ?_
    rintro e w3 ⟨vr, r, rfl, hvr, gr, hb3⟩
    have VR := hide hvr
    have GR := hide gr
    have VS3 := hide (VS.out.later hb3)
    have HB3 := hide (HB2.out.trans (hb3.mono HB2.out.size))
    clear hvr gr hb3
    go_wp2_with fail
    refine (BF.out 80 _ (by omega) HB3.out).mono ?_
    rintro e w4 ⟨vq, q, rfl, hvq, gq, hb4⟩
    have VQ := hide hvq
    have GQ := hide gq
    have VS4 := hide (VS3.out.later hb4)
    have VR4 := hide (VR.out.later hb4)
    have HB4 := hide (HB3.out.trans (hb4.mono HB3.out.size))
    clear hvq gq hb4 VS VS3 VR
    go_wp2_with fail
    refine (termOf_any 4 (by decide) (by decide) zs hr (by omega) 7 120 _ _ X (HU.out.later HB4.out) (by omega) (by unfold top; split <;> omega)).mono ?_
    rintro e w5 ⟨t, a5, c5, rfl, hs5, hz5, hb5, he5⟩
    have htop : sizeL [t] ≤ 13 := by
      have : top 7 ≤ 13 := by unfold top; split <;> omega
      omega
    have hbA : Below w5.heap.size w5 (w5.alloc (.cells #[.string t.name, .slice a5 t.args.length c5] 25)) := (Below.refl _ _).alloc (Nat.le_refl _) _
    have hb56 := hb5.trans (hbA.mono hb5.size)
    have P6 := hide (Blk.new w5 #[.string t.name, .slice a5 t.args.length c5] 25)
    have B6 := hide (HB4.out.trans (hb56.mono HB4.out.size))
    have ST := hide ((hs5.later hbA).mono (Y := fun _ => True) fun _ _ _ => trivial)
    have VSA : Hid (∀ w', Below (w5.alloc (.cells #[.string t.name, .slice a5 t.args.length c5] 25)).heap.size (w5.alloc (.cells #[.string t.name, .slice a5 t.args.length c5] 25)) w' → BV w' (fun _ => True) vs s) := fun w' hb => (VS4.out.later hb56).later hb
    have VRA : Hid (∀ w', Below (w5.alloc (.cells #[.string t.name, .slice a5 t.args.length c5] 25)).heap.size (w5.alloc (.cells #[.string t.name, .slice a5 t.args.length c5] 25)) w' → BV w' (fun _ => True) vr r) := fun w' hb => (VR4.out.later hb56).later hb
    have VQA : Hid (∀ w', Below (w5.alloc (.cells #[.string t.name, .slice a5 t.args.length c5] 25)).heap.size (w5.alloc (.cells #[.string t.name, .slice a5 t.args.length c5] 25)) w' → BV w' (fun _ => True) vq q) := fun w' hb => (VQ.out.later hb56).later hb
    clear hb5 hs5 hbA hb56 VS4 VR4 VQ HB2 HB3 HB4 BF
    go_wp2_with fail
    generalize w5.alloc (.cells #[.string t.name, .slice a5 t.args.length c5] 25) = w6 at *
    generalize w5.heap.size = P at *
    have hT := hide he5
    clear he5
    refine (then_good _ _ _ (VSA.out _ (Below.refl _ _)) (VRA.out _ (Below.refl _ _)) GS.out GR.out (by decide) (by decide) (by decide) (by decide) (by decide) (by decide)).mono ?_
    rintro e w7 ⟨v7, sr, rfl, hv7, hi7, hb7⟩
    have HB7 := hide hb7
    have I1 := hide hi7
    have GSR : Hid (Gd 8 121 sr) := hi7.gd GS.out GR.out (by decide) (by decide) (by decide) (by decide) (by decide) (by decide)
    have V7 := hide hv7
    clear hb7 hi7 hv7
    go_wp2_with fail
    refine (then_good _ _ _ (VRA.out _ HB7.out) (VQA.out _ HB7.out) GR.out GQ.out (by decide) (by decide) (by decide) (by decide) (by decide) (by decide)).mono ?_
    rintro e w8 ⟨v8, rq, rfl, hv8, hi8, hb8⟩
    have V7A := hide (V7.out.later hb8)
    have HB8 := hide (HB7.out.trans (hb8.mono HB7.out.size))
    have I2 := hide hi8
    have GRQ : Hid (Gd 8 121 rq) := hi8.gd GR.out GQ.out (by decide) (by decide) (by decide) (by decide) (by decide) (by decide)
    have V8 := hide hv8
    have VS8 : Hid (∀ w', Below w8.heap.size w8 w' → BV w' (fun _ => True) vs s) := fun w' hb => VSA.out _ (HB8.out.trans (hb.mono HB8.out.size))
    have VR8 : Hid (∀ w', Below w8.heap.size w8 w' → BV w' (fun _ => True) vr r) := fun w' hb => VRA.out _ (HB8.out.trans (hb.mono HB8.out.size))
    have VQ8 : Hid (∀ w', Below w8.heap.size w8 w' → BV w' (fun _ => True) vq q) := fun w' hb => VQA.out _ (HB8.out.trans (hb.mono HB8.out.size))
    have V78 : Hid (∀ w', Below w8.heap.size w8 w' → BV w' (fun _ => True) v7 sr) := fun w' hb => V7A.out.later hb
    have V88 : Hid (∀ w', Below w8.heap.size w8 w' → BV w' (fun _ => True) v8 rq) := fun w' hb => V8.out.later hb
    have ST8 : Hid (∀ w', Below w8.heap.size w8 w' → Sl w' (fun _ => True) a5 t.args) := fun w' hb => ST.out.later (HB8.out.trans (hb.mono HB8.out.size))
    have KP8 : Hid (∀ w', Below w8.heap.size w8 w' → w'.cell? ⟨P, 0, none⟩ = some (.string t.name) ∧ w'.cell? ⟨P, 1, none⟩ = some (.slice a5 t.args.length c5)) := fun w' hb => ⟨cell_later (HB8.out.trans (hb.mono HB8.out.size)) (P6.out.cell 0), cell_later (HB8.out.trans (hb.mono HB8.out.size)) (P6.out.cell 1)⟩
    have BW8 := hide (B6.out.trans (HB8.out.mono B6.out.size))
    clear hb8 hi8 hv8 V7 HB7 VSA VRA VQA V7A V8 ST P6 B6 HB8
    obtain ⟨ta, hta⟩ : ∃ ta, ta = onT s t := ⟨_, rfl⟩
    obtain ⟨tb, htb⟩ : ∃ tb, tb = onT r ta := ⟨_, rfl⟩
    have E1 := GS.out.E (by decide) (by decide)
    have E2 := GR.out.E (by decide) (by decide)
    have EA : errL [ta] = 0 := by rw [hta]; exact errL_onT E1 hT.out
    have ZA : sizeL [ta] ≤ 143 := by
      have h3 := onT_size (M := 11) (by decide) (fun d hd => (GS.out.2.2 d hd).2.2) t
      rw [hta]
      omega
    have hsr : onT sr t = tb := by
      rw [htb, hta]
      exact comp_T E1 E2 (GSR.out.E (by decide) (by decide)) (I1.out.val GS.out GR.out (by decide) (by decide) (by decide) (by decide) (by decide) (by decide)) hT.out
    have AP1 : Hid (∀ w', Below w8.heap.size w8 w' → Calls Try.prog 15 #[vs, .agg #[.string t.name, .slice a5 t.args.length c5]] w' fun e w'' => ∃ a' c', e = .returned (.tuple #[.agg #[.string ta.name, .slice a' ta.args.length c'], .int .i64 0]) ∧ Sl w'' (fun _ => True) a' ta.args ∧ Below w'.heap.size w' w'') := fun w' hb => by
      rw [hta]
      exact apply_good _ _ _ _ (VS8.out _ hb) (ST8.out _ hb) GS.out (by decide) (by decide) (by decide) hT.out (by omega) (by omega)
    have AP2 : Hid (∀ w', Below w8.heap.size w8 w' → Calls Try.prog 15 #[v7, .agg #[.string t.name, .slice a5 t.args.length c5]] w' fun e w'' => ∃ a' c', e = .returned (.tuple #[.agg #[.string tb.name, .slice a' tb.args.length c'], .int .i64 0]) ∧ Sl w'' (fun _ => True) a' tb.args ∧ Below w'.heap.size w' w'') := fun w' hb => by
      rw [← hsr]
      exact apply_good _ _ _ _ (V78.out _ hb) (ST8.out _ hb) GSR.out (by decide) (by decide) (by decide) hT.out (by omega) (by omega)
    have AP3 : Hid (∀ a9 c9 w', Below w8.heap.size w8 w' → Sl w' (fun _ => True) a9 ta.args → Calls Try.prog 15 #[vr, .agg #[.string ta.name, .slice a9 ta.args.length c9]] w' fun e w'' => ∃ a' c', e = .returned (.tuple #[.agg #[.string tb.name, .slice a' tb.args.length c'], .int .i64 0]) ∧ Sl w'' (fun _ => True) a' tb.args ∧ Below w'.heap.size w' w'') := fun a9 c9 w' hb hs => by
      rw [htb]
      exact apply_good _ _ _ _ (VR8.out _ hb) hs GR.out (by decide) (by decide) (by decide) EA (by omega) (by omega)
    obtain ⟨p0, p1⟩ := KP8.out _ (Below.refl _ _)
    clear hta htb E1 E2 EA ZA hsr
    go_wp2_with fail
    refine (AP1.out _ (Below.refl _ _)).mono ?_
    rintro e w9 ⟨a9, c9, rfl, hs9, hb9⟩
    have hbA : Below w9.heap.size w9 (w9.alloc (.cells #[.string ta.name, .slice a9 ta.args.length c9] 25)) := (Below.refl _ _).alloc (Nat.le_refl _) _
    have A10 := hide (Blk.new w9 #[.string ta.name, .slice a9 ta.args.length c9] 25)
    have S10 := hide (hs9.later hbA)
    have D10 := hide (hb9.trans (hbA.mono hb9.size))
    clear hbA hs9 hb9 p0 p1
    obtain ⟨p0, p1⟩ := KP8.out _ D10.out
    go_wp2_with fail
    generalize w9.alloc (.cells #[.string ta.name, .slice a9 ta.args.length c9] 25) = w10 at *
    generalize w9.heap.size = A at *
    refine (AP2.out _ D10.out).mono ?_
    rintro e w11 ⟨a11, c11, rfl, hs11, hb11⟩
    have hbA : Below w11.heap.size w11 (w11.alloc (.cells #[.string tb.name, .slice a11 tb.args.length c11] 25)) := (Below.refl _ _).alloc (Nat.le_refl _) _
    have B12 := hide (Blk.new w11 #[.string tb.name, .slice a11 tb.args.length c11] 25)
    have S12 := hide (hs11.later hbA)
    have hbb := hb11.trans (hbA.mono hb11.size)
    have S12a := hide (S10.out.later hbb)
    have D12 := hide (D10.out.trans (hbb.mono D10.out.size))
    have q0 := cell_later hbb (A10.out.cell 0)
    have q1 := cell_later hbb (A10.out.cell 1)
    clear hbA hs11 hb11 hbb p0 p1 S10
    go_wp2_with fail
    generalize w11.alloc (.cells #[.string tb.name, .slice a11 tb.args.length c11] 25) = w12 at *
    generalize w11.heap.size = B at *
    refine (AP3.out _ _ _ D12.out S12a.out).mono ?_
    rintro e w13 ⟨a13, c13, rfl, hs13, hb13⟩
    have hbA : Below w13.heap.size w13 (w13.alloc (.cells #[.string tb.name, .slice a13 tb.args.length c13] 25)) := (Below.refl _ _).alloc (Nat.le_refl _) _
    have C14 := hide (Blk.new w13 #[.string tb.name, .slice a13 tb.args.length c13] 25)
    have S14 := hide (hs13.later hbA)
    have hbb := hb13.trans (hbA.mono hb13.size)
    have S14b := hide (S12.out.later hbb)
    have D14 := hide (D12.out.trans (hbb.mono D12.out.size))
    clear q0 q1
    have q0 := cell_later hbb (B12.out.cell 0)
    have q1 := cell_later hbb (B12.out.cell 1)
    have c0 := C14.out.cell 0
    have c1 := C14.out.cell 1
    clear hbA hs13 hb13 hbb S12 S12a
    go_wp2_with fail
    generalize w13.alloc (.cells #[.string tb.name, .slice a13 tb.args.length c13] 25) = w14 at *
    generalize w13.heap.size = C at *
    refine (sameR_all tb tb _ _ _ _ _ ⟨_, _, rfl, S14b.out⟩ ⟨_, _, rfl, S14.out⟩).mono ?_
    rintro e w15 ⟨rfl, hb15⟩
    rw [sameB_refl]
    have D15 := hide (D14.out.trans (hb15.mono D14.out.size))
    clear hb15 q0 q1 c0 c1
    go_wp2_with fail
    refine (then_good _ _ _ (V78.out _ D15.out) (VQ8.out _ D15.out) GSR.out GQ.out (by decide) (by decide) (by decide) (by decide) (by decide) (by decide)).mono ?_
    rintro e w16 ⟨vx, x, rfl, hvx, hix, hb16⟩
    have D16 := hide (D15.out.trans (hb16.mono D15.out.size))
    have I3 := hide hix
    have VX := hide hvx
    clear hb16 hix hvx
    go_wp2_with fail
    refine (then_good _ _ _ (VS8.out _ D16.out) (V88.out _ D16.out) GS.out GRQ.out (by decide) (by decide) (by decide) (by decide) (by decide) (by decide)).mono ?_
    rintro e w17 ⟨vy, yl, rfl, hvy, hiy, hb17⟩
    have hxy : x = yl := then_assoc GS.out GR.out GQ.out I1.out I2.out I3.out hiy
    subst hxy
    have D17 := hide (D16.out.trans (hb17.mono D16.out.size))
    have VX17 := hide (VX.out.later hb17)
    have VY := hide hvy
    clear hb17 hiy hvy
    go_wp2_with fail
    refine (sameBinds_any x _ _ _ _ _ VX17.out VY.out).mono ?_
    rintro e w18 ⟨rfl, hb18⟩
    have D18 := hide (D17.out.trans (hb18.mono D17.out.size))
    clear hb18
    go_wp2_with fail
    refine (PU.out _).mono ?_
    rintro e w19 ⟨rfl, hb19⟩
    have BWF := hide (BW8.out.trans ((D18.out.trans (hb19.mono D18.out.size)).mono BW8.out.size))
    clear hb19
    go_wp2_with fail
    go_ret
    exact ⟨rfl, BWF.out⟩
#print axioms topCompose_any
end Go.Proofs.Ytpjdkdebjkpmmai

/- Terms and lists of numbers as they are read before the call. -/
namespace Go.Proofs.Ytpjdkdebjkpmmai
open Go.ChangeShapes Go.WideShapes Go.ChangeAt Go.RowKit
set_option linter.unusedSimpArgs false
set_option linter.unusedVariables false
set_option maxRecDepth 8000

theorem Try.cellsTerm : Try.prog.cellsOf 25 = 2 := by kernel_rfl
theorem Try.cellsStr : Try.prog.cellsOf 9 = 1 := by kernel_rfl
theorem Try.cellsSl : Try.prog.cellsOf 23 = 1 := by kernel_rfl
theorem Try.cellsInt : Try.prog.cellsOf 3 = 1 := by kernel_rfl

theorem cells2 {w : World} {a : Addr} {cs : List Value} (h : w.cells? 0 a 2 = some cs) : ∃ c0 c1, cs = [c0, c1] ∧ w.cell? a = some c0 ∧ w.cell? (a.add 1) = some c1 := by
  have e : (List.range 2) = [0, 1] := rfl
  simp only [World.cells?, Nat.zero_le, if_true, e] at h
  simp only [List.mapM_cons, List.mapM_nil, Option.bind_eq_bind, Option.bind_eq_some_iff, Option.pure_def] at h
  obtain ⟨c0, h0, r, ⟨c1, h1, r2, h2, h3⟩, h4⟩ := h
  simp only [Option.some.injEq] at h2 h3 h4
  subst h2; subst h3; subst h4
  exact ⟨c0, c1, rfl, by simpa [Addr.add] using h0, h1⟩

theorem cells1 {w : World} {a : Addr} {cs : List Value} (h : w.cells? 0 a 1 = some cs) : ∃ c0, cs = [c0] ∧ w.cell? a = some c0 := by
  have e : (List.range 1) = [0] := rfl
  simp only [World.cells?, Nat.zero_le, if_true, e] at h
  simp only [List.mapM_cons, List.mapM_nil, Option.bind_eq_bind, Option.bind_eq_some_iff, Option.pure_def] at h
  obtain ⟨c0, h0, r, h1, h2⟩ := h
  simp only [Option.some.injEq] at h1 h2
  subst h1; subst h2
  exact ⟨c0, rfl, by simpa [Addr.add] using h0⟩

theorem open_term {H : Type} {enc : TypeId × Value → H} {w : World} {sp : Nat → Bool} {held : Bool} : ∀ (fuel : Nat) (cs : List Value) (x : DataW H × List MemPlace), DataW.trod enc Try.prog w 0 sp held fuel 25 cs = some x →
    ∃ (t : Tm) (a : Option Addr) (c : Nat), cs = [.string t.name, .slice a t.args.length c] ∧ Sl w (fun _ => True) a t.args := by
  intro fuel
  induction fuel using Nat.strongRecOn with
  | ind fuel ih =>
    intro cs x h
    obtain ⟨xs, n, hfu, hx, hl, hxl, hf⟩ := DataW.trod_struct Try.underlying25 h
    have f0 := hf 0 _ rfl
    have f1 := hf 1 _ rfl
    rw [Try.cellsTerm] at hl
    match cs, hl with
    | [c0, c1], _ =>
      match xs, hxl with
      | [y0, y1], _ =>
        simp [Try.cellsStr, Try.cellsSl] at f0 f1
        obtain ⟨s, e0, _, hs⟩ := DataW.trod_string Try.underlying9 f0
        simp at e0
        subst e0
        rcases DataW.trod_slice Try.underlying23 f1 with ⟨e1, _⟩ | ⟨a, len, cap, elems, rest, n2, hn2, e1, _, hb, hlc, hcm, hel, helem, _⟩
        · simp at e1
          subst e1
          exact ⟨⟨s, []⟩, none, 0, rfl, by simp, Or.inl rfl⟩
        · simp at e1
          subst e1
          unfold maxLen at hcm
          rw [Try.cellsTerm] at helem
          have key : ∀ i, ∃ t : Tm, i < len → ∃ a' c', w.cell? (a.add (i * 2)) = some (.string t.name) ∧ w.cell? ((a.add (i * 2)).add 1) = some (.slice a' t.args.length c') ∧ Sl w (fun _ => True) a' t.args := by
            intro i
            by_cases hi : i < len
            · have h1 := helem i hi
              have hie : i < elems.length := by omega
              rw [List.getElem?_eq_getElem hie, Option.bind_eq_some_iff] at h1
              obtain ⟨cs', h2, h3⟩ := h1
              obtain ⟨d0, d1, rfl, g0, g1⟩ := cells2 h2
              obtain ⟨t, a', c', e3, hsl⟩ := ih n2 (by omega) _ _ h3
              simp at e3
              obtain ⟨rfl, rfl⟩ := e3
              exact ⟨t, fun _ => ⟨a', c', g0, g1, hsl⟩⟩
            · exact ⟨⟨s, []⟩, fun h => absurd h hi⟩
          obtain ⟨T, hT⟩ := Classical.skolem.1 key
          refine ⟨⟨s, (List.range len).map T⟩, some a, cap, by simp, by simp; omega, ?_⟩
          by_cases h0 : len = 0
          · subst h0; exact Or.inl rfl
          · right
            obtain ⟨b, o, sp⟩ := a
            obtain ⟨a0, c0, g0, _, _⟩ := hT 0 (by omega)
            have hsp : sp = none := by simpa [Addr.add] using World.cell?_spot g0
            subst hsp
            refine ⟨b, o, rfl, lies_mk _ _ _ fun i hi => ?_⟩
            simp at hi
            obtain ⟨a', c', g0, g1, hsl⟩ := hT i hi
            refine ⟨trivial, ?_, a', c', ?_, ?_⟩
            · simp only [List.getElem_map, List.getElem_range]
              by_cases h00 : i = 0
              · subst h00; simpa [Addr.add] using g0
              · have : i * 2 ≠ 0 := by omega
                simpa [Addr.add, this] using g0
            · simp only [List.getElem_map, List.getElem_range]
              by_cases h00 : i = 0
              · subst h00; simpa [Addr.add] using g1
              · have : i * 2 ≠ 0 := by omega
                simpa [Addr.add, this] using g1
            · simpa using hsl

theorem open_tv {H : Type} {enc : TypeId × Value → H} {w : World} {sp : Nat → Bool} {held : Bool} {r : Reach} {b0 : Nat} {v : Value} {d : DataW H} {p : List MemPlace} (hv : Value.okWide Try.prog w r b0 25 v) (h : DataW.Trod enc Try.prog w 0 sp held 25 v d p) : ∃ t, TV w (fun _ => True) v t := by
  obtain ⟨cs, rfl, hsz⟩ := okWide_struct Try.underlying25 hv
  obtain ⟨fuel, hf⟩ := h
  obtain ⟨t, a, c, e, hs⟩ := open_term fuel _ _ hf
  refine ⟨t, a, c, ?_, hs⟩
  simp [Value.cells] at e
  congr 1
  apply Array.ext'
  simpa using e

theorem open_pv {H : Type} {enc : TypeId × Value → H} {w : World} {sp : Nat → Bool} {held : Bool} {r : Reach} {b0 : Nat} {v : Value} {d : DataW H} {p : List MemPlace} (hv : Value.okWide Try.prog w r b0 22 v) (h : DataW.Trod enc Try.prog w 0 sp held 22 v d p) : ∃ zs, PV w (fun _ => True) v zs := by
  obtain ⟨a0, len0, cap0, rfl⟩ := okWide_slice Try.underlying22 hv
  obtain ⟨fuel, hf⟩ := h
  rcases DataW.trod_slice Try.underlying22 hf with ⟨e1, _⟩ | ⟨a, len, cap, elems, rest, n2, hn2, e1, _, hb, hlc, hcm, hel, helem, _⟩
  · simp [Value.cells] at e1
    obtain ⟨rfl, rfl, rfl⟩ := e1
    exact ⟨[], none, 0, rfl, by simp, Or.inl rfl⟩
  · simp [Value.cells] at e1
    obtain ⟨rfl, rfl, rfl⟩ := e1
    unfold maxLen at hcm
    rw [Try.cellsInt] at helem
    have key : ∀ i, ∃ z : Int, i < len0 → w.cell? (a.add i) = some (.int .i64 z) := by
      intro i
      by_cases hi : i < len0
      · have h1 := helem i hi
        have hie : i < elems.length := by omega
        rw [List.getElem?_eq_getElem hie, Option.bind_eq_some_iff, Nat.mul_one] at h1
        obtain ⟨cs', h2, h3⟩ := h1
        obtain ⟨d0, rfl, g0⟩ := cells1 h2
        obtain ⟨z, e3, _⟩ := DataW.trod_int Try.underlying3 h3
        simp at e3
        subst e3
        exact ⟨z, fun _ => g0⟩
      · exact ⟨0, fun h => absurd h hi⟩
    obtain ⟨Z, hZ⟩ := Classical.skolem.1 key
    refine ⟨(List.range len0).map Z, some a, cap0, by simp, by simp; omega, ?_⟩
    by_cases h0 : len0 = 0
    · subst h0; exact Or.inl rfl
    · right
      obtain ⟨b, o, sp⟩ := a
      have g0 := hZ 0 (by omega)
      have hsp : sp = none := by simpa [Addr.add] using World.cell?_spot g0
      subst hsp
      refine ⟨b, o, rfl, trivial, fun i hi => ?_⟩
      simp at hi
      have g1 := hZ i hi
      simp only [List.getElem_map, List.getElem_range]
      by_cases h00 : i = 0
      · subst h00; simpa [Addr.add] using g1
      · simpa [Addr.add, h00] using g1
#print axioms open_tv
#print axioms open_pv
end Go.Proofs.Ytpjdkdebjkpmmai

/- Lists of numbers as they are read before the call, with their bounds. -/
namespace Go.Proofs.Ytpjdkdebjkpmmai
open Go.ChangeShapes Go.WideShapes Go.ChangeAt Go.RowKit
set_option linter.unusedSimpArgs false
set_option linter.unusedVariables false
set_option maxRecDepth 8000

theorem rng_wf {n : Int} (h : (Lit.int .i64 n).wf = true) : Rng n := by
  have h1 : IntKind.i64.min = -9223372036854775808 := by decide
  have h2 : IntKind.i64.max = 9223372036854775807 := by decide
  simp only [Lit.wf, h1, h2, Bool.and_eq_true, decide_eq_true_eq] at h
  exact h

theorem open_int {H : Type} {enc : TypeId × Value → H} {w : World} {sp : Nat → Bool} {held : Bool} {r : Reach} {b0 : Nat} {v : Value} {d : DataW H} {p : List MemPlace} (hv : Value.okWide Try.prog w r b0 3 v) (h : DataW.Trod enc Try.prog w 0 sp held 3 v d p) : ∃ z, v = .int .i64 z ∧ Rng z := by
  obtain ⟨z, rfl⟩ := okWide_int Try.underlying3 hv
  obtain ⟨fuel, hf⟩ := h
  obtain ⟨z', e3, _, hwf⟩ := DataW.trod_int Try.underlying3 hf
  simp [Value.cells] at e3
  subst e3
  exact ⟨_, rfl, rng_wf hwf⟩

theorem open_pvr {H : Type} {enc : TypeId × Value → H} {w : World} {sp : Nat → Bool} {held : Bool} {r : Reach} {b0 : Nat} {v : Value} {d : DataW H} {p : List MemPlace} (hv : Value.okWide Try.prog w r b0 22 v) (h : DataW.Trod enc Try.prog w 0 sp held 22 v d p) : ∃ zs, PV w (fun _ => True) v zs ∧ ∀ z ∈ zs, Rng z := by
  obtain ⟨a0, len0, cap0, rfl⟩ := okWide_slice Try.underlying22 hv
  obtain ⟨fuel, hf⟩ := h
  rcases DataW.trod_slice Try.underlying22 hf with ⟨e1, _⟩ | ⟨a, len, cap, elems, rest, n2, hn2, e1, _, hb, hlc, hcm, hel, helem, _⟩
  · simp [Value.cells] at e1
    obtain ⟨rfl, rfl, rfl⟩ := e1
    exact ⟨[], ⟨none, 0, rfl, by simp, Or.inl rfl⟩, by simp⟩
  · simp [Value.cells] at e1
    obtain ⟨rfl, rfl, rfl⟩ := e1
    unfold maxLen at hcm
    rw [Try.cellsInt] at helem
    have key : ∀ i, ∃ z : Int, Rng z ∧ (i < len0 → w.cell? (a.add i) = some (.int .i64 z)) := by
      intro i
      by_cases hi : i < len0
      · have h1 := helem i hi
        have hie : i < elems.length := by omega
        rw [List.getElem?_eq_getElem hie, Option.bind_eq_some_iff, Nat.mul_one] at h1
        obtain ⟨cs', h2, h3⟩ := h1
        obtain ⟨d0, rfl, g0⟩ := cells1 h2
        obtain ⟨z, e3, _, hwf⟩ := DataW.trod_int Try.underlying3 h3
        simp at e3
        subst e3
        exact ⟨z, rng_wf hwf, fun _ => g0⟩
      · exact ⟨0, by unfold Rng; omega, fun h => absurd h hi⟩
    obtain ⟨Z, hZ⟩ := Classical.skolem.1 key
    refine ⟨(List.range len0).map Z, ⟨some a, cap0, by simp, by simp; omega, ?_⟩, fun z hz => by obtain ⟨i, _, rfl⟩ := List.mem_map.1 hz; exact (hZ i).1⟩
    by_cases h0 : len0 = 0
    · subst h0; exact Or.inl rfl
    · right
      obtain ⟨b, o, sp⟩ := a
      have g0 := (hZ 0).2 (by omega)
      have hsp : sp = none := by simpa [Addr.add] using World.cell?_spot g0
      subst hsp
      refine ⟨b, o, rfl, trivial, fun i hi => ?_⟩
      simp at hi
      have g1 := (hZ i).2 hi
      simp only [List.getElem_map, List.getElem_range]
      by_cases h00 : i = 0
      · subst h00; simpa [Addr.add] using g1
      · simpa [Addr.add, h00] using g1
#print axioms open_pvr
#print axioms open_int
end Go.Proofs.Ytpjdkdebjkpmmai
