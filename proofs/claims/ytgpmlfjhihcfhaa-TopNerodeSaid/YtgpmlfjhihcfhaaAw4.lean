/- Plain: states counted from the other end, one more ahead of them: the same terms are accepted, by as many kinds. -/
import Derived.Test.YtgpmlfjhihcfhaaZKTopNerodeOwn
namespace Go.Proofs.Ytgpmlfjhihcfhaa
open Go.RowKit
set_option linter.unusedSimpArgs false
set_option linter.unusedVariables false
set_option maxRecDepth 8000

def rvM (n : Int) (m : Mv) : Mv := ⟨m.name, m.frm.map (n - ·), n - m.to⟩
def rvA (n : Int) (A : Au) : Au := ⟨n + 1, A.mv.map (rvM n), A.la.map (n - ·)⟩
theorem rv_go {n : Int} {bs cs : List (List Bool)} {f : List Int} (he : bs.length = cs.length) (hf : ∀ z ∈ f, 0 ≤ z ∧ z < n) (h : ∀ (i : Nat) (h1 : i < bs.length) (h2 : i < cs.length) (s : Int), 0 ≤ s ∧ s < n → bitAt bs[i] (n - s) = bitAt cs[i] s) : goB bs (f.map (n - ·)) = goB cs f := by
  rw [Bool.eq_iff_iff, goB_all, goB_all]
  constructor
  · intro g i h1 h2
    have h3 : i < bs.length := by omega
    have g1 := g i h3 (by simpa using h2)
    rw [List.getElem_map, h i h3 h1 _ (hf _ (List.getElem_mem h2))] at g1
    exact g1
  · intro g i h1 h2
    have h2' : i < f.length := by simpa using h2
    have h3 : i < cs.length := by omega
    have g1 := g i h3 h2'
    rw [List.getElem_map, h i h1 h3 _ (hf _ (List.getElem_mem h2'))]
    exact g1
theorem rv_bit {ms : List Mv} {n : Nat} (hms : ∀ m ∈ ms, OkMv (n : Int) m) (t : Tm) : ∀ s : Int, 0 ≤ s ∧ s < (n : Int) → bitAt (endX (ms.map (rvM n)) (n + 1) t) ((n : Int) - s) = bitAt (endX ms n t) s := by
  induction t using Tm.ind with
  | h nm l ih =>
    intro s hs
    obtain ⟨k, rfl⟩ : ∃ k : Nat, s = (k : Int) := ⟨s.toNat, by omega⟩
    have e : (n : Int) - (k : Int) = ((n - k : Nat) : Int) := by omega
    rw [e]
    show bitAt (edgT (ms.map (rvM n)) (n + 1) nm (endsL (ms.map (rvM n)) (n + 1) l)) ((n - k : Nat) : Int) = bitAt (edgT ms n nm (endsL ms n l)) (k : Int)
    rw [bit_edg (by omega), bit_edg (by omega), Bool.eq_iff_iff, endB_iff, endB_iff]
    have key : ∀ m ∈ ms, goB (endsL (ms.map (rvM n)) (n + 1) l) (m.frm.map ((n : Int) - ·)) = goB (endsL ms n l) m.frm := fun m hm =>
      rv_go (by rw [endsL_len, endsL_len]) (hms m hm).frm fun i h1 h2 s hs => by
        have hi : i < l.length := by rw [endsL_len] at h1; exact h1
        rw [endsL_at _ _ l i hi, endsL_at _ _ l i hi]
        exact ih l[i] (List.getElem_mem hi) s hs
    constructor
    · rintro ⟨m', hm', h1, h2⟩
      obtain ⟨m, hm, rfl⟩ := List.mem_map.1 hm'
      obtain ⟨g1, g2, g3⟩ := mvB_iff.1 h1
      have h2' : (n : Int) - m.to = ((n - k : Nat) : Int) := h2
      refine ⟨m, hm, mvB_iff.2 ⟨g1, ?_, ?_⟩, by omega⟩
      · rw [endsL_len] at g2 ⊢
        simpa [rvM] using g2
      · rw [← key m hm]; exact g3
    · rintro ⟨m, hm, h1, h2⟩
      obtain ⟨g1, g2, g3⟩ := mvB_iff.1 h1
      refine ⟨rvM n m, List.mem_map.2 ⟨m, hm, rfl⟩, mvB_iff.2 ⟨g1, ?_, ?_⟩, by show (n : Int) - m.to = _; omega⟩
      · rw [endsL_len] at g2 ⊢
        simpa [rvM] using g2
      · show goB _ (m.frm.map ((n : Int) - ·)) = true
        rw [key m hm]; exact g3
theorem ok_rv {A : Au} (hA : OkAu 8 40 A) {n : Nat} (hn : A.st = (n : Int)) (h8 : n < 8) : OkAu 8 40 (rvA n A) := by
  refine ⟨by show (0 : Int) ≤ (n : Int) + 1; omega, by show (n : Int) + 1 ≤ 8; omega, by show (A.mv.map (rvM n)).length ≤ 40; rw [List.length_map]; exact hA.len, fun m hm => ?_, fun s hs => ?_⟩
  · obtain ⟨m', hm', rfl⟩ := List.mem_map.1 (show m ∈ A.mv.map (rvM n) from hm)
    have o := hA.mv m' hm'
    have o1 := o.to
    refine ⟨o.nm, by show (m'.frm.map ((n : Int) - ·)).length ≤ 4; rw [List.length_map]; exact o.len, fun s hs => ?_, ⟨by show (0 : Int) ≤ (n : Int) - m'.to; omega, by show (n : Int) - m'.to < (n : Int) + 1; omega⟩⟩
    obtain ⟨z, hz, rfl⟩ := List.mem_map.1 (show s ∈ m'.frm.map ((n : Int) - ·) from hs)
    have := o.frm z hz
    show (0 : Int) ≤ (n : Int) - z ∧ (n : Int) - z < (n : Int) + 1
    omega
  · obtain ⟨z, hz, rfl⟩ := List.mem_map.1 (show s ∈ A.la.map ((n : Int) - ·) from hs)
    have := hA.la z hz
    show (0 : Int) ≤ (n : Int) - z ∧ (n : Int) - z < (n : Int) + 1
    omega
theorem acc_rv {A : Au} (hA : OkAu 8 40 A) {n : Nat} (hn : A.st = (n : Int)) (t : Tm) : accB (rvA n A) t = accB A t := by
  have hms : ∀ m ∈ A.mv, OkMv (n : Int) m := fun m hm => by rw [← hn]; exact hA.mv m hm
  have e1 : endT (rvA n A) t = endX (A.mv.map (rvM n)) (n + 1) t := by
    have : ((n : Int) + 1).toNat = n + 1 := by omega
    unfold endT endX
    show edgT (A.mv.map (rvM n)) ((n : Int) + 1).toNat _ _ = _
    rw [show ((rvA n A).st).toNat = n + 1 from this, this]
    rfl
  have e2 : endT A t = endX A.mv n t := by
    unfold endT endX
    rw [hn, Int.toNat_natCast]
  unfold accB lasB
  rw [e1, e2, Bool.eq_iff_iff, List.any_eq_true, List.any_eq_true]
  constructor
  · rintro ⟨z, hz, hb⟩
    obtain ⟨s, hs, rfl⟩ := List.mem_map.1 (show z ∈ A.la.map ((n : Int) - ·) from hz)
    have := hA.la s hs
    rw [rv_bit hms t s (by omega)] at hb
    exact ⟨s, hs, hb⟩
  · rintro ⟨s, hs, hb⟩
    have := hA.la s hs
    exact ⟨(n : Int) - s, List.mem_map.2 ⟨s, hs, rfl⟩, by rw [rv_bit hms t s (by omega)]; exact hb⟩
theorem mvsIn_of {A : Au} (hA : OkAu 8 40 A) {n : Nat} (hn : A.st = (n : Int)) : MvsIn n A.mv := fun m hm => by
  have o := hA.mv m hm
  rw [hn] at o
  exact ⟨o.to, fun z hz => (o.frm z hz).1⟩
theorem inL_acc {A : Au} (hA : OkAu 8 40 A) {n : Nat} (hn : A.st = (n : Int)) {x : Nat} {t : Tm} (h : SetIs x (endX A.mv n t)) : inL (setN A.la) x = accB A t := by
  have e2 : endT A t = endX A.mv n t := by
    unfold endT endX
    rw [hn, Int.toNat_natCast]
  unfold inL accB
  rw [e2, Bool.eq_iff_iff, decide_eq_true_eq]
  exact left_bit hA.la h fun s hs => rfl
/-- Automata that accept the same, by the same symbols, have as many kinds. -/
theorem nerode {A B : Au} (hA : OkAu 8 40 A) (hB : OkAu 8 40 B) {n k : Nat} (hn : A.st = (n : Int)) (hk : B.st = (k : Int)) (hsy : ∀ m ∈ A.mv, ∃ m' ∈ B.mv, m'.name = m.name ∧ m'.frm.length = m.frm.length) (hsy2 : ∀ m ∈ B.mv, ∃ m' ∈ A.mv, m'.name = m.name ∧ m'.frm.length = m.frm.length) (hac : ∀ t, accB A t = accB B t) {all bll : List Nat} (ha : EndsOk A.mv n all) (hb : EndsOk B.mv k bll) :
    cntK (alkS A.mv (setN A.la) all) all = cntK (alkS B.mv (setN B.la) bll) bll := by
  have h1 := hA.st
  have h2 := hB.st
  exact kinds_same (by omega) (by omega) (mvsIn_of hA hn) (mvsIn_of hB hk) ha hb hsy hsy2 fun x y ⟨t, h3, h4⟩ => by rw [inL_acc hA hn h3, inL_acc hB hk h4, hac]
theorem nerode_rv {A : Au} (hA : OkAu 8 40 A) {n : Nat} (hn : A.st = (n : Int)) (h8 : n < 8) {all bll : List Nat} (ha : EndsOk A.mv n all) (hb : EndsOk (rvA n A).mv (n + 1) bll) :
    cntK (alkS A.mv (setN A.la) all) all = cntK (alkS (rvA n A).mv (setN (rvA n A).la) bll) bll :=
  nerode hA (ok_rv hA hn h8) hn (by show (n : Int) + 1 = ((n + 1 : Nat) : Int); omega) (fun m hm => ⟨rvM n m, List.mem_map.2 ⟨m, hm, rfl⟩, rfl, by simp [rvM]⟩) (fun m hm => by
    obtain ⟨m', hm', rfl⟩ := List.mem_map.1 (show m ∈ A.mv.map (rvM n) from hm)
    exact ⟨m', hm', rfl, by simp [rvM]⟩) (fun t => (acc_rv hA hn t).symm) ha hb
end Go.Proofs.Ytgpmlfjhihcfhaa
