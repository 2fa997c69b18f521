/- Walks: the first step of a lambda term, outermost, is handed over. -/
import Derived.Test.YtaifameeoipjjaaLn3
import Derived.Test.YtaifameeoipjjaaLn4
import Derived.Test.YtaifameeoipjjaaL11
namespace Go.Proofs.Ytaifameeoipjjaa
open Go.RowKit Go.Shelf
set_option linter.unusedSimpArgs false
set_option linter.unusedVariables false
set_option maxRecDepth 8000

/-- What comes of it: there is none, or the first was handed over. -/
def OuPost (n : Nat) (t : Lm) (S : Lm → Bool → World → Prop) (w : World) (e : Ending) (w' : World) : Prop :=
  (stepM [t] = false ∧ e = .returned (.bool true) ∧ Below w.heap.size w w') ∨ (stepM [t] = true ∧ e = .returned (.bool false) ∧ ∃ x ok, FsOk false n t x ok ∧ S x ok w')
def BlPost (n : Nat) (k xi : Int) (l : List Lm) (S : Lm → Bool → World → Prop) (w : World) (e : Ending) (w' : World) : Prop :=
  (stepM l = false ∧ e = .returned (.bool true) ∧ Below w.heap.size w w') ∨ (stepM l = true ∧ e = .returned (.bool false) ∧ ∃ i, ∃ h : i < l.length, stepM (l.take i) = false ∧ stepM [l[i]] = true ∧ ∃ q ok, FsOk false n l[i] q ok ∧ S ⟨k, xi, l.set i q⟩ ok w')
/-- The promise of outer at one term. -/
def OuAt (n : Nat) (s : Lm) : Prop := ∀ (y : Value) (P : Nat → Prop) (hi : Nat) (J : World → Prop) (S : Lm → Bool → World → Prop), (∀ b, hi ≤ b → P b) → StopTk y P J S → StayJ J → ∀ (v : Value) (w : World) (X : Nat → Prop), MV w X v s → (∀ b, X b → b < w.heap.size ∧ P b) → hi ≤ w.heap.size → J w →
    Calls Try.prog 33 #[v, y] w fun e w' => OuPost n s S w e w'
/-- The closure is such a one. -/
theorem clos_stop {y : Value} {P : Nat → Prop} {hi : Nat} {J : World → Prop} {S : Lm → Bool → World → Prop} (hP : ∀ b, hi ≤ b → P b) (hT : StopTk y P J S) (hJ : StayJ J) (k xi : Int) (l : List Lm) (i : Nat) (hil : i < l.length) (hlen : l.length ≤ 1000000) (a : Option Addr) (c T I Y N : Nat) (X : Nat → Prop) (hTh : hi ≤ T) (hNT : N ≤ T) (hX : ∀ b, X b → b < N ∧ P b) :
    StopTk (.func (.func 45) #[] #[.pointer (some ⟨T, 0, none⟩), .pointer (some ⟨I, 0, none⟩), .pointer (some ⟨Y, 0, none⟩)]) P (fun W => J W ∧ BeS ⟨k, xi, l⟩ a c T I Y i y X W) (fun x ok W => S ⟨k, xi, l.set i x⟩ ok W) :=
  Or.inl ⟨T, I, Y, rfl, fun W v x ok Z h1 h2 h3 => below1_any hP hT.at hJ k xi l i hil hlen a c T I Y X hTh W h1.1 h1.2 (fun b hb => ⟨by have := (hX b hb).1; have := h1.2.bt.lt; omega, (hX b hb).2⟩) v x ok Z h2 h3⟩
theorem clos_stay {y : Value} {J : World → Prop} (hJ : StayJ J) {k xi : Int} {l : List Lm} {a : Option Addr} {c T I Y i : Nat} {X : Nat → Prop} : StayJ (fun W => J W ∧ BeS ⟨k, xi, l⟩ a c T I Y i y X W) :=
  fun W W' h hb => ⟨hJ W W' h.1 hb, h.2.later hb⟩

set_option maxHeartbeats 4000000 in
theorem below_any {y : Value} {P : Nat → Prop} {hi : Nat} {J : World → Prop} {S : Lm → Bool → World → Prop} (hP : ∀ b, hi ≤ b → P b) (hT : StopTk y P J S) (hJ : StayJ J) (n : Nat) (k xi : Int) (l : List Lm) (hlen : l.length ≤ 1000000) (IH : ∀ s ∈ l, OuAt n s) (a : Option Addr) (c : Nat) (w : World) (X : Nat → Prop) (hs : SlM w X a l) (hX : ∀ b, X b → b < w.heap.size ∧ P b) (hhi : hi ≤ w.heap.size) (hjw : J w) :
    Calls Try.prog 40 #[.agg #[.int .i64 k, .int .i64 xi, .slice a l.length c], .func (.func 33) #[] #[], y] w fun e w' => BlPost n k xi l S w e w' := by
  obtain ⟨fn0, p0, q0, rfl⟩ : ∃ fn p q, y = .func fn p q := by
    rcases hT with ⟨_, _, _, h, _⟩ | ⟨_, h, _⟩
    · exact ⟨_, _, _, h⟩
    · exact ⟨_, _, _, h⟩
  have hmf : ∀ (fn : Fn) (first cap : Array Value) (w : World), (Instr.makeFunc fn first cap).run Try.prog w = .ok (.func fn first cap) w := fun _ _ _ _ => rfl
  obtain ⟨W0, hW0⟩ : ∃ W0, W0 = ((w.alloc (.cells #[.int .i64 k, .int .i64 xi, .slice a l.length c] 24)).alloc (.cells #[.func fn0 p0 q0] 51)) := ⟨_, rfl⟩
  have HB0 : Hid (Below w.heap.size w W0) := by unfold Hid; rw [hW0]; exact below2M _ _
  have HBT : Hid (Blk W0 w.heap.size #[.int .i64 k, .int .i64 xi, .slice a l.length c] 24) := by unfold Hid; rw [hW0]; exact (Blk.new w _ _).alloc _
  have HBY : Hid (Blk W0 (w.heap.size + 1) #[.func fn0 p0 q0] 51) := by
    have h := Blk.new (w.alloc (.cells #[.int .i64 k, .int .i64 xi, .slice a l.length c] 24)) #[.func fn0 p0 q0] 51
    unfold Hid
    rw [hW0]
    simpa using h
  have HZ0 : Hid (W0.heap.size = w.heap.size + 2) := by unfold Hid; rw [hW0]; simp
  have HW0 := hide hW0
  clear hW0
  have HIH := hide IH
  have HJ := hide hJ
  have HT := hide hT
  have HP := hide hP
  have HS := hide hs
  have HX := hide hX
  have HJW := hide hjw
  have hl9 := hs.1
  clear IH hJ hT hs hX hjw hP
  go_enter Try.func40, Try.ntmps40
  go_wp2_with fail
  rw [← HW0.out]
  clear HW0
  go_loopw [13] (fun i wr => ∃ q : Nat, q ≤ l.length ∧ i = .int .i64 (q : Int) ∧ stepM (l.take q) = false ∧ Below W0.heap.size W0 wr) (fun i wr => l.length - (intOf i).toNat)
  case atStart => exact ⟨0, Nat.zero_le _, rfl, by simp [stepM], Below.refl _ _⟩
  case round =>
    obtain ⟨q, hq, rfl, hst, hbr⟩ := hrel
    have HBR := hide (HB0.out.trans (hbr.mono (by have := HZ0.out; omega)))
    have HST := hide hst
    by_cases hlt : q < l.length
    · have BT := HBT.out.below hbr HBT.out.lt
      have BY := HBY.out.below hbr HBY.out.lt
      obtain ⟨b, o, a', c', hae, d0, d1, d2, hmv⟩ := HS.out.get HBR.out (fun b hb _ => (HX.out b hb).1) q hlt
      subst hae
      have hlti : (q : Int) < (l.length : Int) := by omega
      have hszr : w.heap.size + 2 ≤ wr.heap.size := by have := hbr.size; have := HZ0.out; omega
      have hbX : b < w.heap.size := by
        obtain ⟨_, h1⟩ := HS.out
        rcases h1 with h1 | ⟨b', o', e', h1⟩
        · rw [h1] at hlt; simp at hlt
        · cases e'; exact (HX.out _ (liesM_get _ _ _ h1 q hlt).1).1
      have HMV := hide hmv
      have HCH : Hid (stepM (l.take (q + 1)) = (stepM (l.take q) || stepM [l[q]])) := stepM_take l q hlt
      have HBT2 := hide BT
      have HBY2 := hide BY
      have hIH := HIH.out l[q] (List.getElem_mem hlt) (.func (.func 45) #[] #[.pointer (some ⟨w.heap.size, 0, none⟩), .pointer (some ⟨wr.heap.size, 0, none⟩), .pointer (some ⟨w.heap.size + 1, 0, none⟩)]) P hi (fun W => J W ∧ BeS ⟨k, xi, l⟩ (some ⟨b, o, none⟩) c w.heap.size wr.heap.size (w.heap.size + 1) q (.func fn0 p0 q0) X W) (fun x ok W => S ⟨k, xi, l.set q x⟩ ok W) HP.out (clos_stop HP.out HT.out HJ.out k xi l q hlt hlen _ c _ _ _ w.heap.size X hhi (Nat.le_refl _) HX.out) (clos_stay HJ.out) (.agg #[.int .i64 l[q].kind, .int .i64 l[q].idx, .slice a' l[q].subs.length c']) ((wr.alloc (.cells #[.int .i64 (q : Int)] 3)).alloc (.cells #[.int .i64 l[q].kind, .int .i64 l[q].idx, .slice a' l[q].subs.length c'] 24)) X (HMV.out.later (below2M _ _)) (fun b hb => ⟨by have := (HX.out b hb).1; simp; omega, (HX.out b hb).2⟩) (by simp; omega) (by
        have hbb : Below w.heap.size w ((wr.alloc (.cells #[.int .i64 (q : Int)] 3)).alloc (.cells #[.int .i64 l[q].kind, .int .i64 l[q].idx, .slice a' l[q].subs.length c'] 24)) := HBR.out.trans ((below2M _ _).mono HBR.out.size)
        exact ⟨HJ.out _ _ HJW.out hbb, (HBT2.out.alloc _).alloc _, (Blk.new wr _ _).alloc _, (HBY2.out.alloc _).alloc _, HS.out.later hbb⟩)
      have HCALL := hide hIH
      have HW2 : Hid (Below wr.heap.size wr ((wr.alloc (.cells #[.int .i64 (q : Int)] 3)).alloc (.cells #[.int .i64 l[q].kind, .int .i64 l[q].idx, .slice a' l[q].subs.length c'] 24))) := below2M _ _
      have HBRW := hide hbr
      clear hIH BT BY hmv hst hbr
      go_wp2_with fail
      refine HCALL.out.mono ?_
      rintro e w5 (⟨h1, rfl, hb5⟩ | ⟨h1, rfl, x, ok, hf, hS5⟩)
      · have HN : Hid (stepM (l.take (q + 1)) = false) := by unfold Hid; rw [HCH.out, HST.out, h1]; rfl
        have HB5 := hide (HBRW.out.trans ((HW2.out.trans (hb5.mono (by simp; omega))).mono HBRW.out.size))
        clear h1 hb5
        go_wp2_with fail
        go_roundw
        case rel => exact ⟨q + 1, by omega, by go_num, HN.out, HB5.out⟩
        case measure => simp [intOf]; omega
      · have HF := hide (And.intro h1 (And.intro hf hS5))
        clear h1 hf hS5
        go_wp2_with fail
        go_ret
        exact Or.inr ⟨stepM_of hlt HF.out.1, rfl, q, hlt, HST.out, HF.out.1, x, ok, HF.out.2.1, HF.out.2.2⟩
    · have htk : l.take q = l := List.take_of_length_le (by omega)
      rw [htk] at HST
      clear hst hbr
      go_wp2_with fail
      go_ret
      exact Or.inl ⟨HST.out, rfl, HBR.out⟩

set_option maxHeartbeats 2000000 in
theorem outer_at (n : Nat) : ∀ (t : Lm) (u : Int), sizeM [t] ≤ n → GdM u t → OuAt n t := by
  induction n with
  | zero => intro t u h; have := sizeM_posL t; omega
  | succ n ih =>
    intro t u hn hg y P hi J S hP hT hJ v w X hv hX hhi hjw
    have hgd := hide hg
    have HH := hide (here_any hP hT hJ t u hg v)
    obtain ⟨k, xi, l⟩ := t
    obtain ⟨a, c, rfl, hs⟩ := hv
    dsimp only at hs HH ⊢
    have hsz : sizeM [⟨k, xi, l⟩] = 1 + sizeM l := sizeM_one k xi l
    have hbA : Below w.heap.size w (w.alloc (.cells #[.int .i64 k, .int .i64 xi, .slice a l.length c] 24)) := (Below.refl _ _).alloc (Nat.le_refl _) _
    have HSL := hide hs
    have HX := hide hX
    have HT := hide hT
    have HP := hide hP
    have HJ := hide hJ
    have HJW := hide hjw
    have HBA := hide hbA
    have HBK : Hid (Blk (w.alloc (.cells #[.int .i64 k, .int .i64 xi, .slice a l.length c] 24)) w.heap.size #[.int .i64 k, .int .i64 xi, .slice a l.length c] 24) := Blk.new _ _ _
    have HLEN : Hid (l.length ≤ 1000000) := by have := sizeM_len l; have := hg.2.2.2; unfold Hid; omega
    have HIH : Hid (∀ s ∈ l, OuAt n s) := fun s hsl => by
      obtain ⟨i, hi', rfl⟩ := List.mem_iff_getElem.1 hsl
      have := sizeM_get l i hi'
      exact ih _ (deepK u k) (by omega) (hgd.out.subs hsl)
    have HR : Hid (hereT false ⟨k, xi, l⟩ = rdxT ⟨k, xi, l⟩) := by unfold Hid hereT; simp
    clear ih hs hX hT hJ hjw hbA hg hsz hn hP
    go_enter Try.func33, Try.ntmps33
    go_wp2_with fail
    refine (HH.out _ X ⟨a, c, rfl, HSL.out.later HBA.out⟩ (fun b hb => ⟨by have := (HX.out b hb).1; simp; omega, (HX.out b hb).2⟩) (by simp; omega) (HJ.out _ _ HJW.out HBA.out)).mono ?_
    rintro e w1 (⟨h1, rfl, hb1⟩ | ⟨h1, rfl, x, ok, h2, h3, hS⟩)
    · have HB1 := hide (HBA.out.trans (hb1.mono (by simp)))
      have hlt1 : w.heap.size < w1.heap.size := by have := hb1.size; simp at this; omega
      have K1 := HBK.out.below hb1 (by simp)
      have c0 : w1.cell? ⟨w.heap.size, 0, none⟩ = some (.int .i64 k) := K1.cell 0
      have c1 : w1.cell? ⟨w.heap.size, 1, none⟩ = some (.int .i64 xi) := K1.cell 1
      have c2 : w1.cell? ⟨w.heap.size, 2, none⟩ = some (.slice a l.length c) := K1.cell 2
      have H1 := hide h1
      clear hb1 K1 h1
      go_wp2_with fail
      refine (below_any HP.out HT.out HJ.out n k xi l HLEN.out HIH.out a c w1 X (HSL.out.later HB1.out) (fun b hb => ⟨by have := (HX.out b hb).1; omega, (HX.out b hb).2⟩) (by omega) (HJ.out _ _ HJW.out HB1.out)).mono ?_
      rintro e w2 (⟨h4, rfl, hb2⟩ | ⟨h4, rfl, i, hi', h5, h6, q, ok, h7, h8⟩)
      · have HN : Hid (stepM [⟨k, xi, l⟩] = false) := by unfold Hid; rw [stepM_one, H1.out, h4]; rfl
        have HB2 := hide (HB1.out.trans (hb2.mono (by omega)))
        clear h4 hb2
        go_wp2_with fail
        go_ret
        exact Or.inl ⟨HN.out, rfl, HB2.out⟩
      · have HN : Hid (stepM [⟨k, xi, l⟩] = true) := by unfold Hid; rw [stepM_one, h4]; simp
        have HF := hide (FsOk.up (k := k) (x := xi) hi' (by rw [HR.out]; exact H1.out) h5 h6 h7)
        have H8 := hide h8
        clear h4 h5 h6 h7 h8
        go_wp2_with fail
        go_ret
        exact Or.inr ⟨HN.out, rfl, _, ok, HF.out, H8.out⟩
    · have HN : Hid (stepM [⟨k, xi, l⟩] = true) := by unfold Hid; rw [stepM_one, h1]; rfl
      have HF := hide (FsOk.at (inn := false) (n := n) (t := ⟨k, xi, l⟩) (by rw [HR.out]; exact h1) h2 h3)
      have H8 := hide hS
      clear h1 h2 h3 hS
      go_wp2_with fail
      go_ret
      exact Or.inr ⟨HN.out, rfl, _, ok, HF.out, H8.out⟩
end Go.Proofs.Ytaifameeoipjjaa
