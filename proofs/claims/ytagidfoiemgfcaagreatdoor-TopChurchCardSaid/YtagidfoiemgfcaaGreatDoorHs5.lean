/- Walks: all the steps of a lambda term are handed over, knot by knot. -/
import Derived.Test.YtagidfoiemgfcaaGreatDoorHs3
import Derived.Test.YtagidfoiemgfcaaGreatDoorHs4
import Derived.Test.YtagidfoiemgfcaaGreatDoorZCTopChurchOwn
namespace Go.Proofs.YtagidfoiemgfcaaGreatDoor
open Go.RowKit Go.Shelf
set_option linter.unusedSimpArgs false
set_option linter.unusedVariables false
set_option maxRecDepth 8000

/-- The promise of outer at one term, to one who goes on. -/
def OgAt (n : Nat) (s : Lm) : Prop := ∀ (y : Value) (J : Tk Hnd) (K : Nat → Prop) (all : List Hnd) (NN : Nat), GoTk y J all NN → TkOk J K → (∀ p ∈ hndT n s, p ∈ all) → ∀ (v : Value) (w : World) (X f : Nat → Prop) (pre : List Hnd), pre.length + (hndT n s).length ≤ NN → MV w X v s → (∀ b, X b → K b) → J pre true f w →
    Calls Tryz.prog 30 #[v, y] w fun e w' => HgPost J (hndT n s) pre f w e w'
/-- The closure is such a one. -/
theorem closG {y : Value} {J : Tk Hnd} {K : Nat → Prop} {all : List Hnd} {NN : Nat} (hT : GoTk y J all NN) (hJ : TkOk J K) (pre0 : List Hnd) (n : Nat) (k xi : Int) (l : List Lm) (i : Nat) (hil : i < l.length) (hlen : l.length ≤ 1000000) (hall : ∀ p ∈ hndR (hndT n) k xi l l.length, p ∈ all) (a : Option Addr) (c T I Y : Nat) (X : Nat → Prop) (hXK : ∀ b, X b → K b) (hNN : pre0.length + (hndT n l[i]).length ≤ NN) :
    GoTk (.func (.func 61) #[] #[.pointer (some ⟨T, 0, none⟩), .pointer (some ⟨I, 0, none⟩), .pointer (some ⟨Y, 0, none⟩)]) (JC J pre0 k xi l a c T I Y i y X) (hndT n l[i]) (hndT n l[i]).length :=
  Or.inl ⟨T, I, Y, rfl, fun pre p v Z f W h1 h1' h2 h3 h4 => below1G_any hT hJ pre0 pre k xi l i hil hlen a c T I Y X hXK p.1 p.2.1 p.2.2 (hall _ (hndR_sub hil h1)) (by omega) v Z f W h2 h3 h4⟩

set_option maxHeartbeats 4000000 in
theorem belowG_any {y : Value} {J : Tk Hnd} {K : Nat → Prop} {all : List Hnd} {NN : Nat} (hT : GoTk y J all NN) (hJ : TkOk J K) (n : Nat) (k xi : Int) (l : List Lm) (hlen : l.length ≤ 1000000) (IH : ∀ s ∈ l, OgAt n s) (hall : ∀ p ∈ hndR (hndT n) k xi l l.length, p ∈ all) (a : Option Addr) (c : Nat) (w : World) (X f : Nat → Prop) (pre : List Hnd) (hNN : pre.length + (hndR (hndT n) k xi l l.length).length ≤ NN) (hs : SlM w X a l) (hXK : ∀ b, X b → K b) (hjw : J pre true f w) :
    Calls Tryz.prog 47 #[.agg #[.int .i64 k, .int .i64 xi, .slice a l.length c], .func (.func 30) #[] #[], y] w fun e w' => HgPost J (hndR (hndT n) k xi l l.length) pre f w e w' := by
  obtain ⟨fn0, p0, q0, rfl⟩ := hT.form
  have hmf : ∀ (fn : Fn) (first cap : Array Value) (w : World), (Instr.makeFunc fn first cap).run Tryz.prog w = .ok (.func fn first cap) w := fun _ _ _ _ => rfl
  obtain ⟨W0, hW0⟩ : ∃ W0, W0 = ((w.alloc (.cells #[.int .i64 k, .int .i64 xi, .slice a l.length c] 26)).alloc (.cells #[.func fn0 p0 q0] 56)) := ⟨_, rfl⟩
  have HB0 : Hid (Below w.heap.size w W0) := by unfold Hid; rw [hW0]; exact below2M _ _
  have HBT : Hid (Blk W0 w.heap.size #[.int .i64 k, .int .i64 xi, .slice a l.length c] 26) := by unfold Hid; rw [hW0]; exact (Blk.new w _ _).alloc _
  have HBY : Hid (Blk W0 (w.heap.size + 1) #[.func fn0 p0 q0] 56) := by
    have h := Blk.new (w.alloc (.cells #[.int .i64 k, .int .i64 xi, .slice a l.length c] 26)) #[.func fn0 p0 q0] 56
    unfold Hid
    rw [hW0]
    simpa using h
  have HZ0 : Hid (W0.heap.size = w.heap.size + 2) := by unfold Hid; rw [hW0]; simp
  have HFI : Hid (∀ b, f b → b < w.heap.size) := fun b hb => hJ.inside hjw b (Or.inl hb)
  have HX : Hid (∀ b, X b → b < w.heap.size ∧ ¬ f b) := fun b hb => ⟨hJ.inside hjw b (Or.inr (hXK b hb)), hJ.apart hjw b (hXK b hb)⟩
  have HW0 := hide hW0
  clear hW0
  have HIH := hide IH
  have HJ := hide hJ
  have HT := hide hT
  have HS := hide hs
  have HXK := hide hXK
  have HALL := hide hall
  have HJW := hide hjw
  have HNN := hide hNN
  clear hNN
  have hl9 := hs.1
  clear IH hJ hT hs hXK hjw hall
  go_enter Tryz.func47, Tryz.ntmps47
  go_wp2_with fail
  rw [← HW0.out]
  clear HW0
  go_loopw [13] (fun i wr => ∃ q : Nat, q ≤ l.length ∧ i = .int .i64 (q : Int) ∧ Went J (hndR (hndT n) k xi l q) pre f (fun _ => False) W0 true wr) (fun i wr => l.length - (intOf i).toNat)
  case atStart => exact ⟨0, Nat.zero_le _, rfl, Went.nil (HJ.out.later HJW.out HB0.out)⟩
  case round =>
    obtain ⟨q, hq, rfl, hwent⟩ := hrel
    have HWN := hide hwent
    obtain ⟨f1, hj1, hex, hf1⟩ := hwent.end_true
    have HJ1 := hide hj1
    have HEX : Hid (ExQ f W0 wr) := hex.mono fun b hb _ => hb.elim id False.elim
    have HF1 := hide hf1
    have hszr : w.heap.size + 2 ≤ wr.heap.size := by have := hex.size; have := HZ0.out; omega
    clear hwent hj1 hex hf1
    by_cases hlt : q < l.length
    · have BT := HBT.out.exq HEX.out (fun h => by have := HFI.out _ h; omega)
      have BY := HBY.out.exq HEX.out (fun h => by have := HFI.out _ h; omega)
      have HSR : Hid (SlM wr X a l) := (HS.out.later HB0.out).exq HEX.out fun b hb => (HX.out b hb).2
      obtain ⟨b, o, a', c', hae, d0, d1, d2, hmv⟩ := HSR.out.get (Below.refl wr.heap.size wr) (fun b hb _ => by have := (HX.out b hb).1; omega) q hlt
      subst hae
      have hlti : (q : Int) < (l.length : Int) := by omega
      have hbX : b < w.heap.size := by
        obtain ⟨_, h1⟩ := HSR.out
        rcases h1 with h1 | ⟨b', o', e', h1⟩
        · rw [h1] at hlt; simp at hlt
        · cases e'; exact (HX.out _ (liesM_get _ _ _ h1 q hlt).1).1
      have HMV := hide hmv
      have HBT2 := hide BT
      have HBY2 := hide BY
      have HN1 : Hid (¬ f1 w.heap.size ∧ ¬ f1 (w.heap.size + 1) ∧ ¬ f1 wr.heap.size) := by
        refine ⟨fun h => ?_, fun h => ?_, fun h => ?_⟩
        · rcases HF1.out _ h with h | h
          · have := HFI.out _ h; omega
          · have := HZ0.out; omega
        · rcases HF1.out _ h with h | h
          · have := HFI.out _ h; omega
          · have := HZ0.out; omega
        · have := HJ.out.inside HJ1.out _ (Or.inl h); omega
      have HNQ : Hid ((pre ++ hndR (hndT n) k xi l q).length + (hndT n l[q]).length ≤ NN) := by
        obtain ⟨rest, hre⟩ := hndR_pre (hndT n) k xi l (q + 1) l.length (by omega)
        have h1 := HNN.out
        rw [hre, hndR_succ (hndT n) k xi l q hlt] at h1
        unfold Hid
        simp only [List.length_append, List.length_map] at h1 ⊢
        omega
      have hIH := HIH.out l[q] (List.getElem_mem hlt) (.func (.func 61) #[] #[.pointer (some ⟨w.heap.size, 0, none⟩), .pointer (some ⟨wr.heap.size, 0, none⟩), .pointer (some ⟨w.heap.size + 1, 0, none⟩)]) (JC J (pre ++ hndR (hndT n) k xi l q) k xi l (some ⟨b, o, none⟩) c w.heap.size wr.heap.size (w.heap.size + 1) q (.func fn0 p0 q0) X) (KC K w.heap.size wr.heap.size (w.heap.size + 1)) (hndT n l[q]) (hndT n l[q]).length (closG HT.out HJ.out _ n k xi l q hlt hlen HALL.out _ c _ _ _ X HXK.out HNQ.out) (JC.ok HJ.out HXK.out) (fun _ h => h) (.agg #[.int .i64 l[q].kind, .int .i64 l[q].idx, .slice a' l[q].subs.length c']) ((wr.alloc (.cells #[.int .i64 (q : Int)] 3)).alloc (.cells #[.int .i64 l[q].kind, .int .i64 l[q].idx, .slice a' l[q].subs.length c'] 26)) X f1 [] (by simp) (HMV.out.later (below2M _ _)) (fun b hb => Or.inl (HXK.out b hb)) (by
        refine ⟨by simpa using HJ.out.later HJ1.out (below2M _ _), ⟨(HBT2.out.alloc _).alloc _, (Blk.new wr _ _).alloc _, (HBY2.out.alloc _).alloc _, HSR.out.later (below2M _ _)⟩, HN1.out.1, HN1.out.2.2, HN1.out.2.1⟩)
      have HCALL := hide hIH
      have HW2 : Hid (Below wr.heap.size wr ((wr.alloc (.cells #[.int .i64 (q : Int)] 3)).alloc (.cells #[.int .i64 l[q].kind, .int .i64 l[q].idx, .slice a' l[q].subs.length c'] 26))) := below2M _ _
      have HSUC : Hid (hndR (hndT n) k xi l (q + 1) = hndR (hndT n) k xi l q ++ (hndT n l[q]).map (wrpT k xi l q)) := hndR_succ _ _ _ _ _ hlt
      clear hIH BT BY hmv
      go_wp2_with fail
      refine HCALL.out.mono ?_
      rintro e w5 ⟨s5, rfl, hw5⟩
      have HW5 : Hid (Went J (hndR (hndT n) k xi l (q + 1)) pre f (fun _ => False) W0 s5 w5) := by
        unfold Hid
        rw [HSUC.out]
        exact Went.trans (g := fun _ => False) (g2 := fun _ => False) HJ1.out (HEX.out.mono fun b hb _ => Or.inl hb) HF1.out ((JC.went hw5).from (ExQ.ofBelow HW2.out) fun _ h => h.elim) fun _ h => h.elim
      clear hw5
      cases s5 with
      | true =>
        go_wp2_with fail
        go_roundw
        case rel => exact ⟨q + 1, by omega, by go_num, HW5.out⟩
        case measure => simp [intOf]; omega
      | false =>
        go_wp2_with fail
        go_ret
        obtain ⟨rest, hre⟩ := hndR_pre (hndT n) k xi l (q + 1) l.length (by omega)
        rw [hre]
        exact ⟨false, rfl, (Went.stop HW5.out).from (ExQ.ofBelow HB0.out) fun _ h => h.elim⟩
    · have htk : q = l.length := by omega
      subst htk
      go_wp2_with fail
      go_ret
      exact ⟨true, rfl, HWN.out.from (ExQ.ofBelow HB0.out) fun _ h => h.elim⟩

set_option maxHeartbeats 2000000 in
theorem outerG_at (n : Nat) : ∀ (t : Lm) (u : Int), sizeM [t] ≤ n → GdM u t → OgAt n t := by
  induction n with
  | zero => intro t u h; have := sizeM_posL t; omega
  | succ n ih =>
    intro t u hn hg y J K all NN hT hJ hall v w X f pre hNN hv hXK hjw
    have hgd := hide hg
    have hall1 : ∀ p ∈ hndH t, p ∈ all := fun p hp => hall p (by obtain ⟨k, x, l⟩ := t; rw [hndT]; exact List.mem_append_left _ hp)
    have HH := hide (hereG_any hT hJ t u hg hall1 v)
    obtain ⟨k, xi, l⟩ := t
    obtain ⟨a, c, rfl, hs⟩ := hv
    dsimp only at hs HH ⊢
    have hsz : sizeM [⟨k, xi, l⟩] = 1 + sizeM l := sizeM_one k xi l
    have hbA : Below w.heap.size w (w.alloc (.cells #[.int .i64 k, .int .i64 xi, .slice a l.length c] 26)) := (Below.refl _ _).alloc (Nat.le_refl _) _
    have HSL := hide hs
    have HXK := hide hXK
    have HT := hide hT
    have HJ := hide hJ
    have HJW := hide hjw
    have HBA := hide hbA
    have HALL2 : Hid (∀ p ∈ hndR (hndT n) k xi l l.length, p ∈ all) := fun p hp => hall p (by rw [hndT]; exact List.mem_append_right _ hp)
    have HFI : Hid (∀ b, f b → b < w.heap.size) := fun b hb => hJ.inside hjw b (Or.inl hb)
    have HX : Hid (∀ b, X b → b < w.heap.size ∧ ¬ f b) := fun b hb => ⟨hJ.inside hjw b (Or.inr (hXK b hb)), hJ.apart hjw b (hXK b hb)⟩
    have HBK : Hid (Blk (w.alloc (.cells #[.int .i64 k, .int .i64 xi, .slice a l.length c] 26)) w.heap.size #[.int .i64 k, .int .i64 xi, .slice a l.length c] 26) := Blk.new _ _ _
    have HLEN : Hid (l.length ≤ 1000000) := by have := sizeM_len l; have := hg.2.2.2; unfold Hid; omega
    have HIH : Hid (∀ s ∈ l, OgAt n s) := fun s hsl => by
      obtain ⟨i, hi', rfl⟩ := List.mem_iff_getElem.1 hsl
      have := sizeM_get l i hi'
      exact ih _ (deepK u k) (by omega) (hgd.out.subs hsl)
    have HHT : Hid (hndT (n + 1) ⟨k, xi, l⟩ = hndH ⟨k, xi, l⟩ ++ hndR (hndT n) k xi l l.length) := by unfold Hid; rw [hndT]
    have HN1 : Hid (pre.length + (hndH ⟨k, xi, l⟩).length + (hndR (hndT n) k xi l l.length).length ≤ NN) := by unfold Hid; rw [HHT.out, List.length_append] at hNN; omega
    obtain ⟨fn0, p0, q0, rfl⟩ := hT.form
    clear ih hs hXK hT hJ hjw hbA hg hsz hn hall hall1 hNN
    go_enter Tryz.func30, Tryz.ntmps30
    go_wp2_with fail
    refine (HH.out _ X f pre (by have := HN1.out; omega) ⟨a, c, rfl, HSL.out.later HBA.out⟩ HXK.out (HJ.out.later HJW.out HBA.out)).mono ?_
    rintro e w1 ⟨s1, rfl, hw1⟩
    have HW1 : Hid (Went J (hndH ⟨k, xi, l⟩) pre f (fun _ => False) w s1 w1) := hw1.from (ExQ.ofBelow HBA.out) fun _ h => h.elim
    have HX1 : Hid (ExQ f (w.alloc (.cells #[.int .i64 k, .int .i64 xi, .slice a l.length c] 26)) w1) := hw1.exq.mono fun b hb _ => hb.elim id False.elim
    clear hw1
    cases s1 with
    | false =>
      go_wp2_with fail
      go_ret
      rw [HHT.out]
      exact ⟨false, rfl, Went.stop HW1.out⟩
    | true =>
      obtain ⟨f1, hj1, hex, hf1⟩ := HW1.out.end_true
      have hlt1 : w.heap.size < w1.heap.size := by have := HX1.out.size; simp at this; omega
      have K1 := HBK.out.exq HX1.out (fun h => by have := HFI.out _ h; omega)
      have HS1 : Hid (SlM w1 X a l) := (HSL.out.later HBA.out).exq HX1.out fun b hb => (HX.out b hb).2
      have c0 : w1.cell? ⟨w.heap.size, 0, none⟩ = some (.int .i64 k) := K1.cell 0
      have c1 : w1.cell? ⟨w.heap.size, 1, none⟩ = some (.int .i64 xi) := K1.cell 1
      have c2 : w1.cell? ⟨w.heap.size, 2, none⟩ = some (.slice a l.length c) := K1.cell 2
      have HJ1 := hide hj1
      have HEX := hide hex
      have HF1 := hide hf1
      clear K1 hj1 hex hf1
      go_wp2_with fail
      refine (belowG_any HT.out HJ.out n k xi l HLEN.out HIH.out HALL2.out a c w1 X f1 (pre ++ hndH ⟨k, xi, l⟩) (by have := HN1.out; rw [List.length_append]; omega) HS1.out HXK.out HJ1.out).mono ?_
      rintro e w2 ⟨s2, rfl, hw2⟩
      have HW2 : Hid (Went J (hndT (n + 1) ⟨k, xi, l⟩) pre f (fun _ => False) w s2 w2) := by
        unfold Hid
        rw [HHT.out]
        exact Went.trans (g := fun _ => False) (g2 := fun _ => False) HJ1.out HEX.out HF1.out hw2 fun _ h => h.elim
      clear hw2
      go_wp2_with fail
      go_ret
      exact ⟨s2, rfl, HW2.out⟩
end Go.Proofs.YtagidfoiemgfcaaGreatDoor
