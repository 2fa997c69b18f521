/- Several texts in one. -/
import Derived.Test.YtnllgbcakmddkaaGreatDoorHs3
import Derived.Test.YtnllgbcakmddkaaGreatDoorHs4
import Derived.Test.YtnllgbcakmddkaaGreatDoorL11
import Derived.Test.YtnllgbcakmddkaaGreatDoorZCTopTakahashiOwn
import Derived.Deep.RegionHeld
import Derived.Test.YtnllgbcakmddkaaGreatDoorZPTopTakahashiOwn
import Derived.Test.YtnllgbcakmddkaaGreatDoorLn6
/- Walks: all the steps of a lambda term are handed over, knot by knot. -/
namespace Go.Proofs.YtnllgbcakmddkaaGreatDoor
open Go.RowKit Go.Shelf
set_option linter.unusedSimpArgs false
set_option linter.unusedVariables false
set_option maxRecDepth 8000

/-- The promise of outer at one term, to one who goes on. -/
def OgAt (n : Nat) (s : Lm) : Prop := ∀ (y : Value) (J : Tk Hnd) (K : Nat → Prop) (all : List Hnd) (NN : Nat), GoTk y J all NN → TkOk J K → (∀ p ∈ hndT n s, p ∈ all) → ∀ (v : Value) (w : World) (X f : Nat → Prop) (pre : List Hnd), pre.length + (hndT n s).length ≤ NN → MV w X v s → (∀ b, X b → K b) → J pre true f w →
    Calls Tryz.prog 29 #[v, y] w fun e w' => HgPost J (hndT n s) pre f w e w'
/-- The closure is such a one. -/
theorem closG {y : Value} {J : Tk Hnd} {K : Nat → Prop} {all : List Hnd} {NN : Nat} (hT : GoTk y J all NN) (hJ : TkOk J K) (pre0 : List Hnd) (n : Nat) (k xi : Int) (l : List Lm) (i : Nat) (hil : i < l.length) (hlen : l.length ≤ 1000000) (hall : ∀ p ∈ hndR (hndT n) k xi l l.length, p ∈ all) (a : Option Addr) (c T I Y : Nat) (X : Nat → Prop) (hXK : ∀ b, X b → K b) (hNN : pre0.length + (hndT n l[i]).length ≤ NN) :
    GoTk (.func (.func 61) #[] #[.pointer (some ⟨T, 0, none⟩), .pointer (some ⟨I, 0, none⟩), .pointer (some ⟨Y, 0, none⟩)]) (JC J pre0 k xi l a c T I Y i y X) (hndT n l[i]) (hndT n l[i]).length :=
  Or.inl ⟨T, I, Y, rfl, fun pre p v Z f W h1 h1' h2 h3 h4 => below1G_any hT hJ pre0 pre k xi l i hil hlen a c T I Y X hXK p.1 p.2.1 p.2.2 (hall _ (hndR_sub hil h1)) (by omega) v Z f W h2 h3 h4⟩

set_option maxHeartbeats 4000000 in
theorem belowG_any {y : Value} {J : Tk Hnd} {K : Nat → Prop} {all : List Hnd} {NN : Nat} (hT : GoTk y J all NN) (hJ : TkOk J K) (n : Nat) (k xi : Int) (l : List Lm) (hlen : l.length ≤ 1000000) (IH : ∀ s ∈ l, OgAt n s) (hall : ∀ p ∈ hndR (hndT n) k xi l l.length, p ∈ all) (a : Option Addr) (c : Nat) (w : World) (X f : Nat → Prop) (pre : List Hnd) (hNN : pre.length + (hndR (hndT n) k xi l l.length).length ≤ NN) (hs : SlM w X a l) (hXK : ∀ b, X b → K b) (hjw : J pre true f w) :
    Calls Tryz.prog 45 #[.agg #[.int .i64 k, .int .i64 xi, .slice a l.length c], .func (.func 29) #[] #[], y] w fun e w' => HgPost J (hndR (hndT n) k xi l l.length) pre f w e w' := by
  obtain ⟨fn0, p0, q0, rfl⟩ := hT.form
  have hmf : ∀ (fn : Fn) (first cap : Array Value) (w : World), (Instr.makeFunc fn first cap).run Tryz.prog w = .ok (.func fn first cap) w := fun _ _ _ _ => rfl
  obtain ⟨W0, hW0⟩ : ∃ W0, W0 = ((w.alloc (.cells #[.int .i64 k, .int .i64 xi, .slice a l.length c] 26)).alloc (.cells #[.func fn0 p0 q0] 58)) := ⟨_, rfl⟩
  have HB0 : Hid (Below w.heap.size w W0) := by unfold Hid; rw [hW0]; exact below2M _ _
  have HBT : Hid (Blk W0 w.heap.size #[.int .i64 k, .int .i64 xi, .slice a l.length c] 26) := by unfold Hid; rw [hW0]; exact (Blk.new w _ _).alloc _
  have HBY : Hid (Blk W0 (w.heap.size + 1) #[.func fn0 p0 q0] 58) := by
    have h := Blk.new (w.alloc (.cells #[.int .i64 k, .int .i64 xi, .slice a l.length c] 26)) #[.func fn0 p0 q0] 58
    unfold Hid
    rw [hW0]
    simpa using h
  have HZ0 : Hid (W0.heap.size = w.heap.size + 2) := by unfold Hid; rw [hW0]; simp
  have HFI : Hid (∀ b, f b → b < w.heap.size) := fun b hb => hJ.inside hjw b (Or.inl hb)
  have HX : Hid (∀ b, X b → b < w.heap.size ∧ ¬ f b) := fun b hb => ⟨hJ.inside hjw b (Or.inr (hXK b hb)), hJ.apart hjw b (hXK b hb)⟩
  have HW0 := hide hW0
  clear hW0
  have HIH := hide IH
  have HJ := hide hJ
  have HT := hide hT
  have HS := hide hs
  have HXK := hide hXK
  have HALL := hide hall
  have HJW := hide hjw
  have HNN := hide hNN
  clear hNN
  have hl9 := hs.1
  clear IH hJ hT hs hXK hjw hall
  go_enter Tryz.func45, Tryz.ntmps45
  go_wp2_with fail
  rw [← HW0.out]
  clear HW0
  go_loopw [13] (fun i wr => ∃ q : Nat, q ≤ l.length ∧ i = .int .i64 (q : Int) ∧ Went J (hndR (hndT n) k xi l q) pre f (fun _ => False) W0 true wr) (fun i wr => l.length - (intOf i).toNat)
  case atStart => exact ⟨0, Nat.zero_le _, rfl, Went.nil (HJ.out.later HJW.out HB0.out)⟩
  case round =>
    obtain ⟨q, hq, rfl, hwent⟩ := hrel
    have HWN := hide hwent
    obtain ⟨f1, hj1, hex, hf1⟩ := hwent.end_true
    have HJ1 := hide hj1
    have HEX : Hid (ExQ f W0 wr) := hex.mono fun b hb _ => hb.elim id False.elim
    have HF1 := hide hf1
    have hszr : w.heap.size + 2 ≤ wr.heap.size := by have := hex.size; have := HZ0.out; omega
    clear hwent hj1 hex hf1
    by_cases hlt : q < l.length
    · have BT := HBT.out.exq HEX.out (fun h => by have := HFI.out _ h; omega)
      have BY := HBY.out.exq HEX.out (fun h => by have := HFI.out _ h; omega)
      have HSR : Hid (SlM wr X a l) := (HS.out.later HB0.out).exq HEX.out fun b hb => (HX.out b hb).2
      obtain ⟨b, o, a', c', hae, d0, d1, d2, hmv⟩ := HSR.out.get (Below.refl wr.heap.size wr) (fun b hb _ => by have := (HX.out b hb).1; omega) q hlt
      subst hae
      have hlti : (q : Int) < (l.length : Int) := by omega
      have hbX : b < w.heap.size := by
        obtain ⟨_, h1⟩ := HSR.out
        rcases h1 with h1 | ⟨b', o', e', h1⟩
        · rw [h1] at hlt; simp at hlt
        · cases e'; exact (HX.out _ (liesM_get _ _ _ h1 q hlt).1).1
      have HMV := hide hmv
      have HBT2 := hide BT
      have HBY2 := hide BY
      have HN1 : Hid (¬ f1 w.heap.size ∧ ¬ f1 (w.heap.size + 1) ∧ ¬ f1 wr.heap.size) := by
        refine ⟨fun h => ?_, fun h => ?_, fun h => ?_⟩
        · rcases HF1.out _ h with h | h
          · have := HFI.out _ h; omega
          · have := HZ0.out; omega
        · rcases HF1.out _ h with h | h
          · have := HFI.out _ h; omega
          · have := HZ0.out; omega
        · have := HJ.out.inside HJ1.out _ (Or.inl h); omega
      have HNQ : Hid ((pre ++ hndR (hndT n) k xi l q).length + (hndT n l[q]).length ≤ NN) := by
        obtain ⟨rest, hre⟩ := hndR_pre (hndT n) k xi l (q + 1) l.length (by omega)
        have h1 := HNN.out
        rw [hre, hndR_succ (hndT n) k xi l q hlt] at h1
        unfold Hid
        simp only [List.length_append, List.length_map] at h1 ⊢
        omega
      have hIH := HIH.out l[q] (List.getElem_mem hlt) (.func (.func 61) #[] #[.pointer (some ⟨w.heap.size, 0, none⟩), .pointer (some ⟨wr.heap.size, 0, none⟩), .pointer (some ⟨w.heap.size + 1, 0, none⟩)]) (JC J (pre ++ hndR (hndT n) k xi l q) k xi l (some ⟨b, o, none⟩) c w.heap.size wr.heap.size (w.heap.size + 1) q (.func fn0 p0 q0) X) (KC K w.heap.size wr.heap.size (w.heap.size + 1)) (hndT n l[q]) (hndT n l[q]).length (closG HT.out HJ.out _ n k xi l q hlt hlen HALL.out _ c _ _ _ X HXK.out HNQ.out) (JC.ok HJ.out HXK.out) (fun _ h => h) (.agg #[.int .i64 l[q].kind, .int .i64 l[q].idx, .slice a' l[q].subs.length c']) ((wr.alloc (.cells #[.int .i64 (q : Int)] 3)).alloc (.cells #[.int .i64 l[q].kind, .int .i64 l[q].idx, .slice a' l[q].subs.length c'] 26)) X f1 [] (by simp) (HMV.out.later (below2M _ _)) (fun b hb => Or.inl (HXK.out b hb)) (by
        refine ⟨by simpa using HJ.out.later HJ1.out (below2M _ _), ⟨(HBT2.out.alloc _).alloc _, (Blk.new wr _ _).alloc _, (HBY2.out.alloc _).alloc _, HSR.out.later (below2M _ _)⟩, HN1.out.1, HN1.out.2.2, HN1.out.2.1⟩)
      have HCALL := hide hIH
      have HW2 : Hid (Below wr.heap.size wr ((wr.alloc (.cells #[.int .i64 (q : Int)] 3)).alloc (.cells #[.int .i64 l[q].kind, .int .i64 l[q].idx, .slice a' l[q].subs.length c'] 26))) := below2M _ _
      have HSUC : Hid (hndR (hndT n) k xi l (q + 1) = hndR (hndT n) k xi l q ++ (hndT n l[q]).map (wrpT k xi l q)) := hndR_succ _ _ _ _ _ hlt
      clear hIH BT BY hmv
      go_wp2_with fail
      refine HCALL.out.mono ?_
      rintro e w5 ⟨s5, rfl, hw5⟩
      have HW5 : Hid (Went J (hndR (hndT n) k xi l (q + 1)) pre f (fun _ => False) W0 s5 w5) := by
        unfold Hid
        rw [HSUC.out]
        exact Went.trans (g := fun _ => False) (g2 := fun _ => False) HJ1.out (HEX.out.mono fun b hb _ => Or.inl hb) HF1.out ((JC.went hw5).from (ExQ.ofBelow HW2.out) fun _ h => h.elim) fun _ h => h.elim
      clear hw5
      cases s5 with
      | true =>
        go_wp2_with fail
        go_roundw
        case rel => exact ⟨q + 1, by omega, by go_num, HW5.out⟩
        case measure => simp [intOf]; omega
      | false =>
        go_wp2_with fail
        go_ret
        obtain ⟨rest, hre⟩ := hndR_pre (hndT n) k xi l (q + 1) l.length (by omega)
        rw [hre]
        exact ⟨false, rfl, (Went.stop HW5.out).from (ExQ.ofBelow HB0.out) fun _ h => h.elim⟩
    · have htk : q = l.length := by omega
      subst htk
      go_wp2_with fail
      go_ret
      exact ⟨true, rfl, HWN.out.from (ExQ.ofBelow HB0.out) fun _ h => h.elim⟩

set_option maxHeartbeats 2000000 in
theorem outerG_at (n : Nat) : ∀ (t : Lm) (u : Int), sizeM [t] ≤ n → GdM u t → OgAt n t := by
  induction n with
  | zero => intro t u h; have := sizeM_posL t; omega
  | succ n ih =>
    intro t u hn hg y J K all NN hT hJ hall v w X f pre hNN hv hXK hjw
    have hgd := hide hg
    have hall1 : ∀ p ∈ hndH t, p ∈ all := fun p hp => hall p (by obtain ⟨k, x, l⟩ := t; rw [hndT]; exact List.mem_append_left _ hp)
    have HH := hide (hereG_any hT hJ t u hg hall1 v)
    obtain ⟨k, xi, l⟩ := t
    obtain ⟨a, c, rfl, hs⟩ := hv
    dsimp only at hs HH ⊢
    have hsz : sizeM [⟨k, xi, l⟩] = 1 + sizeM l := sizeM_one k xi l
    have hbA : Below w.heap.size w (w.alloc (.cells #[.int .i64 k, .int .i64 xi, .slice a l.length c] 26)) := (Below.refl _ _).alloc (Nat.le_refl _) _
    have HSL := hide hs
    have HXK := hide hXK
    have HT := hide hT
    have HJ := hide hJ
    have HJW := hide hjw
    have HBA := hide hbA
    have HALL2 : Hid (∀ p ∈ hndR (hndT n) k xi l l.length, p ∈ all) := fun p hp => hall p (by rw [hndT]; exact List.mem_append_right _ hp)
    have HFI : Hid (∀ b, f b → b < w.heap.size) := fun b hb => hJ.inside hjw b (Or.inl hb)
    have HX : Hid (∀ b, X b → b < w.heap.size ∧ ¬ f b) := fun b hb => ⟨hJ.inside hjw b (Or.inr (hXK b hb)), hJ.apart hjw b (hXK b hb)⟩
    have HBK : Hid (Blk (w.alloc (.cells #[.int .i64 k, .int .i64 xi, .slice a l.length c] 26)) w.heap.size #[.int .i64 k, .int .i64 xi, .slice a l.length c] 26) := Blk.new _ _ _
    have HLEN : Hid (l.length ≤ 1000000) := by have := sizeM_len l; have := hg.2.2.2; unfold Hid; omega
    have HIH : Hid (∀ s ∈ l, OgAt n s) := fun s hsl => by
      obtain ⟨i, hi', rfl⟩ := List.mem_iff_getElem.1 hsl
      have := sizeM_get l i hi'
      exact ih _ (deepK u k) (by omega) (hgd.out.subs hsl)
    have HHT : Hid (hndT (n + 1) ⟨k, xi, l⟩ = hndH ⟨k, xi, l⟩ ++ hndR (hndT n) k xi l l.length) := by unfold Hid; rw [hndT]
    have HN1 : Hid (pre.length + (hndH ⟨k, xi, l⟩).length + (hndR (hndT n) k xi l l.length).length ≤ NN) := by unfold Hid; rw [HHT.out, List.length_append] at hNN; omega
    obtain ⟨fn0, p0, q0, rfl⟩ := hT.form
    clear ih hs hXK hT hJ hjw hbA hg hsz hn hall hall1 hNN
    go_enter Tryz.func29, Tryz.ntmps29
    go_wp2_with fail
    refine (HH.out _ X f pre (by have := HN1.out; omega) ⟨a, c, rfl, HSL.out.later HBA.out⟩ HXK.out (HJ.out.later HJW.out HBA.out)).mono ?_
    rintro e w1 ⟨s1, rfl, hw1⟩
    have HW1 : Hid (Went J (hndH ⟨k, xi, l⟩) pre f (fun _ => False) w s1 w1) := hw1.from (ExQ.ofBelow HBA.out) fun _ h => h.elim
    have HX1 : Hid (ExQ f (w.alloc (.cells #[.int .i64 k, .int .i64 xi, .slice a l.length c] 26)) w1) := hw1.exq.mono fun b hb _ => hb.elim id False.elim
    clear hw1
    cases s1 with
    | false =>
      go_wp2_with fail
      go_ret
      rw [HHT.out]
      exact ⟨false, rfl, Went.stop HW1.out⟩
    | true =>
      obtain ⟨f1, hj1, hex, hf1⟩ := HW1.out.end_true
      have hlt1 : w.heap.size < w1.heap.size := by have := HX1.out.size; simp at this; omega
      have K1 := HBK.out.exq HX1.out (fun h => by have := HFI.out _ h; omega)
      have HS1 : Hid (SlM w1 X a l) := (HSL.out.later HBA.out).exq HX1.out fun b hb => (HX.out b hb).2
      have c0 : w1.cell? ⟨w.heap.size, 0, none⟩ = some (.int .i64 k) := K1.cell 0
      have c1 : w1.cell? ⟨w.heap.size, 1, none⟩ = some (.int .i64 xi) := K1.cell 1
      have c2 : w1.cell? ⟨w.heap.size, 2, none⟩ = some (.slice a l.length c) := K1.cell 2
      have HJ1 := hide hj1
      have HEX := hide hex
      have HF1 := hide hf1
      clear K1 hj1 hex hf1
      go_wp2_with fail
      refine (belowG_any HT.out HJ.out n k xi l HLEN.out HIH.out HALL2.out a c w1 X f1 (pre ++ hndH ⟨k, xi, l⟩) (by have := HN1.out; rw [List.length_append]; omega) HS1.out HXK.out HJ1.out).mono ?_
      rintro e w2 ⟨s2, rfl, hw2⟩
      have HW2 : Hid (Went J (hndT (n + 1) ⟨k, xi, l⟩) pre f (fun _ => False) w s2 w2) := by
        unfold Hid
        rw [HHT.out]
        exact Went.trans (g := fun _ => False) (g2 := fun _ => False) HJ1.out HEX.out HF1.out hw2 fun _ h => h.elim
      clear hw2
      go_wp2_with fail
      go_ret
      exact ⟨s2, rfl, HW2.out⟩
end Go.Proofs.YtnllgbcakmddkaaGreatDoor

/- A region that draws its order, in a round: walked as anywhere. -/
namespace Go.Proofs.YtnllgbcakmddkaaGreatDoor
open Go.RowKit Go.Shelf
set_option linter.unusedSimpArgs false
set_option linter.unusedVariables false
set_option maxRecDepth 8000

/-- What is asked behind a region that can't outgrow anything. -/
def calmQ (Q : Exit → Act → World → Prop) : Exit → Act → World → Prop := fun e a w => e ≠ .outgrown ∧ Q e a w
theorem calmQ_out (Q : Exit → Act → World → Prop) : ¬ LetsOut (calmQ Q) := fun ⟨_, _, h⟩ => h.1 rfl

theorem oper_round {P : Program} {o : Oper} {a : Act} {w : World} {K : Act → World → Prop} {Q : Exit → Act → World → Prop} {l n : Nat} (hnd : ∀ c, o.op ≠ .defer c) (h : Oper.wp P o a w K (calmQ Q)) : Oper.wpIn (Fence.wide.inRound l) n P o a w K Q := by
  unfold Oper.wp at h
  unfold Oper.wpIn
  refine ⟨fun f _ => trivial, ?_⟩
  rw [show (Fence.wide.inRound l).round = some l from rfl, Oper.semAt_some l _ _ hnd]
  generalize (execOp a.eval o).run P w = r at h ⊢
  cases r with
  | ok x w' =>
    cases x with
    | value v => exact h
    | skip => exact h
    | defer d => exact h
    | enter f args =>
      refine ⟨fun h => by simp [Fence.wide] at h, CallsIn.inRound l (callsIn_wide.2 (h.mono ?_))⟩
      intro e w'' he
      cases e with
      | returned v => exact he
      | panicked c => exact he.2
      | outgrown => exact absurd he (calmQ_out Q)
    | row row args => exact ⟨fun h => by simp [Fence.wide] at h, fun c cs _ => let ⟨v, w'', r, s⟩ := h c cs; ⟨v, w'', r, stepsIn_wide.2 s⟩⟩
    | round _ _ _ _ _ => exact h.elim
    | _ => exact h.elim
  | halt x w' => 
    cases x with
    | panic v => exact h.2
    | _ => exact h.elim

theorem any_round {P : Program} {md : Region.Mode} {ops : Array Oper} {Q : Exit → Act → World → Prop} {l n : Nat} (hnd : ∀ (i : Nat) (o : Oper), ops[i]? = some o → ∀ c, o.op ≠ .defer c) : ∀ (fuel : Nat) (listed : Array Bool) (a : Act) (w : World), wpAny P md ops (calmQ Q) fuel listed a w → wpAnyIn (Fence.wide.inRound l) n P md ops Q fuel listed a w
  | 0, _, _, _, h => ⟨h.1, h.2.2⟩
  | fuel + 1, listed, a, w, h => by
    refine ⟨fun h0 => (h.1 h0).2, fun i hi => ?_⟩
    have h1 := h.2 i hi
    unfold wpOp at h1
    unfold wpOpIn
    cases ho : ops[i]? with
    | none =>
      simp only [ho] at h1
      exact any_round hnd fuel _ _ _ h1
    | some o =>
      simp only [ho] at h1
      have hn := hnd i o ho
      split at h1
      next hw =>
        simp only [hw, if_true]
        rcases h1 with h1 | h1
        · exact Oper.wpIn_mono (fun a' w' h' => any_round hnd fuel _ a' w' h') (oper_round hn h1)
        · exact absurd h1.2 (calmQ_out Q)
      next hw =>
        dsimp only
        rw [if_neg hw]
        exact ⟨fun f _ => trivial, any_round hnd fuel _ _ _ h1⟩

theorem region_round {P : Program} {ops : Array Oper} {Q : Exit → Act → World → Prop} {S : World → Prop} {l n id : Nat} {a : Act} {w : World} (hm : P.follows .mixedOrders = true) (hnd : ∀ (i : Nat) (o : Oper), ops[i]? = some o → ∀ c, o.op ≠ .defer c) (hS : S w.drew)
    (h : S w.drew → wpAnyH P .any ops (calmQ Q) S ops.size (Array.replicate ops.size false) a w.drew) : (Code.region id ops true).wpIn (Fence.wide.inRound l) n P Q a w :=
  wpIn_region_any hm (any_round hnd _ _ _ _ (wpAny_of_held _ _ _ _ (h hS)))
end Go.Proofs.YtnllgbcakmddkaaGreatDoor

/- Walks: reduce.Steps. -/
namespace Go.Proofs.YtnllgbcakmddkaaGreatDoor
open Go.RowKit Go.Shelf
attribute [local go_sem] Oper.semAt_some
set_option linter.unusedSimpArgs false
set_option linter.unusedVariables false
set_option maxRecDepth 8000

set_option maxHeartbeats 1000000 in
theorem outer1G_any {n : Nat} {t : Lm} (hO : OgAt n t) {y : Value} {J : Tk Hnd} {K : Nat → Prop} {all : List Hnd} {NN : Nat} (hT : GoTk y J all NN) (hJ : TkOk J K) (hall : ∀ p ∈ hndT n t, p ∈ all) (T : Nat) (a : Option Addr) (c : Nat) (w : World) (X f : Nat → Prop) (pre : List Hnd) (hNN : pre.length + (hndT n t).length ≤ NN) (hB : Blk w T #[.int .i64 t.kind, .int .i64 t.idx, .slice a t.subs.length c] 26) (hs : SlM w X a t.subs) (hX : ∀ b, X b → K b) (hjw : J pre true f w) :
    Calls Tryz.prog 28 #[y, .pointer (some ⟨T, 0, none⟩)] w fun e w' => (∃ v, e = .returned v) ∧ ∃ s, Went J (hndT n t) pre f (fun _ => False) w s w' := by
  have HC := hide (hO y J K all NN hT hJ hall (.agg #[.int .i64 t.kind, .int .i64 t.idx, .slice a t.subs.length c]) w X f pre hNN ⟨a, c, rfl, hs⟩ hX hjw)
  have c0 : w.cell? ⟨T, 0, none⟩ = some (.int .i64 t.kind) := hB.cell 0
  have c1 : w.cell? ⟨T, 1, none⟩ = some (.int .i64 t.idx) := hB.cell 1
  have c2 : w.cell? ⟨T, 2, none⟩ = some (.slice a t.subs.length c) := hB.cell 2
  obtain ⟨fn0, p0, q0, rfl⟩ := hT.form
  clear hO hT hJ hB hs hX hjw hall hNN
  go_enter Tryz.func28, Tryz.ntmps28
  go_wp2_with fail
  refine HC.out.mono ?_
  rintro e w1 ⟨s, rfl, h1⟩
  have H := hide h1
  clear h1
  cases s with
  | true =>
    go_wp2_with fail
    go_end0
    exact ⟨⟨_, rfl⟩, _, H.out⟩
  | false =>
    go_wp2_with fail
    go_end0
    exact ⟨⟨_, rfl⟩, _, H.out⟩

/-- A step that is too great. -/
def badH (p : Hnd) : Prop := 2000 < sizeM [p.2.2]
theorem row_last3 {w3 : World} {N T n g cap : Nat} {xs : List Value} {z1 z2 z3 u1 u2 u3 : Value} (h : w3.ownsRow N T 3 (.slice (some ⟨g, 0, none⟩) (n + 1) cap) (n + 1) (xs ++ [z1, z2, z3])) (hx : xs.length = n * 3) :
    w3.cell? ⟨g, n * 3, none⟩ = some z1 ∧ w3.cell? ⟨g, n * 3 + 1, none⟩ = some z2 ∧ w3.cell? ⟨g, n * 3 + 2, none⟩ = some z3 ∧ (∀ i, w3.frozen? ⟨g, i, none⟩ = false) ∧ ∀ wF : World, wF.heap[g]? = (((w3.setCell ⟨g, n * 3, none⟩ u1).setCell ⟨g, n * 3 + 1, none⟩ u2).setCell ⟨g, n * 3 + 2, none⟩ u3).heap[g]? → wF.ownsRow N T 3 (.slice (some ⟨g, 0, none⟩) (n + 1) cap) (n + 1) (xs ++ [u1, u2, u3]) := by
  obtain ⟨hl, h1⟩ := h
  rcases h1 with ⟨h1, _⟩ | ⟨g', cap', cur, hv, hg, hh, hnc, hcm, hcs, htk⟩
  · cases h1
  · simp at hv
    obtain ⟨rfl, rfl⟩ := hv
    have hlt : n * 3 + 2 < cur.size := by omega
    have cc : ∀ j, j < 3 → cur.toList[n * 3 + j]? = ([z1, z2, z3] : List Value)[j]? := fun j hj => by
      have := congrArg (fun l => l[n * 3 + j]?) htk
      rw [List.getElem?_take_of_lt (by omega), List.getElem?_append_right (by omega), hx, Nat.add_sub_cancel_left] at this
      exact this
    have c1 := cc 0 (by omega)
    have c2 := cc 1 (by omega)
    have c3 := cc 2 (by omega)
    refine ⟨by simpa [World.cell?, hh] using c1, by simpa [World.cell?, hh] using c2, by simpa [World.cell?, hh] using c3, fun i => by simp [World.frozen?, hh], fun wF hF => ⟨by simp [hx]; omega, Or.inr ⟨g, cap, ((cur.setIfInBounds (n * 3) u1).setIfInBounds (n * 3 + 1) u2).setIfInBounds (n * 3 + 2) u3, rfl, hg, ?_, hnc, hcm, by simpa using hcs, ?_⟩⟩⟩
    · rw [hF]
      simp [World.setCell, Array.getElem?_modify, hh]
    · rw [Array.toList_setIfInBounds, Array.toList_setIfInBounds, Array.toList_setIfInBounds, List.take_set, List.take_set, List.take_set, htk]
      rw [List.set_append_right _ _ (by omega), List.set_append_right _ _ (by omega), List.set_append_right _ _ (by omega), hx, Nat.sub_self, Nat.add_sub_cancel_left, Nat.add_sub_cancel_left]
      simp
/-- The last of the row g is written, and the row is put into the block A. -/
structure Fw3 (w3 : World) (A g n cap T : Nat) (u1 u2 u3 : Value) (wF : World) : Prop where
  os : wF.os = w3.os
  tape : wF.tape = w3.tape
  output : wF.output = w3.output
  size : wF.heap.size = w3.heap.size
  other : ∀ b, b ≠ g → b ≠ A → wF.heap[b]? = w3.heap[b]?
  box : Blk wF A #[.slice (some ⟨g, 0, none⟩) (n + 1) cap] T
  row : wF.heap[g]? = (((w3.setCell ⟨g, n * 3, none⟩ u1).setCell ⟨g, n * 3 + 1, none⟩ u2).setCell ⟨g, n * 3 + 2, none⟩ u3).heap[g]?
theorem fw3_a {w3 : World} {A g n cap T : Nat} {u1 u2 u3 v : Value} (hne : A ≠ g) (hA : Blk w3 A #[v] T) : Fw3 w3 A g n cap T u1 u2 u3 ((((w3.setCell ⟨g, n * 3, none⟩ u1).setCell ⟨g, n * 3 + 1, none⟩ u2).setCell ⟨g, n * 3 + 2, none⟩ u3).setCell ⟨A, 0, none⟩ (.slice (some ⟨g, 0, none⟩) (n + 1) cap)) :=
  ⟨rfl, rfl, rfl, by simp [World.setCell], fun b h1 h2 => by rw [Below.heap_setCell _ _ _ _ (by simpa using h2), Below.heap_setCell _ _ _ _ (by simpa using h1), Below.heap_setCell _ _ _ _ (by simpa using h1), Below.heap_setCell _ _ _ _ (by simpa using h1)], Blk.set1M (((hA.setOther _ _ hne).setOther _ _ hne).setOther _ _ hne), Below.heap_setCell _ _ _ _ (by simpa using fun e => hne e.symm)⟩
theorem fw3_b {w3 : World} {A g n cap T : Nat} {u1 u2 u3 v : Value} (hne : A ≠ g) (hA : Blk w3 A #[v] T) : Fw3 w3 A g n cap T u1 u2 u3 ((((w3.setCell ⟨A, 0, none⟩ (.slice (some ⟨g, 0, none⟩) (n + 1) cap)).setCell ⟨g, n * 3, none⟩ u1).setCell ⟨g, n * 3 + 1, none⟩ u2).setCell ⟨g, n * 3 + 2, none⟩ u3) := by
  refine ⟨rfl, rfl, rfl, by simp [World.setCell], fun b h1 h2 => by rw [Below.heap_setCell _ _ _ _ (by simpa using h1), Below.heap_setCell _ _ _ _ (by simpa using h1), Below.heap_setCell _ _ _ _ (by simpa using h1), Below.heap_setCell _ _ _ _ (by simpa using h2)], (((Blk.set1M hA).setOther _ _ hne).setOther _ _ hne).setOther _ _ hne, ?_⟩
  have e : (w3.setCell ⟨A, 0, none⟩ (.slice (some ⟨g, 0, none⟩) (n + 1) cap)).heap[g]? = w3.heap[g]? := Below.heap_setCell _ _ _ _ (by simpa using fun e => hne e.symm)
  simp only [World.setCell, Array.getElem?_modify] at e ⊢
  simp only [e]

/-- What is gathered: the row v in the block A; where a step was too great, the answer is told already. -/
def JS (K : Nat → Prop) (A R4 R5 L : Nat) (r rd : Loop) (W0 : World) : Tk Hnd := fun pre s f W =>
  (∀ b, K b → b < W0.heap.size ∧ ¬ f b) ∧ W0.heap.size ≤ W.heap.size ∧ (∀ b, K b → W.heap[b]? = W0.heap[b]?) ∧ W.heap[L]? = some (.loop (if s = true then r else rd)) ∧ Blk W R4 #[.slice none 0 0] 24 ∧ Blk W R5 #[.int .i64 (if s = true then 0 else 8)] 28 ∧
  (∃ (v : Value) (l : List Lm) (xs : List Value) (E : Nat → Prop), (∀ b, f b ↔ b = L ∨ b = A ∨ b = R4 ∨ b = R5 ∨ v.ownBlock = some b ∨ E b) ∧ (∀ b, E b → W0.heap.size ≤ b ∧ b < W.heap.size ∧ v.ownBlock ≠ some b) ∧ Blk W A #[v] 24 ∧ W.ownsRow W0.heap.size 26 3 v l.length xs ∧ RowTM W E l xs ∧ (s = true → l = pre.map fun p => p.2.2)) ∧
  (s = true → ∀ p ∈ pre, ¬ badH p) ∧ (s = false → ∃ p ∈ pre, badH p)
theorem JS.ok {K : Nat → Prop} {A R4 R5 L : Nat} {r rd : Loop} {W0 : World} : TkOk (JS K A R4 R5 L r rd W0) K where
  inside := by
    rintro pre s f W ⟨hK, hz, hC, hL, h4, h5, ⟨v, l, xs, E, hf, hE, hA, ho, hr, hl⟩, h1, h2⟩ b hb
    rcases hb with hb | hb
    · rcases (hf b).1 hb with h | h | h | h | h | h
      · subst h; exact (Array.getElem?_eq_some_iff.1 hL).1
      · subst h; exact hA.lt
      · subst h; exact h4.lt
      · subst h; exact h5.lt
      · exact (ho.lt b h).2
      · exact (hE b h).2.1
    · have := (hK b hb).1; omega
  apart := by
    rintro pre s f W ⟨hK, hz, hC, hL, h4, h5, ⟨v, l, xs, E, hf, hE, hA, ho, hr, hl⟩, h1, h2⟩ b hb
    exact (hK b hb).2
  abide := by
    rintro pre s f W W' ⟨hK, hz, hC, hL, h4, h5, ⟨v, l, xs, E, hf, hE, hA, ho, hr, hl⟩, h1, h2⟩ hs hk
    refine ⟨hK, Nat.le_trans hz hs, fun b hb => (hk b (Or.inr hb)).trans (hC b hb), (hk L (Or.inl ((hf L).2 (Or.inl rfl)))).trans hL, (hk R4 (Or.inl ((hf R4).2 (Or.inr (Or.inr (Or.inl rfl)))))).trans h4, (hk R5 (Or.inl ((hf R5).2 (Or.inr (Or.inr (Or.inr (Or.inl rfl))))))).trans h5, ⟨v, l, xs, E, hf, fun b hb => ⟨(hE b hb).1, Nat.lt_of_lt_of_le (hE b hb).2.1 hs, (hE b hb).2.2⟩, (hk A (Or.inl ((hf A).2 (Or.inr (Or.inl rfl))))).trans hA, ownsRow_at ho fun g hg => hk g (Or.inl ((hf g).2 (Or.inr (Or.inr (Or.inr (Or.inr (Or.inl hg))))))), hr.imp fun a l hsl => hsl.kept fun b hb => hk b (Or.inl ((hf b).2 (Or.inr (Or.inr (Or.inr (Or.inr (Or.inr hb)))))) ), hl⟩, h1, h2⟩
end Go.Proofs.YtnllgbcakmddkaaGreatDoor

/- Plain: one step more is gathered. -/
namespace Go.Proofs.YtnllgbcakmddkaaGreatDoor
open Go.RowKit Go.Shelf
set_option linter.unusedSimpArgs false
set_option linter.unusedVariables false
set_option maxRecDepth 8000

theorem js_step {K : Nat → Prop} {A R4 R5 L : Nat} {r rd rb : Loop} {W0 W w9 Wc w3 wF : World} {pre : List Hnd} {x z : Lm} {f E : Nat → Prop} {v : Value} {l : List Lm} {xs : List Value} {a9 : Option Addr} {c9 g cap : Nat} {z1 z2 z3 : Value}
    (hA0 : A < W0.heap.size) (hR4 : R4 < W0.heap.size) (hR5 : R5 < W0.heap.size) (hL0 : L < W0.heap.size) (hd : L ≠ A ∧ R4 ≠ A ∧ R5 ≠ A ∧ R4 ≠ L ∧ R5 ≠ L)
    (hK1 : ∀ b, K b → b < W0.heap.size ∧ ¬ f b) (hzW : W0.heap.size ≤ W.heap.size) (hC : ∀ b, K b → W.heap[b]? = W0.heap[b]?) (h4 : Blk W R4 #[.slice none 0 0] 24) (h5 : Blk W R5 #[.int .i64 0] 28)
    (hf : ∀ b, f b ↔ b = L ∨ b = A ∨ b = R4 ∨ b = R5 ∨ v.ownBlock = some b ∨ E b) (hE : ∀ b, E b → W0.heap.size ≤ b ∧ b < W.heap.size ∧ v.ownBlock ≠ some b) (ho : W.ownsRow W0.heap.size 26 3 v l.length xs) (hr : RowTM W E l xs) (hl : l = pre.map fun p => p.2.2) (hnf : ∀ q ∈ pre, ¬ badH q) (hnp : ¬ badH (x, true, z))
    (hos : w9.os = W.os ∧ w9.tape = W.tape ∧ w9.output = W.output) (hz9 : W.heap.size ≤ w9.heap.size) (k9 : ∀ b, b < W.heap.size → b ≠ L → w9.heap[b]? = W.heap[b]?) (hL9 : w9.heap[L]? = some (.loop rb))
    (hbc : Below w9.heap.size w9 Wc) (hsc : SlM Wc (fun b => W.heap.size ≤ b) a9 z.subs)
    (hg : Wc.grownBy w3 v.ownBlock) (hown3 : w3.ownsRow W0.heap.size 26 3 (.slice (some ⟨g, 0, none⟩) (l.length + 1) cap) (l.length + 1) (xs ++ [z1, z2, z3])) (hat : v.ownBlock = some g ∨ g = Wc.heap.size)
    (hF : Fw3 w3 A g l.length cap 24 (.int .i64 z.kind) (.int .i64 z.idx) (.slice a9 z.subs.length c9) wF) :
    wF.heap[L]? = some (.loop rb) ∧ ∃ f', JS K A R4 R5 L r rd W0 (pre ++ [(x, true, z)]) true f' (wF.putObj L (.loop r)) ∧ ExQ f W (wF.putObj L (.loop r)) ∧ ∀ b, f' b → f b ∨ W.heap.size ≤ b := by
  have hltv := ho.lt
  have hzc := hbc.size
  have hz3 := hg.size
  have hzF := hF.size
  have hgN : W0.heap.size ≤ g := by
    rcases hat with e | e
    · exact (hltv g e).1
    · omega
  have hbg : ∀ b, b < Wc.heap.size → v.ownBlock ≠ some b → b ≠ g := fun b hb hne e => by
    rcases hat with h | h
    · rw [e] at hne; exact hne h
    · omega
  have hnv : ∀ b, b < W0.heap.size → v.ownBlock ≠ some b := fun b hb e => by have := (hltv b e).1; omega
  have kF9 : ∀ b, b < Wc.heap.size → b ≠ A → v.ownBlock ≠ some b → wF.heap[b]? = Wc.heap[b]? := fun b hb hA hne => (hF.other b (hbg b hb hne) hA).trans (hg.block b hb fun e => hne e.symm)
  have kF : ∀ b, b < W.heap.size → b ≠ L → b ≠ A → v.ownBlock ≠ some b → wF.heap[b]? = W.heap[b]? := fun b hb hL hA hne => (kF9 b (by omega) hA hne).trans ((hbc.block b (by omega)).trans (k9 b hb hL))
  have po : ∀ b, b ≠ L → (wF.putObj L (.loop r)).heap[b]? = wF.heap[b]? := fun b hb => World.putObj_heap_other hb
  have hKK : ∀ b, K b → b < W.heap.size ∧ b ≠ L ∧ b ≠ A ∧ v.ownBlock ≠ some b := fun b hb => by
    have h1 := hK1 b hb
    exact ⟨by omega, fun e => h1.2 ((hf b).2 (Or.inl e)), fun e => h1.2 ((hf b).2 (Or.inr (Or.inl e))), hnv b h1.1⟩
  have hx : xs.length = l.length * 3 := hr.len
  obtain ⟨_, _, _, _, hlast⟩ := row_last3 (u1 := .int .i64 z.kind) (u2 := .int .i64 z.idx) (u3 := .slice a9 z.subs.length c9) hown3 hx
  refine ⟨(kF9 L (by omega) hd.1 (hnv L hL0)).trans ((hbc.block L (by omega)).trans hL9), fun b => b = L ∨ b = A ∨ b = R4 ∨ b = R5 ∨ (Value.slice (some ⟨g, 0, none⟩) (l.length + 1) cap).ownBlock = some b ∨ ((E b ∨ W.heap.size ≤ b) ∧ b < wF.heap.size ∧ b ≠ g), ⟨fun b hb => ⟨(hK1 b hb).1, fun h => ?_⟩, by simp; omega, fun b hb => ?_, World.putObj_heap_same (by omega), (po _ hd.2.2.2.1).trans ((kF _ (by omega) hd.2.2.2.1 hd.2.1 (hnv _ hR4)).trans h4), (po _ hd.2.2.2.2).trans ((kF _ (by omega) hd.2.2.2.2 hd.2.2.1 (hnv _ hR5)).trans h5), ⟨.slice (some ⟨g, 0, none⟩) (l.length + 1) cap, l ++ [z], xs ++ [.int .i64 z.kind, .int .i64 z.idx, .slice a9 z.subs.length c9], fun b => (E b ∨ W.heap.size ≤ b) ∧ b < wF.heap.size ∧ b ≠ g, fun b => Iff.rfl, fun b hb => ⟨?_, by simpa using hb.2.1, fun e => hb.2.2 (by simpa [Value.ownBlock] using e.symm)⟩, (po _ (fun e => hd.1 e.symm)).trans hF.box, ?_, ?_, fun _ => by rw [hl]; simp⟩, fun _ q hq => ?_, fun h => by cases h⟩, ⟨?_, ?_, ?_, by simp; omega, fun b hb hn => ?_⟩, fun b hb => ?_⟩
  · have h1 := hK1 b hb
    rcases h with h | h | h | h | h | h
    · exact h1.2 ((hf b).2 (Or.inl h))
    · exact h1.2 ((hf b).2 (Or.inr (Or.inl h)))
    · exact h1.2 ((hf b).2 (Or.inr (Or.inr (Or.inl h))))
    · exact h1.2 ((hf b).2 (Or.inr (Or.inr (Or.inr (Or.inl h)))))
    · simp [Value.ownBlock] at h; omega
    · rcases h.1 with h | h
      · have := (hE b h).1; omega
      · omega
  · have h1 := hKK b hb
    exact (po b h1.2.1).trans ((kF b h1.1 h1.2.1 h1.2.2.1 h1.2.2.2).trans (hC b hb))
  · rcases hb.1 with h | h
    · exact (hE b h).1
    · omega
  · have h1 := hlast (wF.putObj L (.loop r)) ((po g (by omega)).trans hF.row)
    rw [List.length_append, List.length_singleton]
    exact h1
  · refine RowTM.append (hr.imp fun a' k' hs' => ?_) ⟨a9, c9, [], rfl, ?_, rfl⟩
    · refine ((hs'.mono (Y := fun b => E b ∧ b < W.heap.size) fun b h1 h2 => ⟨h1, h2⟩).kept (w' := wF.putObj L (.loop r)) fun b hb => ?_).mono fun b hb _ => ?_
      · have h1 := hE b hb.1
        exact (po b (by omega)).trans (kF b hb.2 (by omega) (by omega) h1.2.2)
      · have h1 := hE b hb.1
        exact ⟨Or.inl hb.1, by omega, hbg b (by omega) h1.2.2⟩
    · refine ((hsc.mono (Y := fun b => W.heap.size ≤ b ∧ b < Wc.heap.size) fun b h1 h2 => ⟨h1, h2⟩).kept (w' := wF.putObj L (.loop r)) fun b hb => ?_).mono fun b hb _ => ?_
      · exact (po b (by omega)).trans (kF9 b hb.2 (by omega) (fun e => by have := (hltv b e).2; omega))
      · exact ⟨Or.inr hb.1, by omega, hbg b hb.2 (fun e => by have := (hltv b e).2; omega)⟩
  · rcases List.mem_append.1 hq with h | h
    · exact hnf q h
    · simp at h; subst h; exact hnp
  · exact hF.os.trans (hg.os.trans (hbc.os.trans hos.1))
  · exact hF.tape.trans (hg.tape.trans (hbc.tape.trans hos.2.1))
  · exact hF.output.trans (hg.output.trans (hbc.output.trans hos.2.2))
  · have h9 : b ≠ L := fun h => hn ((hf b).2 (Or.inl h))
    have h3 : b ≠ A := fun h => hn ((hf b).2 (Or.inr (Or.inl h)))
    exact (po b h9).trans (kF b hb h9 h3 (fun h => hn ((hf b).2 (Or.inr (Or.inr (Or.inr (Or.inr (Or.inl h))))))))
  · rcases hb with h | h | h | h | h | h
    · exact Or.inl ((hf b).2 (Or.inl h))
    · exact Or.inl ((hf b).2 (Or.inr (Or.inl h)))
    · exact Or.inl ((hf b).2 (Or.inr (Or.inr (Or.inl h))))
    · exact Or.inl ((hf b).2 (Or.inr (Or.inr (Or.inr (Or.inl h)))))
    · have e : g = b := by simpa [Value.ownBlock] using h
      subst e
      rcases hat with h1 | h1
      · exact Or.inl ((hf g).2 (Or.inr (Or.inr (Or.inr (Or.inr (Or.inl h1))))))
      · right; omega
    · rcases h.1 with h1 | h1
      · exact Or.inl ((hf b).2 (Or.inr (Or.inr (Or.inr (Or.inr (Or.inr h1))))))
      · exact Or.inr h1
/-- A step was too great: the answer is told. -/
theorem js_stop {K : Nat → Prop} {A R4 R5 L : Nat} {r rd rb : Loop} {W0 W w9 wF : World} {pre : List Hnd} {p : Hnd} {f E : Nat → Prop} {v : Value} {l : List Lm} {xs : List Value}
    (hA0 : A < W0.heap.size) (hR4 : R4 < W0.heap.size) (hR5 : R5 < W0.heap.size) (hL0 : L < W0.heap.size) (hd : L ≠ A ∧ R4 ≠ A ∧ R5 ≠ A ∧ R4 ≠ L ∧ R5 ≠ L ∧ R4 ≠ R5)
    (hK1 : ∀ b, K b → b < W0.heap.size ∧ ¬ f b) (hzW : W0.heap.size ≤ W.heap.size) (hC : ∀ b, K b → W.heap[b]? = W0.heap[b]?) (h4 : Blk W R4 #[.slice none 0 0] 24) (h5 : Blk W R5 #[.int .i64 0] 28)
    (hf : ∀ b, f b ↔ b = L ∨ b = A ∨ b = R4 ∨ b = R5 ∨ v.ownBlock = some b ∨ E b) (hE : ∀ b, E b → W0.heap.size ≤ b ∧ b < W.heap.size ∧ v.ownBlock ≠ some b) (hA : Blk W A #[v] 24) (ho : W.ownsRow W0.heap.size 26 3 v l.length xs) (hr : RowTM W E l xs) (hbp : badH p)
    (hos : w9.os = W.os ∧ w9.tape = W.tape ∧ w9.output = W.output) (hz9 : W.heap.size ≤ w9.heap.size) (k9 : ∀ b, b < W.heap.size → b ≠ L → w9.heap[b]? = W.heap[b]?) (hL9 : w9.heap[L]? = some (.loop rb)) (v4 : Value) (hv4 : v4 = .slice none 0 0) (hwF : wF = (w9.setCell ⟨R4, 0, none⟩ v4).setCell ⟨R5, 0, none⟩ (.int .i64 8)) :
    wF.heap[L]? = some (.loop rb) ∧ ∃ f', JS K A R4 R5 L r rd W0 (pre ++ [p]) false f' (wF.putObj L (.loop rd)) ∧ ExQ f W (wF.putObj L (.loop rd)) ∧ ∀ b, f' b → f b ∨ W.heap.size ≤ b := by
  subst hv4
  subst hwF
  have hltv := ho.lt
  have po : ∀ b, b ≠ L → b ≠ R4 → b ≠ R5 → b < W.heap.size → (((w9.setCell ⟨R4, 0, none⟩ (.slice none 0 0)).setCell ⟨R5, 0, none⟩ (.int .i64 8)).putObj L (.loop rd)).heap[b]? = W.heap[b]? := fun b h9 h1 h2 hb => by
    rw [World.putObj_heap_other h9, Below.heap_setCell _ _ _ _ (by simpa using h2), Below.heap_setCell _ _ _ _ (by simpa using h1), k9 b hb h9]
  have B4 : Blk w9 R4 #[.slice none 0 0] 24 := (k9 _ (by omega) hd.2.2.2.1).trans h4
  have B5 : Blk w9 R5 #[.int .i64 0] 28 := (k9 _ (by omega) hd.2.2.2.2.1).trans h5
  refine ⟨?_, f, ⟨hK1, by simp [World.setCell]; omega, fun b hb => ?_, World.putObj_heap_same (by simp [World.setCell]; omega), ?_, ?_, ⟨v, l, xs, E, hf, fun b hb => ⟨(hE b hb).1, by have := (hE b hb).2.1; simp [World.setCell]; omega, (hE b hb).2.2⟩, ?_, ownsRow_at ho fun g hg => ?_, hr.imp fun a' k' hs' => ?_, fun h => by cases h⟩, (fun h => by cases h), fun _ => ⟨p, by simp, hbp⟩⟩, ⟨?_, ?_, ?_, by simp [World.setCell]; omega, fun b hb hn => ?_⟩, fun b hb => Or.inl hb⟩
  · rw [Below.heap_setCell _ _ _ _ (by simpa using fun e => hd.2.2.2.2.1 e.symm), Below.heap_setCell _ _ _ _ (by simpa using fun e => hd.2.2.2.1 e.symm)]
    exact hL9
  · have h1 := hK1 b hb
    exact (po b (fun e => h1.2 ((hf b).2 (Or.inl e))) (fun e => h1.2 ((hf b).2 (Or.inr (Or.inr (Or.inl e))))) (fun e => h1.2 ((hf b).2 (Or.inr (Or.inr (Or.inr (Or.inl e)))))) (by omega)).trans (hC b hb)
  · exact (World.putObj_heap_other hd.2.2.2.1).trans (Blk.setOther (Blk.set1M B4) _ _ hd.2.2.2.2.2)
  · exact (World.putObj_heap_other hd.2.2.2.2.1).trans (Blk.set1M (B5.setOther _ _ (fun e => hd.2.2.2.2.2 e.symm)))
  · exact (po _ (fun e => hd.1 e.symm) (fun e => hd.2.1 e.symm) (fun e => hd.2.2.1 e.symm) (by omega)).trans hA
  · have h1 := hltv g hg
    exact po g (by omega) (by omega) (by omega) h1.2
  · refine ((hs'.mono (Y := fun b => E b ∧ b < W.heap.size) fun b h1 h2 => ⟨h1, h2⟩).kept fun b hb => ?_).mono fun b hb _ => hb.1
    have h1 := hE b hb.1
    exact po b (by omega) (by omega) (by omega) hb.2
  · exact hos.1
  · exact hos.2.1
  · exact hos.2.2
  · exact po b (fun h => hn ((hf b).2 (Or.inl h))) (fun h => hn ((hf b).2 (Or.inr (Or.inr (Or.inl h))))) (fun h => hn ((hf b).2 (Or.inr (Or.inr (Or.inr (Or.inl h)))))) hb
end Go.Proofs.YtnllgbcakmddkaaGreatDoor
