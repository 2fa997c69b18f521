/- Several texts in one. -/
import Derived.Test.YtdebiiodhkcnkaaGreatZBIndexMadeOwn
import Derived.Test.YtdebiiodhkcnkaaGreatZIndexMadeOwn
import Derived.Deep.RegionHeld3
import Derived.Laws.EntriesVeiled
import Derived.Sort.Grow
namespace Go.Proofs.YtdebiiodhkcnkaaGreat
open Go.RowKit Go.Shelf
attribute [local go_sem] Oper.semAt_some
set_option linter.unusedSimpArgs false
set_option linter.unusedVariables false
set_option maxRecDepth 8000
def ndV (y : Lay) (u : List Sg) : Value := .pointer (some ⟨y.ad u, ofN u, none⟩)
abbrev TkX := List (List Sg) → (Nat → Prop) → World → Prop
structure TkXOk (N0 : Nat) (W0 : World) (J : TkX) : Prop where
 old : ∀ {pre f W}, J pre f W → Below N0 W0 W
 inside : ∀ {pre f W}, J pre f W → ∀ b, f b → b < W.heap.size ∧ N0 ≤ b
 abide : ∀ {pre f W W'}, J pre f W → W.heap.size ≤ W'.heap.size → Below N0 W W' → (∀ b, f b → W'.heap[b]? = W.heap[b]?) → J pre f W'
def RndX (lp : Nat) (y : Lay) (P : List Sg → Prop) (J : TkX) : Prop :=
 ∀ (n : Nat) (pre : List (List Sg)) (x : List Sg) (f : Nat → Prop) (W : World), x ∉ pre → P x → (∀ z ∈ pre, P z) → J pre f W →
  YieldAt Fence.wide n Tryz.prog lp #[ndV y x] W fun e W' => e = .returned (.bool true) ∧ ∃ f', J (pre ++ [x]) f' W' ∧ ExQ f W W' ∧ ∀ b, f' b → f b ∨ W.heap.size ≤ b
def PsPost (L : List (List Sg)) (u : List Sg) (n : Nat) (J : TkX) (pre : List (List Sg)) (f : Nat → Prop) (W W' : World) : Prop :=
 ∃ vs f', PsP L u n vs ∧ J (pre ++ vs) f' W' ∧ ExQ f W W' ∧ ∀ b, f' b → f b ∨ W.heap.size ≤ b
def PsI (L : List (List Sg)) (u : List Sg) (n : Nat) (J : TkX) (pre : List (List Sg)) (f : Nat → Prop) (W : World) (b r : Nat) (E : List (Sg × Value)) (wr : World) : Prop :=
 ∃ done rem vs f', RangeG wr b r E rem ∧ E.Perm (done ++ rem) ∧ PsK L u n (done.map (·.1)) vs ∧ J (pre ++ vs) f' wr ∧ ExQ f W wr ∧ W.heap.size + 1 ≤ wr.heap.size ∧ ∀ c, f' c → f c ∨ W.heap.size + 1 ≤ c
def PsC (L : List (List Sg)) (y : Lay) (lp : Nat) (P : List Sg → Prop) (J : TkX) (M : Nat) (u : List Sg) : Prop :=
 ∀ (n : Nat) (pre : List (List Sg)) (f : Nat → Prop) (W : World), n ≤ M → J pre f W → (∀ z ∈ pre, ¬ u <+: z) → (∀ z ∈ pre, P z) → (∀ x, Nd L x → (∃ v, Many n v ∧ x = u ++ v) → P x) →
  Calls Tryz.prog 84 #[ndV y u, .int .i64 (n : Int), .func (.yield lp) #[] #[]] W fun e W' => e = .returned (.bool true) ∧ PsPost L u n J pre f W W'
set_option maxHeartbeats 4000000 in
theorem past_step {L : List (List Sg)} {N N0 lp M : Nat} {tv : Value} {y : Lay} {W0 : World} {J : TkX} {P : List Sg → Prop} (hT : Tri W0 N tv (Nd L) (nmL L) y) (hN0 : W0.heap.size = N0) (hJ : TkXOk N0 W0 J) (RH : RndX lp y P J) (u : List Sg) (hu : Nd L u) (hM : M ≤ 4000000000000)
  (IH : ∀ s, Nd L (u ++ [s]) → PsC L y lp P J (M + 1000001) (u ++ [s])) : PsC L y lp P J M u := by
 intro n pre f W hn hj hpre hPp hP
 cases n with
 | zero =>
  obtain ⟨hfn, htmps, hasg, hbody, hy, hR⟩ := RH 0 pre u f W (fun h => hpre u h (List.prefix_refl _)) (hP u hu ⟨[], Many.nil, by simp⟩) hPp hj
  have HR := hide hR
  have HU := hide hu
  clear hR RH hJ hP hpre hPp IH hT hu
  unfold ndV at hy ⊢
  go_enter Tryz.func84, Tryz.ntmps84
  refine (wpIn_wide (n := 1)).1 ?_
  gi_wp2
  refine HR.out.mono ?_
  rintro e W1 ⟨rfl, f', hj1, he1, hf1⟩
  have HJ1 := hide hj1
  have HE1 := hide he1
  have HF1 := hide hf1
  clear hj1 he1 hf1 hy
  gi_wp2
  go_ret
  exact ⟨rfl, [u], f', PsP.zero HU.out, HJ1.out, HE1.out, HF1.out⟩
 | succ n =>
  have hOld := hJ.old hj
  have hnd : NdB W u (y.ad u) tv (.map (y.mp u)) (y.nv u) := (hT.node hu).kept (hOld.block _ (by have := (hT.node hu).lt; omega))
  have c0 := hnd.c0
  have HJ := hide hJ
  have HJJ := hide hj
  have HIH := hide IH
  have HT := hide hT
  have HU := hide hu
  have HPR := hide hpre
  have HPP := hide hPp
  have HP := hide hP
  obtain ⟨m, hm1⟩ : ∃ m, m = n + 1 := ⟨_, rfl⟩
  rw [← hm1]
  rw [← hm1] at hn
  have HM1 := hide hm1
  have hne : ((m : Int) == 0) = false := by simp; omega
  have hne2 : ¬ ((m : Int) = 0) := by omega
  have hm4 : (m : Int) ≤ 4000000000000 := by omega
  have hm0 : (1 : Int) ≤ (m : Int) := by omega
  have HNM := hide hn
  clear hm1 hn
  clear hJ hj IH hT hu hpre hPp hP RH hnd hOld
  unfold ndV
  generalize hPA : y.ad u = PA at *
  generalize hPO : ofN u = PO at *
  cases hm : y.mp u with
  | none =>
   rw [hm] at c0
   have hrg := run_range_nilMap (P := Tryz.prog) W 55 _ _ Tryz.underlying55
   have hnx : ∀ ty, (Instr.next (.pointer (some ⟨W.heap.size, 0, none⟩)) false ty).run Tryz.prog (W.alloc (.mapIter none 0 #[] 0)) = .ok (.tuple #[.bool false]) (W.alloc (.mapIter none 0 #[] 0)) := fun ty => run_next_nilMap (P := Tryz.prog) W ty 0 0 #[]
   have HF : Hid (PsPost L u m J pre f W (W.alloc (.mapIter none 0 #[] 0))) := by
    rw [HM1.out]
    refine ⟨[], f, (PsK.nil L u n).done fun s hs => absurd hs (HT.out.leaf HU.out hm s), ?_, (ExQ.refl _ _).alloc _, fun b hb => Or.inl hb⟩
    rw [List.append_nil]
    exact HJ.out.abide HJJ.out (by simp) ((Below.refl _ _).alloc (by have := (HJ.out.old HJJ.out).size; omega) _) fun b hb => Below.heap_alloc _ _ _ (HJ.out.inside HJJ.out b hb).1
   clear hm hPA hPO
   go_enter Tryz.func84, Tryz.ntmps84
   go_wp2_with fail
   go_loopw [8] (fun _ wr => wr = W.alloc (.mapIter none 0 #[] 0)) (fun _ _ => 0)
   case atStart => exact rfl
   case round =>
    have hwr : wr = W.alloc (.mapIter none 0 #[] 0) := hrel
    subst hwr
    go_wp2_with fail
    go_ret
    exact ⟨rfl, HF.out⟩
  | some b =>
   rw [hm] at c0
   obtain ⟨E, hE0, hEn, hEi⟩ := HT.out.kids HU.out hm
   have hbl : b < N0 := by rw [← hN0]; exact hE0.lt
   have hOld := HJ.out.old HJJ.out
   have hE : MapG W b E := hE0.kept (hOld.block b hbl)
   have hz0 : N0 ≤ W.heap.size := by rw [← hN0]; exact hOld.size
   obtain ⟨o, hrange, hR0⟩ := hE.range (P := Tryz.prog) Tryz.underlying55
   have HEN := hide hEn
   have HEI := hide hEi
   have HS : Hid (PsI L u n J pre f W b W.heap.size E (W.alloc o)) := by
    refine ⟨[], E, [], f, hR0, by simp, PsK.nil L u n, ?_, (ExQ.refl _ _).alloc _, by simp, fun c hc => Or.inl hc⟩
    rw [List.append_nil]
    exact HJ.out.abide HJJ.out (by simp) ((Below.refl _ _).alloc hz0 _) fun b hb => Below.heap_alloc _ _ _ (HJ.out.inside HJJ.out b hb).1
   have HF : Hid (∀ c, f c → c < W.heap.size ∧ N0 ≤ c) := HJ.out.inside HJJ.out
   clear hR0 hE0 hE hEn hEi hOld hm hPA hPO HJJ
   go_enter Tryz.func84, Tryz.ntmps84
   go_wp2_with fail
   go_loopw [8] (fun _ wr => PsI L u n J pre f W b W.heap.size E wr) (fun _ wr => leftG wr b W.heap.size)
   case atStart => exact HS.out
   case round =>
    clear HS hrange c0
    obtain ⟨done, rem, vs, f', hR, hPm, hK, hj, he, hzw, hf⟩ := hrel
    have HK := hide hK
    have HJr := hide hj
    have HEr := hide he
    have HFr := hide hf
    have HPm := hide hPm
    have hOldr := HJ.out.old hj
    have hLeft := hR.left
    rcases hR.next (P := Tryz.prog) 0 with ⟨he0, hnx⟩ | ⟨p, rem', w1, hpm, hnx, hR1, hz1, ho1, ht1, hu1, hk1, hen⟩
    ·subst he0
     have HFIN : Hid (PsPost L u m J pre f W wr) := by
      rw [HM1.out]
      refine ⟨vs, f', hK.done fun s hs => ?_, hj, he, fun c hc => ?_⟩
      ·have h1 : (s, Value.pointer (some ⟨y.ad (u ++ [s]), 0, none⟩)) ∈ E := (HEI.out _ _).2 ⟨hs, rfl⟩
       have h2 := hPm.subset h1
       rw [List.append_nil] at h2
       exact List.mem_map.2 ⟨_, h2, rfl⟩
      ·rcases hf c hc with h | h
       ·exact Or.inl h
       ·exact Or.inr (by omega)
     clear hR hK hj he hf hPm hOldr hLeft hzw
     go_wp2_with fail
     go_ret
     exact ⟨rfl, HFIN.out⟩
    ·obtain ⟨s, pv⟩ := p
     have hmem : (s, pv) ∈ E := hPm.symm.subset (List.mem_append_right _ (hpm.symm.subset (List.mem_cons_self ..)))
     obtain ⟨hch, hpv⟩ := (HEI.out s pv).1 hmem
     subst hpv
     have hsok : SgOk s := by obtain ⟨es, clk, _, _, _, h⟩ := hR1.map; exact h _ hmem
     have hr1 := hR1.lt
     have hb1 : b < w1.heap.size := hR1.map.lt
     have hsn : s ∉ done.map (·.1) := fun h => by
      have h1 := (HPm.out.map (·.1)).nodup_iff.1 HEN.out
      rw [List.map_append, List.nodup_append] at h1
      exact h1.2.2 s h s (List.mem_map.2 ⟨_, hpm.symm.subset (List.mem_cons_self ..), rfl⟩) rfl
     have hrf : ∀ c, f' c → c ≠ W.heap.size := fun c hc e => by
      rcases hf c hc with h | h
      ·have := (HF.out c h).1; omega
      ·omega
     have hin := HJ.out.inside hj
     obtain ⟨s1, s2⟩ := s
     have EX1 : ExQ (fun c => c = W.heap.size) wr (w1.alloc (.cells #[.string s1, .int .i64 (s2 : Int)] 85)) := by
      refine ExQ.alloc ⟨ho1, ht1, hu1, by rw [hz1]; exact Nat.le_refl _, fun k hk hn => hk1 k hn⟩ _
     have HJ2 : Hid (J (pre ++ vs) f' (w1.alloc (.cells #[.string s1, .int .i64 (s2 : Int)] 85))) := HJ.out.abide hj EX1.size (EX1.below (by omega) fun c hc => by omega) fun c hc => EX1.block c (hin c hc).1 (hrf c hc)
     have HR2 : Hid (RangeG (w1.alloc (.cells #[.string s1, .int .i64 (s2 : Int)] 85)) b W.heap.size E rem') := hR1.below ((Below.refl _ _).alloc (Nat.le_refl _) _) hb1 hr1
     have HE2 : Hid (ExQ f W (w1.alloc (.cells #[.string s1, .int .i64 (s2 : Int)] 85))) := he.transN EX1 fun i hi hlt => by omega
     have hz2 : W.heap.size + 1 ≤ (w1.alloc (.cells #[.string s1, .int .i64 (s2 : Int)] 85)).heap.size := by have := EX1.size; omega
     have CL := HIH.out (s1, s2) hch (n + s2) (pre ++ vs) f' (w1.alloc (.cells #[.string s1, .int .i64 (s2 : Int)] 85)) (by have h := hsok.2; have h9 := HM1.out; have h8 := HNM.out; simp only at h; omega) HJ2.out
      (fun z hz hp => by
       rcases List.mem_append.1 hz with hz | hz
       ·exact HPR.out z hz ((List.prefix_append _ _).trans hp)
       ·exact HK.out.apart hsn hz hp)
      (fun z hz => by
       rcases List.mem_append.1 hz with hz | hz
       ·exact HPP.out z hz
       ·obtain ⟨s', _, hz1, v, hv, rfl⟩ := (HK.out.2 z).1 hz
        exact HP.out _ hz1 ⟨s' :: v, Many.cons hv, by simp⟩)
      (fun x hx hv => by
       obtain ⟨v, hv, rfl⟩ := hv
       exact HP.out _ hx ⟨(s1, s2) :: v, Many.cons hv, by simp⟩)
     unfold ndV at CL
     rw [of_snoc] at CL
     have HCL := hide CL
     have HRF := hide hrf
     have HIN := hide hin
     have HSN := hide hsn
     have HPE := hide hpm
     have HB1 := hide hb1
     have HB2 : Hid (b < (w1.alloc (.cells #[.string s1, .int .i64 (s2 : Int)] 85)).heap.size) := HR2.out.map.lt
     have HLE := hide hLeft
     unfold sgV at hnx hen
     have hnn : ((n + s2 : Nat) : Int) = (m : Int) - 1 + (s2 : Int) := by have h9 := HM1.out; omega
     rw [hnn] at HCL
     clear hnn
     have hs2 : (s2 : Int) ≤ 1000000 := by have h := hsok.2; simp only at h; omega
     have s20 : (0 : Int) ≤ (s2 : Int) := by omega
     clear hR hK hj he hf hPm hOldr hLeft hmem hch hR1 hsn hrf hin EX1 CL hpm hz1 ho1 ht1 hu1 hk1 hsok
     go_wp2_with fail
     generalize w1.alloc (.cells #[.string s1, .int .i64 (s2 : Int)] 85) = w2 at *
     refine HCL.out.mono ?_
     rintro e w5 ⟨rfl, ws, f2, hws, hj5, he5, hf5⟩
     have HI5 : Hid (PsI L u n J pre f W b W.heap.size E w5) := by
      refine ⟨done ++ [((s1, s2), .pointer (some ⟨y.ad (u ++ [(s1, s2)]), 0, none⟩))], rem', vs ++ ws, f2, ?_, ?_, ?_, ?_, ?_, ?_, ?_⟩
      ·refine HR2.out.kept (he5.block b HB2.out fun h => ?_) (he5.block W.heap.size HR2.out.lt fun h => HRF.out _ h rfl)
       have := (HIN.out b h).2; omega
      ·refine HPm.out.trans ?_
       rw [List.append_assoc]
       exact (List.Perm.append_left done HPE.out)
      ·rw [List.map_append]
       exact HK.out.add HSN.out hws
      ·rw [← List.append_assoc]; exact hj5
      ·exact HE2.out.transN he5 fun i hi hlt => by
        rcases HFr.out i hi with h | h
        ·exact h
        ·omega
      ·have := he5.size; omega
      ·intro c hc
       rcases hf5 c hc with h | h
       ·exact HFr.out c h
       ·exact Or.inr (by omega)
     have HLT : Hid (leftG w5 b W.heap.size < leftG wr b W.heap.size) := by
      have h1 : leftG w5 b W.heap.size = rem'.length := by
       refine (HR2.out.kept (he5.block b HB2.out fun h => ?_) (he5.block W.heap.size HR2.out.lt fun h => HRF.out _ h rfl)).left
       have := (HIN.out b h).2; omega
      have h2 := HPE.out.length_eq
      unfold Hid
      rw [h1, HLE.out]
      simp at h2; omega
     clear hws hj5 he5 hf5 HCL hnx hen
     go_wp2_with fail
     go_roundw
     case rel => exact HI5.out
     case measure => exact HLT.out
theorem past_any {L : List (List Sg)} {N N0 lp : Nat} {tv : Value} {y : Lay} {W0 : World} {J : TkX} {P : List Sg → Prop} (hT : Tri W0 N tv (Nd L) (nmL L) y) (hN0 : W0.heap.size = N0) (hJ : TkXOk N0 W0 J) (RH : RndX lp y P J) : ∀ (d M : Nat) (u : List Sg), (∀ x ∈ L, x.length ≤ u.length + d) → Nd L u → M + 1000001 * d ≤ 4000000000000 → PsC L y lp P J M u
 | 0, M, u, hlen, hu, hM => past_step hT hN0 hJ RH u hu (by omega) fun s hs => by
  rcases hs with h | ⟨x, hx, hp⟩
  ·simp at h
  ·have h1 := hp.length_le; have h2 := hlen x hx; simp at h1; omega
 | d + 1, M, u, hlen, hu, hM => past_step hT hN0 hJ RH u hu (by omega) fun s hs => past_any hT hN0 hJ RH d (M + 1000001) (u ++ [s]) (fun x hx => by have := hlen x hx; simp; omega) hs (by omega)
theorem behind_any (y : Lay) (u : List Sg) (w : World) : Calls Tryz.prog 68 #[ndV y u] w fun e w' => e = .returned (.func (.func 83) #[] #[.pointer (some ⟨w.heap.size, 0, none⟩)]) ∧ w' = w.alloc (.cells #[ndV y u] 83) := by
 have hmf : ∀ (fn : Fn) (first cap : Array Value) (w : World), (Instr.makeFunc fn first cap).run Tryz.prog w = .ok (.func fn first cap) w := fun _ _ _ _ => rfl
 unfold ndV
 go_enter Tryz.func68, Tryz.ntmps68
 go_wp2_with fail
 go_ret
 exact ⟨rfl, rfl⟩
theorem behind1_any {L : List (List Sg)} {N N0 lp : Nat} {tv : Value} {y : Lay} {W0 : World} {J : TkX} {P : List Sg → Prop} (hT : Tri W0 N tv (Nd L) (nmL L) y) (hN0 : W0.heap.size = N0) (hJ : TkXOk N0 W0 J) (RH : RndX lp y P J) (hL : ∀ x ∈ L, x.length ≤ 1000) (u : List Sg) (hu : Nd L u) (hP : ∀ x, Bh L u x → P x) (B : Nat) (f : Nat → Prop) (W : World) (hj : J [] f W) (hB : Blk W B #[ndV y u] 83) :
  Calls Tryz.prog 83 #[.func (.yield lp) #[] #[], .pointer (some ⟨B, 0, none⟩)] W fun e W' => (∃ v, e = .returned v) ∧ PsPost L u 1 J [] f W W' := by
 have HCL := hide (past_any hT hN0 hJ RH 1000 1 u (fun x hx => by have := hL x hx; omega) hu (by omega) 1 [] f W (Nat.le_refl _) hj (fun z hz => by cases hz) (fun z hz => by cases hz) (fun x hx hv => hP x ⟨hx, hv⟩))
 have c0 := hB.c0
 clear hT hN0 hJ RH hL hu hP hj hB
 unfold ndV at *
 go_enter Tryz.func83, Tryz.ntmps83
 go_wp2_with fail
 refine HCL.out.mono ?_
 rintro e w1 ⟨rfl, h1⟩
 have H := hide h1
 clear h1
 go_wp2_with fail
 go_end0
 exact ⟨⟨_, rfl⟩, H.out⟩
attribute [local go_sem] Oper.semAt_some
theorem nodup_len {l : List Nat} {N : Nat} (h : l.Nodup) (hl : ∀ n ∈ l, n < N) : l.length ≤ N := by
 have h1 : l.Perm ((List.range N).filter fun n => decide (n ∈ l)) := by
  refine (List.perm_ext_iff_of_nodup h (List.Pairwise.filter _ List.nodup_range)).2 fun n => ?_
  rw [List.mem_filter, List.mem_range]
  simp only [decide_eq_true_eq]
  exact ⟨fun hn => ⟨hl n hn, hn⟩, fun hn => hn.2⟩
 have h2 := List.length_filter_le (fun n => decide (n ∈ l)) (List.range N)
 rw [List.length_range] at h2
 rw [h1.length_eq]
 exact h2
def DisjS (L : List (List Sg)) (k : Nat) (u : List Sg) (ts : List Tm) (ns : List Nat) : Prop := ns.Nodup ∧ ∀ n ∈ ns, n < L.length ∧ ¬ ∃ v, L[n]? = some (u ++ v) ∧ Rch k ts v
theorem DisjS.add {L : List (List Sg)} {k : Nat} {u : List Sg} {ts : List Tm} {ns g : List Nat} (h : DisjS L k u ts ns) (hg : SrP L k u ts g) : (ns ++ g).Nodup ∧ ∀ n ∈ ns ++ g, n < L.length := by
 refine ⟨?_, fun n hn => ?_⟩
 ·rw [List.nodup_append]
  refine ⟨h.1, hg.1, fun a ha b hb e => ?_⟩
  subst e
  exact (h.2 a ha).2 ((hg.2 a).1 hb)
 ·rcases List.mem_append.1 hn with hn | hn
  ·exact (h.2 n hn).1
  ·obtain ⟨v, hv, _⟩ := (hg.2 n).1 hn
   exact (List.getElem?_eq_some_iff.1 hv).1
theorem DisjS.len {L : List (List Sg)} {k : Nat} {u : List Sg} {ts : List Tm} {ns g : List Nat} (h : DisjS L k u ts ns) (hg : SrP L k u ts g) : (ns ++ g).length ≤ L.length := nodup_len (h.add hg).1 (h.add hg).2
theorem DisjS.var {L : List (List Sg)} {k : Nat} {u : List Sg} {s : ByteArray} {l r : List Tm} {ns : List Nat} (h : DisjS L k u (⟨s, l⟩ :: r) ns) (h0 : ¬ (varB s = true ∧ k ≠ 0)) (hk : k ≠ 1) : DisjS L k (u ++ [vsg]) r ns :=
 ⟨h.1, fun n hn => ⟨(h.2 n hn).1, fun ⟨v, hv, hr⟩ => (h.2 n hn).2 ⟨vsg :: v, by simpa using hv, (rch_else h0).2 (Or.inl ⟨hk, v, hr, rfl⟩)⟩⟩⟩
theorem DisjS.sym {L : List (List Sg)} {k : Nat} {u : List Sg} {s : ByteArray} {l r : List Tm} {ns g1 : List Nat} (h : DisjS L k u (⟨s, l⟩ :: r) ns) (h0 : ¬ (varB s = true ∧ k ≠ 0)) (hs : s ≠ ⟨#[]⟩) (hv : varB s = false) (h1 : if k = 1 then g1 = [] else SrP L k (u ++ [vsg]) r g1) : DisjS L k (u ++ [(s, l.length)]) (l ++ r) (ns ++ g1) := by
 have m1 : ∀ n ∈ g1, k ≠ 1 ∧ ∃ v, L[n]? = some (u ++ [vsg] ++ v) ∧ Rch k r v := fun n hn => by
  split at h1
  ·rw [h1] at hn; cases hn
  ·rename_i hk; exact ⟨hk, (h1.2 n).1 hn⟩
 refine ⟨?_, fun n hn => ?_⟩
 ·rw [List.nodup_append]
  refine ⟨h.1, ?_, fun a ha b hb e => ?_⟩
  ·split at h1
   ·rw [h1]; exact List.nodup_nil
   ·exact h1.1
  ·subst e
   obtain ⟨hk, v, hv1, hr⟩ := m1 a hb
   exact (h.2 a ha).2 ⟨vsg :: v, by simpa using hv1, (rch_else h0).2 (Or.inl ⟨hk, v, hr, rfl⟩)⟩
 ·rcases List.mem_append.1 hn with hn | hn
  ·exact ⟨(h.2 n hn).1, fun ⟨v, hv1, hr⟩ => (h.2 n hn).2 ⟨(s, l.length) :: v, by simpa using hv1, (rch_else h0).2 (Or.inr ⟨hv, v, hr, rfl⟩)⟩⟩
  ·obtain ⟨hk, v, hv1, hr⟩ := m1 n hn
   refine ⟨(List.getElem?_eq_some_iff.1 hv1).1, fun ⟨v2, hv2, _⟩ => ?_⟩
   rw [hv1] at hv2
   have e3 := Option.some.inj hv2
   simp only [List.append_assoc, List.append_cancel_left_eq, List.cons_append, List.nil_append, List.cons.injEq] at e3
   exact hs (congrArg Prod.fst e3.1).symm
theorem DisjS.past {L : List (List Sg)} {k : Nat} {u : List Sg} {s : ByteArray} {l r : List Tm} {ns g : List Nat} {vs : List (List Sg)} {x : List Sg} (h : DisjS L k u (⟨s, l⟩ :: r) ns) (hv : varB s = true) (hk : k ≠ 0) (hg : SrG L k r vs g) (hvs : ∀ z ∈ vs, Bh L u z) (hx : Bh L u x) (hn : x ∉ vs) : DisjS L k x r (ns ++ g) := by
 obtain ⟨_, x1, mx, ex⟩ := hx
 have m1 : ∀ n ∈ g, ∃ z ∈ vs, ∃ v, L[n]? = some (z ++ v) ∧ Rch k r v := fun n hn => (hg.2 n).1 hn
 have in_past : ∀ (n : Nat) (z : List Sg), Bh L u z → ∀ v, L[n]? = some (z ++ v) → Rch k r v → ∃ v, L[n]? = some (u ++ v) ∧ Rch k (⟨s, l⟩ :: r) v := fun n z hz v hv1 hr => by
  obtain ⟨_, z1, mz, rfl⟩ := hz
  exact ⟨z1 ++ v, by rw [← List.append_assoc]; exact hv1, (rch_past hv hk).2 ⟨z1, v, mz, hr, rfl⟩⟩
 refine ⟨?_, fun n hn2 => ?_⟩
 ·rw [List.nodup_append]
  refine ⟨h.1, hg.1, fun a ha b hb e => ?_⟩
  subst e
  obtain ⟨z, hz, v, hv1, hr⟩ := m1 a hb
  exact (h.2 a ha).2 (in_past a z (hvs z hz) v hv1 hr)
 ·rcases List.mem_append.1 hn2 with hn2 | hn2
  ·exact ⟨(h.2 n hn2).1, fun ⟨v, hv1, hr⟩ => (h.2 n hn2).2 ⟨x1 ++ v, by rw [← List.append_assoc, ← ex]; exact hv1, (rch_past hv hk).2 ⟨x1, v, mx, hr, rfl⟩⟩⟩
  ·obtain ⟨z, hz, v, hv1, hr⟩ := m1 n hn2
   refine ⟨(List.getElem?_eq_some_iff.1 hv1).1, fun ⟨v2, hv2, _⟩ => ?_⟩
   obtain ⟨_, z1, mz, ez⟩ := hvs z hz
   rw [hv1, ez, ex] at hv2
   have e3 := Option.some.inj hv2
   rw [List.append_assoc, List.append_assoc, List.append_cancel_left_eq] at e3
   have e4 := (many_free mz mx e3).1
   exact hn (by rw [ex, ← e4, ← ez]; exact hz)
structure SrS (W0 : World) (N0 Bs g cap : Nat) (kk : Nat) (sp : List (Sg × Nat)) (ns : List Nat) (nv : Value) (W : World) : Prop where
 old : Below N0 W0 W
 box : Blk W Bs #[.int .i64 (kk : Int), .slice (some ⟨g, 0, none⟩) sp.length cap, nv] 90
 row : W.ownsRow N0 3 1 nv ns.length (nuV ns)
 spo : W.ownsRow N0 87 3 (.slice (some ⟨g, 0, none⟩) sp.length cap) sp.length (spX sp)
theorem SrS.own_ne {W0 : World} {N0 Bs g cap : Nat} {kk : Nat} {sp : List (Sg × Nat)} {ns : List Nat} {nv : Value} {W : World} (h : SrS W0 N0 Bs g cap kk sp ns nv W) : nv.ownBlock ≠ some Bs := fun e => by
 have hb := h.box
 unfold Blk at hb
 rcases h.row.2 with ⟨h2, _⟩ | ⟨g', cap', cur, h2, _, hg, _⟩
 ·rw [h2] at e; cases e
 ·rw [h2] at e
  have e2 : g' = Bs := by simpa [Value.ownBlock] using e
  subst e2
  rw [hg] at hb; injection hb with h3; injection h3 with h4 h5; exact absurd h5 (by decide)
theorem SrS.spot {W0 : World} {N0 Bs g cap : Nat} {kk : Nat} {sp : List (Sg × Nat)} {ns : List Nat} {nv : Value} {W : World} (h : SrS W0 N0 Bs g cap kk sp ns nv W) {i : Nat} {p : Sg × Nat} (hp : sp[i]? = some p) : W.cell? ⟨g, i * 3, none⟩ = some (.string p.1.1) ∧ W.cell? ⟨g, i * 3 + 1, none⟩ = some (.int .i64 (p.1.2 : Int)) ∧ W.cell? ⟨g, i * 3 + 2, none⟩ = some (.int .i64 (p.2 : Int)) := by
 have hi := (List.getElem?_eq_some_iff.1 hp).1
 obtain ⟨e1, e2, e3⟩ := spX_get hp
 exact ⟨by rw [h.spo.cellAt _ (by omega)]; exact e1, by rw [h.spo.cellAt _ (by omega)]; exact e2, by rw [h.spo.cellAt _ (by omega)]; exact e3⟩
theorem SrS.gob {W0 : World} {N0 Bs g cap : Nat} {kk : Nat} {sp : List (Sg × Nat)} {ns : List Nat} {nv : Value} {W : World} (h : SrS W0 N0 Bs g cap kk sp ns nv W) : ∃ cs, Blk W g cs 87 := by
 rcases h.spo.2 with ⟨h2, _⟩ | ⟨g', cap', cur, h2, _, hg, _⟩
 ·cases h2
 ·simp only [Value.slice.injEq, Option.some.injEq, Addr.mk.injEq, and_true, true_and] at h2
  obtain ⟨rfl, rfl⟩ := h2
  exact ⟨cur, hg⟩
theorem own_blk {W : World} {N0 n b T : Nat} {nv : Value} {xs : List Value} {cs : Array Value} (h : W.ownsRow N0 3 1 nv n xs) (hT : 3 ≠ T) (hl : Blk W b cs T) : nv.ownBlock ≠ some b := fun e => by
 rcases h.2 with ⟨h2, _⟩ | ⟨g', cap', cur, h2, _, hg, _⟩
 ·rw [h2] at e; cases e
 ·rw [h2] at e
  have e2 : g' = b := by simpa [Value.ownBlock] using e
  subst e2
  unfold Blk at hl
  rw [hg] at hl; injection hl with h3; injection h3 with h4 h5; exact absurd h5 hT
theorem SrS.gne {W0 : World} {N0 Bs g cap : Nat} {kk : Nat} {sp : List (Sg × Nat)} {ns : List Nat} {nv : Value} {W : World} (h : SrS W0 N0 Bs g cap kk sp ns nv W) : g ≠ Bs ∧ nv.ownBlock ≠ some g := by
 obtain ⟨cs, hg⟩ := h.gob
 refine ⟨fun e => ?_, own_blk h.row (by decide) hg⟩
 have hb := h.box
 unfold Blk at hb hg
 rw [e, hb] at hg
 injection hg with h3; injection h3 with h4 h5; exact absurd h5 (by decide)
theorem own_g {g n c b : Nat} (h : (Value.slice (some ⟨g, 0, none⟩) n c).ownBlock = some b) : g = b := by simpa [Value.ownBlock] using h
theorem SrS.ex {W0 : World} {N0 Bs g cap : Nat} {kk : Nat} {sp : List (Sg × Nat)} {ns : List Nat} {nv : Value} {W W' : World} {Q : Nat → Prop} (h : SrS W0 N0 Bs g cap kk sp ns nv W) (hz : N0 ≤ W.heap.size) (he : ExQ Q W W') (h1 : ¬ Q Bs) (h2 : ∀ b, nv.ownBlock = some b → ¬ Q b) (h3 : ∀ b, Q b → N0 ≤ b) (h4 : ¬ Q g) : SrS W0 N0 Bs g cap kk sp ns nv W' :=
 ⟨h.old.trans (he.below hz h3), h.box.exq he h1, ownsRow_at h.row fun b hb => he.block b (h.row.lt b hb).2 (h2 b hb), ownsRow_at h.spo fun b hb => he.block b (h.spo.lt b hb).2 (own_g hb ▸ h4)⟩
theorem SrS.later {W0 : World} {N0 Bs g cap : Nat} {kk : Nat} {sp : List (Sg × Nat)} {ns : List Nat} {nv : Value} {W W' : World} (h : SrS W0 N0 Bs g cap kk sp ns nv W) (hz : N0 ≤ W.heap.size) (hb : Below W.heap.size W W') : SrS W0 N0 Bs g cap kk sp ns nv W' :=
 h.ex (Q := fun _ => False) hz (ExQ.ofBelow hb) (fun h => h) (fun _ _ h => h) (fun _ h => h.elim) (fun h => h)
structure Ctx (W0 : World) (N N0 Bs g cap M : Nat) (tv : Value) (L : List (List Sg)) (y : Lay) (sp : List (Sg × Nat)) : Prop where
 tri : Tri W0 N tv (Nd L) (nmL L) y
 size : W0.heap.size = N0
 here : N0 ≤ Bs
 gat : N0 ≤ g
 len : ∀ x ∈ L, x.length ≤ 1000
 few : L.length ≤ 100000
 ok : ∀ s ∈ sp, SgOk s.1
 short : sp.length ≤ 100000
theorem Ctx.nd {W0 : World} {N N0 Bs g cap M : Nat} {tv : Value} {L : List (List Sg)} {y : Lay} {sp : List (Sg × Nat)} (h : Ctx W0 N N0 Bs g cap M tv L y sp) {W : World} (hb : Below N0 W0 W) {u : List Sg} (hu : Nd L u) : NdB W u (y.ad u) tv (.map (y.mp u)) (y.nv u) :=
 (h.tri.node hu).kept (hb.block _ (by have := (h.tri.node hu).lt; have := h.size; omega))
theorem Ctx.nums {W0 : World} {N N0 Bs g cap M : Nat} {tv : Value} {L : List (List Sg)} {y : Lay} {sp : List (Sg × Nat)} (h : Ctx W0 N N0 Bs g cap M tv L y sp) {W : World} (hb : Below N0 W0 W) {u : List Sg} (hu : Nd L u) : W.ownsRow N 3 1 (y.nv u) (nmL L u).length (nuV (nmL L u)) :=
 ownsRow_at (h.tri.nums hu) fun b hv => hb.block b (by have := ((h.tri.nums hu).lt b hv).2; have := h.size; omega)
theorem Ctx.look {W0 : World} {N N0 Bs g cap M : Nat} {tv : Value} {L : List (List Sg)} {y : Lay} {sp : List (Sg × Nat)} (h : Ctx W0 N N0 Bs g cap M tv L y sp) {u : List Sg} (hu : Nd L u) (s : Sg) (hs : SgOk s) :
  ∃ R, ((Nd L (u ++ [s]) ∧ R = .pointer (some ⟨y.ad (u ++ [s]), 0, none⟩)) ∨ (¬ Nd L (u ++ [s]) ∧ R = .pointer none)) ∧ ∀ W, Below N0 W0 W → (Instr.lookup 55 (.map (y.mp u)) (sgV s) false).run Tryz.prog W = .ok R W := by
 cases hm : y.mp u with
 | none => exact ⟨.pointer none, Or.inr ⟨h.tri.leaf hu hm s, rfl⟩, fun W _ => run_lookN s hs⟩
 | some b =>
  obtain ⟨E, hE, hn, hi⟩ := h.tri.kids hu hm
  have hb : b < N0 := by have := hE.lt; have := h.size; omega
  by_cases hc : Nd L (u ++ [s])
  ·exact ⟨_, Or.inl ⟨hc, rfl⟩, fun W hW => look_in (hE.kept (hW.block b hb)) hn hs ((hi _ _).2 ⟨hc, rfl⟩)⟩
  ·exact ⟨_, Or.inr ⟨hc, rfl⟩, fun W hW => look_out (hE.kept (hW.block b hb)) hs fun v hv => hc ((hi _ _).1 hv).1⟩
def WkPost (W0 : World) (N0 Bs g cap : Nat) (k : Nat) (L : List (List Sg)) (sp : List (Sg × Nat)) (u : List Sg) (ts : List Tm) (ns : List Nat) (nv : Value) (W : World) (W' : World) : Prop :=
 ∃ gs nv', SrP L k u ts gs ∧ SrS W0 N0 Bs g cap k sp (ns ++ gs) nv' W' ∧ ExQ (fun b => b = Bs ∨ nv.ownBlock = some b) W W' ∧ ∀ b, nv'.ownBlock = some b → nv.ownBlock = some b ∨ W.heap.size ≤ b
def WkC (W0 : World) (N0 Bs g cap : Nat) (k : Nat) (L : List (List Sg)) (y : Lay) (sp : List (Sg × Nat)) (ts : List Tm) : Prop :=
 ∀ (a : Nat) (u : List Sg) (ns : List Nat) (nv : Value) (W : World), SpAt sp a ts → Nd L u → DisjS L k u ts ns → SrS W0 N0 Bs g cap k sp ns nv W → N0 ≤ W.heap.size →
  Calls Tryz.prog 45 #[.pointer (some ⟨Bs, 0, none⟩), ndV y u, .int .i64 (a : Int)] W fun e W' => e = .returned (.tuple #[]) ∧ WkPost W0 N0 Bs g cap k L sp u ts ns nv W W'
theorem WkPost.frame {W0 : World} {N0 Bs g cap k : Nat} {L : List (List Sg)} {sp : List (Sg × Nat)} {u : List Sg} {ts : List Tm} {ns : List Nat} {nv : Value} {W W1 W' : World} (hb : Below W.heap.size W W1) (h : WkPost W0 N0 Bs g cap k L sp u ts ns nv W1 W') : WkPost W0 N0 Bs g cap k L sp u ts ns nv W W' := by
 obtain ⟨gs, nv', h1, h2, h3, h4⟩ := h
 refine ⟨gs, nv', h1, h2, (ExQ.ofBelow hb).transN h3 fun i hi _ => hi, fun b hv => ?_⟩
 rcases h4 b hv with h | h
 ·exact Or.inl h
 ·exact Or.inr (Nat.le_trans hb.size h)
theorem app_nums {W : World} {N N0 : Nat} {v : Value} {ns ms : List Nat} {mv : Value} (ho : W.ownsRow N0 3 1 v ns.length (nuV ns)) (hz : N0 ≤ W.heap.size) (hm : W.ownsRow N 3 1 mv ms.length (nuV ms)) (hs : ns.length + ms.length ≤ 1000000) :
  ∃ v' W', (Builtin.append_ #[22, 22] 22 #[v, mv]).run Tryz.prog W = .ok v' W' ∧ W'.ownsRow N0 3 1 v' (ns ++ ms).length (nuV (ns ++ ms)) ∧ W.grownBy W' v.ownBlock ∧ (∀ b, v'.ownBlock = some b → v.ownBlock = some b ∨ W.heap.size ≤ b) ∧ ∃ a c, v' = .slice a (ns ++ ms).length c := by
 obtain ⟨i0, hi, hz0, hz1, hz2⟩ := info_parts Tryz.infoIntI
 have e : nuV (ns ++ ms) = nuV ns ++ nuV ms := by simp [nuV]
 by_cases h0 : ms = []
 ·subst h0
  rw [List.append_nil]
  rcases hm.2 with ⟨rfl, _⟩ | ⟨g, cap, cur, rfl, hb, hg, hnc, hcm, hcs, htk⟩
  ·obtain ⟨a, c, hv⟩ := own_sliceI ho
   exact ⟨v, W, run_append_owned_none W N0 22 22 3 i0 1 Tryz.underlying22 hi v ns.length (nuV ns) ho, ho, ⟨rfl, rfl, rfl, Nat.le_refl _, fun _ _ _ => rfl⟩, fun b hb => Or.inl hb, a, c, hv⟩
  ·obtain ⟨v', W', h1, h2, h3, _, h5⟩ := run_append_own_at (P := Tryz.prog) W N0 22 22 3 i0 _ 1 8 Tryz.underlying22 hi hz0 hz1 hz2 rfl (by decide) v ns.length (nuV ns) ho ⟨g, 0, none⟩ 0 cap [] rfl (fun j u hj => by simp at hj) (by simp) (by unfold maxLen; omega) (by omega) hz
   rw [List.append_nil, Nat.add_zero] at h2
   obtain ⟨a, c, hv⟩ := own_sliceI h2
   refine ⟨v', W', h1, h2, h3, fun b hb => ?_, a, c, hv⟩
   rcases h5 with h5 | h5
   ·rw [h5] at hb; exact Or.inl hb
   ·rw [h5] at hb; exact Or.inr (by rw [← Option.some.inj hb]; exact Nat.le_refl _)
 ·have hpos : 0 < ms.length := List.length_pos_iff.2 h0
  obtain ⟨g, cap, rfl, _, _⟩ := hm.form hpos
  obtain ⟨g', cap', W', h1, h2, h3, h4, _⟩ := run_append_lies (P := Tryz.prog) W 22 22 N0 3 i0 _ 1 8 Tryz.underlying22 hi hz0 hz1 hz2 rfl (by decide) v ns.length (nuV ns) ho ⟨g, 0, none⟩ ms.length cap (nuV ms) (by rw [nuV_length, Nat.mul_one]) (hm.cells (g := g) rfl) (fun x hx => by simp [nuV] at hx; obtain ⟨n, _, rfl⟩ := hx; rfl) hpos (by unfold maxLen; omega) (by omega) hz _ rfl
  refine ⟨_, W', h1, by rw [e, List.length_append]; exact h2, h3, fun b hb => ?_, some ⟨g', 0, none⟩, cap', by rw [List.length_append]⟩
  have e2 : g' = b := by simpa [Value.ownBlock] using hb
  subst e2
  rcases h4 with h4 | h4
  ·exact Or.inl h4
  ·exact Or.inr (by rw [h4]; exact Nat.le_refl _)
open Go.RowKit
theorem step_append_eqX {P : Program} {ops : Array Oper} {o : Oper} {a : Act} {K : Act → World → Prop} {Q : Exit → Act → World → Prop} {E : Prop} {w w' : World} {v u v' : Value} (hgd : o.guard = none) (s x : Operand) (t t' : TypeId)
  (ho : o.op = .call { callee := .builtin .append, args := #[s, x], argTypes := #[t, t'] }) (hs : a.eval s = v) (hx : a.eval x = u)
  (hr : (Builtin.append_ #[t, t'] o.type #[v, u]).run P w = .ok v' w') (h : K (a.put o.dst v') w') : if Region.wanted o (yielded ops a.tmps) = true then Oper.wp P o a w K Q else E := by
 have hw : Region.wanted o (yielded ops a.tmps) = true := by simp [Region.wanted, hgd]
 rw [if_pos hw]
 unfold Oper.wp execOp
 simp only [ho, resolve, invoke, builtin, Sem.run_bind, Sem.run_pure, Result.andThen_ok, List.map_toArray, List.map_cons, List.map_nil, hs, hx, hr]
 exact h
theorem term_apart {w : World} {N b : Nat} {tv : Value} {A : List Sg → Prop} {nm : List Sg → List Nat} {y : Lay} {cs : Array Value} (h : Tri w N tv A nm y) (hb : Blk w b cs 26) : ¬ OwnT A y b := by
 unfold Blk at hb
 rintro ⟨u, hu, h1 | h1 | h1⟩
 ·have h2 := h.node hu
  rw [h1] at h2
  unfold NdB Blk at h2
  split at h2
  ·rw [hb] at h2; injection h2 with h3; injection h3 with h4 h5; exact absurd h5 (by decide)
  ·rw [hb] at h2; injection h2 with h3; injection h3 with h4 h5; exact absurd h5 (by decide)
 ·obtain ⟨E, hE, _⟩ := h.kids hu h1
  obtain ⟨es, clk, h2, _⟩ := hE
  rw [hb] at h2; cases h2
 ·rcases (h.nums hu).2 with ⟨h2, _⟩ | ⟨g, cap, cur, h2, _, hg, _⟩
  ·rw [h2] at h1; cases h1
  ·rw [h2] at h1
   have e : g = b := by simpa [Value.ownBlock] using h1
   subst e
   rw [hg] at hb; injection hb with h3; injection h3 with h4 h5; exact absurd h5 (by decide)
theorem ne3 {N X QB g k : Nat} {l : List Tm} {w2 w7 : World} {y : Lay} {tv : Value} {Z : Nat → Prop} (hS : NwS N X (l.take k) (l.take k) w2 y tv Z) (hX : X < w2.heap.size) (hQ : QB < w2.heap.size) (hF : ∀ b, tv.ownBlock = some b → b < QB) (hQX : QB ≠ X) (hz : w2.heap.size ≤ w7.heap.size) (hat : tv.ownBlock = some g ∨ g = w7.heap.size) : X ≠ g ∧ QB ≠ g ∧ QB ≠ X := by
 refine ⟨fun e => ?_, fun e => ?_, hQX⟩
 ·rcases hat with h | h
  ·exact hS.own g h ⟨[], hS.tri.root, Or.inl (hS.here.trans e)⟩
  ·omega
 ·rcases hat with h | h
  ·have := hF g h; omega
  ·omega
def NwM (l : List Tm) (k X QB : Nat) (a' : Option Addr) (c' : Nat) (h : k < l.length) (w wc : World) : Prop :=
 (∃ y tv Z, NwS w.heap.size X (l.take k) (l.take (k + 1)) wc y tv Z) ∧ Below w.heap.size w wc ∧ Blk wc QB #[.string l[k].name, .slice a' l[k].args.length c'] 26
theorem nw_mid {l : List Tm} {k X QB c' : Nat} {a' : Option Addr} {w w2 wz : World} {y : Lay} {tv tv' : Value} {Z Z' : Nat → Prop} (h : k < l.length) (hk : (l.take k).length = k)
  (hp : NwS w.heap.size X (l.take k) (l.take k ++ [l[k]]) wz y tv' Z' ∧ ExQ (fun b => b = X ∨ tv.ownBlock = some b) w2 wz) (hb : Below w.heap.size w w2) (hX : w.heap.size ≤ X) (hS : NwS w.heap.size X (l.take k) (l.take k) w2 y tv Z)
  (hQ : Blk w2 QB #[.string l[k].name, .slice a' l[k].args.length c'] 26) (hF : ∀ b, tv.ownBlock = some b → b < QB) (hQX : QB ≠ X) : NwM l k X QB a' c' h w wz := by
 refine ⟨⟨y, tv', Z', ?_⟩, hb.trans (hp.2.below hb.size fun b hq => ?_), hQ.exq hp.2 ?_⟩
 ·rw [List.take_succ_eq_append_getElem h]; exact hp.1
 ·rcases hq with rfl | hq
  ·exact hX
  ·obtain ⟨xs, hr⟩ := hS.row; exact (hr.own.lt b hq).1
 ·rintro (e | e)
  ·exact hQX e
  ·have := hF QB e; omega
def NwC (l : List Tm) (w : World) (i : Value) (wr : World) : Prop := ∃ k : Nat, k ≤ l.length ∧ i = .int .i64 (k : Int) ∧ rowTE (l.take k) = 0 ∧ Below w.heap.size w wr
def NwI (l : List Tm) (X : Nat) (w : World) (i : Value) (wr : World) : Prop := ∃ (k : Nat) (y : Lay) (tv : Value) (Z : Nat → Prop), k ≤ l.length ∧ i = .int .i64 (k : Int) ∧ NwS w.heap.size X (l.take k) (l.take k) wr y tv Z ∧ Below w.heap.size w wr
theorem nw_start (w : World) (N : Nat) (hN : N ≤ w.heap.size) : NwS N w.heap.size [] [] (w.alloc (.cells #[.slice none 0 0, .map none, .slice none 0 0] 59)) ⟨fun _ => w.heap.size, fun _ => none, fun _ => .slice none 0 0⟩ (.slice none 0 0) (fun _ => False) := by
 have hA : ∀ u, Nd (wsL []) u → u = [] := fun u hu => by
  rcases hu with h | ⟨x, hx, _⟩
  ·exact h
  ·simp [wsL] at hx
 refine ⟨⟨Nd.nil _, fun hu => by have := hA _ hu; simp at this, fun {u} hu => ?_, fun hu hv _ => by rw [hA _ hu, hA _ hv], fun hu _ s hs => by have := hA _ hs; simp at this, (fun hu e => by cases e), (fun hu hv e => by cases e), fun {u} hu => ?_, (fun hu hv e => by cases e)⟩, rfl, ⟨[], RowX.start _ _ _⟩, fun b hb => hb.elim, (fun b hb => by cases hb), fun b hb => ?_⟩
 rotate_left
 rotate_left
 ·obtain ⟨u, hu, h1 | h1 | h1⟩ := hb
  ·rw [← h1]; exact hN
  ·cases h1
  ·cases h1
 ·rw [hA _ hu]
  unfold NdB
  rw [if_pos rfl]
  exact Blk.new _ _ _
 ·rw [show nmL (wsL []) u = [] from nmL_nil u]
  exact World.ownsRow_nil _ _ _ _
set_option maxHeartbeats 4000000 in
theorem new_any (l : List Tm) (a : Option Addr) (c : Nat) (w : World) (Xs0 : Nat → Prop) (hs0 : Sl w Xs0 a l) :
  Calls Tryz.prog 9 #[.slice a l.length c] w fun e w' => NwPost l w e w' := by
 obtain ⟨Xs, hXs, hs⟩ : ∃ Xs : Nat → Prop, (∀ b, Xs b → b < w.heap.size) ∧ Sl w Xs a l := ⟨fun b => Xs0 b ∧ b < w.heap.size, fun _ h => h.2, hs0.mono fun b h1 h2 => ⟨h1, h2⟩⟩
 have hll := hs.1
 have HS := hide hs
 clear hs hs0
 by_cases h40 : 40 < l.length
 ·have h40i : (40 : Int) < (l.length : Int) := by omega
  have HE : Hid (newE l = 3) := by unfold Hid newE; rw [if_pos h40]
  clear h40
  go_enter Tryz.func9, Tryz.ntmps9
  go_wp2_with fail
  refine bodyPost_ret (v := .tuple #[.pointer none, .int .i64 3]) (by simp [results, Tryz.results9, go_sem]) rfl ?_
  exact ⟨Below.refl _ _, Or.inl ⟨by rw [HE.out]; decide, by rw [HE.out]⟩⟩
 have h40i : ¬ (40 : Int) < (l.length : Int) := by omega
 have HE : Hid (newE l = rowTE l) := by unfold Hid newE; rw [if_neg h40]
 go_enter Tryz.func9, Tryz.ntmps9
 go_wp2_with fail
 go_loopw [15] (fun i wr => NwC l w i wr) (fun i wr => l.length - (intOf i).toNat)
 case atStart => exact ⟨0, Nat.zero_le _, rfl, by simp [rowTE], Below.refl _ _⟩
 case round =>
  obtain ⟨k, hk, rfl, hz, hb⟩ := hrel
  have HB := hide hb
  have HZ := hide hz
  clear hz hb
  by_cases hlt : k < l.length
  ·obtain ⟨b, o, a', c', rfl, d0, d1, hx⟩ := HS.out.get HB.out (fun _ _ h => h) k hlt
   have hki : (k : Int) < (l.length : Int) := by omega
   have HTV : Hid (TV (wr.alloc (.cells #[.string l[k].name, .slice a' l[k].args.length c'] 26)) Xs (.agg #[.string l[k].name, .slice a' l[k].args.length c']) l[k]) := by
    have h1 : TV wr Xs (.agg #[.string l[k].name, .slice a' l[k].args.length c']) l[k] := hx
    exact h1.alloc _
   have HB1 : Hid (Below w.heap.size w (wr.alloc (.cells #[.string l[k].name, .slice a' l[k].args.length c'] 26))) := HB.out.alloc HB.out.size _
   clear hx
   go_wp2_with fail
   refine (check_any l[k] _ _ Xs HTV.out).mono ?_
   rintro e w3 ⟨rfl, hb3⟩
   have HB3 := hide (HB1.out.trans (hb3.mono HB1.out.size))
   clear hb3 HTV HB1
   by_cases h0 : mayE l[k] = 0
   ·have HT := hide (rowTE_take hlt HZ.out)
    rw [h0] at HT ⊢
    go_wp2_with fail
    go_roundw
    case rel => exact ⟨k + 1, hlt, by go_num, HT.out, HB3.out⟩
    case measure => simp [intOf]; omega
   ·have hb0 : (mayE l[k] == 0) = false := beq_eq_false_iff_ne.2 h0
    have hn0 : (mayE l[k] != 0) = true := by simp [bne, hb0]
    have HF := hide (rowTE_first hlt HZ.out h0)
    have H0 := hide h0
    clear h0
    go_wp2_with fail
    refine bodyPost_ret (v := .tuple #[.pointer none, .int .i64 (mayE l[k])]) (by simp [results, Tryz.results9, go_sem]) rfl ?_
    exact ⟨HB3.out, Or.inl ⟨by rw [HE.out, HF.out]; exact H0.out, by rw [HE.out, HF.out]⟩⟩
  ·have hki : ¬ (k : Int) < (l.length : Int) := by omega
   have htk : l.take k = l := List.take_of_length_le (by omega)
   rw [htk] at HZ
   clear htk hk
   have HS0 := hide (nw_start wr w.heap.size HB.out.size)
   have HBX : Hid (Below w.heap.size w (wr.alloc (.cells #[.slice none 0 0, .map none, .slice none 0 0] 59))) := HB.out.alloc HB.out.size _
   obtain ⟨X, hX⟩ : ∃ X, X = wr.heap.size := ⟨_, rfl⟩
   rw [← hX] at HS0
   have HXN : Hid (w.heap.size ≤ X) := by rw [hX]; exact HB.out.size
   go_upto_region 11 with fail
   rw [← hX]
   clear hX
   generalize wr.alloc (.cells #[.slice none 0 0, .map none, .slice none 0 0] 59) = wq at *
   clear HB hlt hki
   go_wp2_with fail
   go_loopw [29] (fun i wr => NwI l X w i wr) (fun i wr => l.length - (intOf i).toNat)
   case atStart => exact ⟨0, _, _, _, Nat.zero_le _, rfl, by simpa using HS0.out, HBX.out⟩
   case round =>
    clear HS0 HBX
    obtain ⟨k, y, tv, Z, hk, rfl, hS, hb⟩ := hrel
    have HB := hide hb
    have HSS := hide hS
    clear hb hS
    by_cases hlt : k < l.length
    ·obtain ⟨b, o, a', c', rfl, d0, d1, hx⟩ := HS.out.get HB.out (fun _ _ h => h) k hlt
     have hki : (k : Int) < (l.length : Int) := by omega
     have hmay := mayE_zero (rowTE_all HZ.out l[k] (List.getElem_mem hlt))
     have hsz := hmay.1
     have HER : Hid (errL [l[k]] = 0) := hmay.2
     clear hmay
     have HTV : Hid (TV (wr.alloc (.cells #[.string l[k].name, .slice a' l[k].args.length c'] 26)) Xs (.agg #[.string l[k].name, .slice a' l[k].args.length c']) l[k]) := by
      have h1 : TV wr Xs (.agg #[.string l[k].name, .slice a' l[k].args.length c']) l[k] := hx
      exact h1.alloc _
     have HB1 : Hid (Below w.heap.size w (wr.alloc (.cells #[.string l[k].name, .slice a' l[k].args.length c'] 26))) := HB.out.alloc HB.out.size _
     have HS1 : Hid (NwS w.heap.size X (l.take k) (l.take k) (wr.alloc (.cells #[.string l[k].name, .slice a' l[k].args.length c'] 26)) y tv Z) := HSS.out.later ((Below.refl _ _).alloc (Nat.le_refl _) _)
     have HQB : Hid (Blk (wr.alloc (.cells #[.string l[k].name, .slice a' l[k].args.length c'] 26)) wr.heap.size #[.string l[k].name, .slice a' l[k].args.length c'] 26) := Blk.new _ _ _
     have HQF : Hid (∀ b, tv.ownBlock = some b → b < wr.heap.size) := fun b hb => by obtain ⟨xs, hr⟩ := HSS.out.row; exact (hr.own.lt b hb).2
     have HKL : Hid ((l.take k).length = k) := by unfold Hid; rw [List.length_take]; omega
     obtain ⟨ta, tc, rfl⟩ : ∃ ta tc, tv = .slice ta k tc := by obtain ⟨xs, hr⟩ := HSS.out.row; have h := hr.shape; rw [HKL.out] at h; exact h
     have HQX : Hid (wr.heap.size ≠ X) := by have := HSS.out.xlt; intro e; omega
     have HTW : Hid (TV w Xs (.agg #[.string l[k].name, .slice a' l[k].args.length c']) l[k]) := by
      have h1 : TV wr Xs (.agg #[.string l[k].name, .slice a' l[k].args.length c']) l[k] := hx
      obtain ⟨a9, c9, e9, h2⟩ := h1
      exact ⟨a9, c9, e9, h2.back HB.out hXs⟩
     clear hx HSS
     go_upto_region 14 with fail
     clear d0 d1
     generalize wr.heap.size = QB at *
     generalize wr.alloc (.cells #[.string l[k].name, .slice a' l[k].args.length c'] 26) = w1 at *
     go_cut [42] (fun v wc => NwM l k X QB a' c' hlt w wc)
     case first =>
      refine wp_region_held_drew (S := fun w' => w'.cell? ⟨QB, 0, none⟩ = some (.string l[k].name) ∧ w'.cell? ⟨QB, 1, none⟩ = some (.slice a' l[k].args.length c')) (by kernel_rfl) (by exact ⟨HQB.out.c0, HQB.out.c1⟩) (fun hHeld => ?_)
      have HS2 : Hid (NwS w.heap.size X (l.take k) (l.take k) w1.drew y (.slice ta k tc) Z) := HS1.out.later ((Below.refl _ _).drew)
      have HQ2 : Hid (Blk w1.drew QB #[.string l[k].name, .slice a' l[k].args.length c'] 26) := HQB.out
      have HTV2 : Hid (TV w1.drew Xs (.agg #[.string l[k].name, .slice a' l[k].args.length c']) l[k]) := HTV.out.later (Below.refl _ _).drew
      have HB2 : Hid (Below w.heap.size w w1.drew) := HB1.out.drew
      have HXL : Hid (X < w1.drew.heap.size) := HS2.out.xlt
      have HQL : Hid (QB < w1.drew.heap.size) := HQ2.out.lt
      generalize w1.drew = w2 at *
      have HB0 : Hid (Below w2.heap.size w2 w2) := Below.refl _ _
      clear HS1 HQB HTV HB1
      refine tkq (v := ?_) 0 rfl ?_ ?_
      rotate_left
      ·intro w' hSw
       obtain ⟨x0, x1⟩ := hSw
       go_simp <;> with_reducible rfl
      try simp only [Act.put, sq]
      refine tkq (v := ?_) 1 rfl ?_ ?_
      rotate_left
      ·intro w' hSw
       obtain ⟨x0, x1⟩ := hSw
       go_simp <;> with_reducible rfl
      try simp only [Act.put, sq]
      refine tkq (v := ?_) 2 rfl ?_ ?_
      rotate_left
      ·intro w' hSw
       obtain ⟨x0, x1⟩ := hSw
       go_simp <;> with_reducible rfl
      try simp only [Act.put, sq]
      refine tkq (v := ?_) 4 rfl ?_ ?_
      rotate_left
      ·intro w' hSw
       obtain ⟨x0, x1⟩ := hSw
       go_simp <;> with_reducible rfl
      try simp only [Act.put, sq]
      refine wpAnyH_ready (rs := [3, 5, 7]) (by kernel_rfl) (by simp) ?_
      refine AllReadyH.cons rfl (fun K hK => ?_) (AllReadyH.cons rfl (fun K hK => ?_) (AllReadyH.cons rfl (fun K hK => ?_) AllReadyH.nil))
      ·have c3 : w2.cell? ⟨X, 0, none⟩ = some (.slice ta k tc) := (HS2.out.blk.below HB0.out HXL.out).c0
       go_simp
       refine hK.out _ _ (by exact ⟨(HQ2.out.below HB0.out HQL.out).c0, (HQ2.out.below HB0.out HQL.out).c1⟩) (fun hHeld => ?_)
       clear hK K
       try simp only [Act.put, sq]
       clear c3
       refine tkq (v := ?_) 6 rfl ?_ ?_
       rotate_left
       ·intro w' hSw
        obtain ⟨x0, x1⟩ := hSw
        go_simp <;> with_reducible rfl
       try simp only [Act.put, sq]
       refine wpAnyH_ready (rs := [5, 7]) (by kernel_rfl) (by simp) ?_
       refine AllReadyH.cons rfl (fun K hK => ?_) (AllReadyH.cons rfl (fun K hK => ?_) AllReadyH.nil)
       ·go_simp
        go_at_call 24
        refine (copyOf_any l[k] _ w2 Xs (HTV2.out.later HB0.out) (by omega)).mono ?_
        rintro e v35 ⟨vv, rfl, ⟨a1, c1, rfl, hs1⟩, hb1⟩
        have HC35 : Hid (Below w2.heap.size w2 v35) := HB0.out.trans (hb1.mono HB0.out.size)
        have HSC : Hid (Sl v35 (fun b => w2.heap.size ≤ b) a1 l[k].args) := hs1.mono fun b hb _ => Nat.le_trans HB0.out.size hb
        clear hs1 hb1
        go_simp
        refine hK.out _ _ (by exact ⟨(HQ2.out.below HC35.out HQL.out).c0, (HQ2.out.below HC35.out HQL.out).c1⟩) (fun hHeld => ?_)
        clear hK K
        try simp only [Act.put, sq]
        refine rdq 7 rfl fun K hK => ?_
        have HBZ0 : Hid (Blk (v35.alloc (.cells #[.string ⟨#[]⟩, .slice none 0 0] 26)) v35.heap.size #[.string ⟨#[]⟩, .slice none 0 0] 26) := Blk.new _ _ _
        have HC357 : Hid (Below w2.heap.size w2 (v35.alloc (.cells #[.string ⟨#[]⟩, .slice none 0 0] 26))) := HC35.out.alloc HC35.out.size _
        have HSA : Hid (Sl (v35.alloc (.cells #[.string ⟨#[]⟩, .slice none 0 0] 26)) (fun b => w2.heap.size ≤ b) a1 l[k].args) := HSC.out.later ((Below.refl _ _).alloc (Nat.le_refl _) _)
        go_simp
        refine hK.out _ _ (by exact ⟨(HQ2.out.below HC357.out HQL.out).c0, (HQ2.out.below HC357.out HQL.out).c1⟩) (fun hHeld => ?_)
        clear hK K
        try simp only [Act.put, sq]
        obtain ⟨v357, hv357⟩ : ∃ z, z = v35.alloc (.cells #[.string ⟨#[]⟩, .slice none 0 0] 26) := ⟨_, rfl⟩
        obtain ⟨BZ, hBZ⟩ : ∃ z, z = v35.heap.size := ⟨_, rfl⟩
        rw [← hv357, ← hBZ] at HBZ0
        rw [← hv357] at HC357
        rw [← hv357] at HSA
        rw [← hv357, ← hBZ]
        clear hv357 hBZ
        have HBZ := HBZ0
        clear HBZ0
        obtain ⟨xs, hrx⟩ := HS2.out.row
        have hr7 := hrx.below HC357.out
        obtain ⟨g, cap, W8, hr8, ho8, hg8, hat8, hgl8⟩ := app_zeroX hr7 (Nat.le_trans HB2.out.size HC357.out.size) (by rw [HKL.out]; omega) _ HBZ.out
        have hp := HS2.out.push (c1 := c1) (t := l[k]) HB2.out.size HC357.out hr7 HSA.out ho8 hg8 hat8
        rw [HKL.out] at hp hr8 ho8
        have HP := hide hp
        clear hp
        have HR8 := hide hr8
        have HO8 := hide ho8
        have HQ8 : Hid (Blk W8 QB #[.string l[k].name, .slice a' l[k].args.length c'] 26) := (HQ2.out.below HC357.out HQL.out).grown hg8 (fun e => by have h1 := (hrx.own.lt QB e.symm).2; have h2 := HQL.out; have h3 := HQF.out _ e.symm; omega)
        have HX8 : Hid (Blk W8 X #[.slice ta k tc, .map (y.mp []), y.nv []] 59) := (HS2.out.blk.below HC357.out HXL.out).grown hg8 (fun e => HS2.out.own X e.symm ⟨[], HS2.out.tri.root, Or.inl HS2.out.here⟩)
        have HXK : Hid (xs.length = k * 2) := by have h := hrx.own.1; rw [HKL.out] at h; exact h
        have HNE : Hid (X ≠ g ∧ QB ≠ g ∧ QB ≠ X) := ne3 HS2.out HXL.out HQL.out HQF.out HQX.out HC357.out.size hat8
        have HFIN := hide (nw_mid hlt HKL.out HP.out HB2.out HXN.out HS2.out HQ2.out HQF.out HQX.out)
        clear hr7 hr8 ho8 hg8 hat8 hgl8 hrx HP
        refine rdq 8 rfl fun K hK => ?_
        refine step_append_eqX rfl _ _ _ _ rfl rfl rfl HR8.out ?_
        refine hK.out _ _ (by exact ⟨HQ8.out.c0, HQ8.out.c1⟩) (fun hHeld => ?_)
        clear hK K
        try simp only [Act.put, sq]
        have hk1 : (k : Int) < ((k + 1 : Nat) : Int) := by omega
        have hk2 : (k : Int) < (k : Int) + 1 := by omega
        refine tkq (v := ?_) 9 rfl ?_ ?_
        rotate_left
        ·intro w' hSw
         obtain ⟨x0, x1⟩ := hSw
         go_simp <;> with_reducible rfl
        try simp only [Act.put, sq]
        refine tkq (v := ?_) 11 rfl ?_ ?_
        rotate_left
        ·intro w' hSw
         obtain ⟨x0, x1⟩ := hSw
         go_simp <;> with_reducible rfl
        try simp only [Act.put, sq]
        refine tkq (v := ?_) 12 rfl ?_ ?_
        rotate_left
        ·intro w' hSw
         obtain ⟨x0, x1⟩ := hSw
         go_simp <;> with_reducible rfl
        try simp only [Act.put, sq]
        clear hk1 hk2
        have HG0 : Hid (W8.cell? ⟨g, k * 2, none⟩ = some (.string ⟨#[]⟩) ∧ W8.cell? ⟨g, k * 2 + 1, none⟩ = some (.slice none 0 0)) := row_last HO8.out HXK.out
        have hX0 := HX8.out.c0
        have hXf := HX8.out.frozen 0
        have hXl := HX8.out.lt
        have hg0 := HG0.out.1
        have hg1 := HG0.out.2
        have hgf := fun j => HO8.out.frozenAt j
        have hgl := (HO8.out.lt g rfl).2
        refine wpAnyH_ready (rs := [10, 13]) (by kernel_rfl) (by simp) ?_
        refine AllReadyH.cons rfl (fun K hK => ?_) (AllReadyH.cons rfl (fun K hK => ?_) AllReadyH.nil)
        ·go_simp
         refine hK.out _ _ (by exact ⟨(World.cell?_of_block (w := W8) (a := ⟨QB, 0, none⟩) (by rw [Below.heap_setCell _ _ _ _ HNE.out.2.1, Below.heap_setCell _ _ _ _ HNE.out.2.1])).trans HQ8.out.c0, (World.cell?_of_block (w := W8) (a := ⟨QB, 1, none⟩) (by rw [Below.heap_setCell _ _ _ _ HNE.out.2.1, Below.heap_setCell _ _ _ _ HNE.out.2.1])).trans HQ8.out.c1⟩) (fun hHeld => ?_)
         clear hK K
         try simp only [Act.put, sq]
         have hx3 : ((W8.setCell ⟨g, k * 2, none⟩ (.string l[k].name)).setCell ⟨g, k * 2 + 1, none⟩ (.slice a1 l[k].args.length c1)).cell? ⟨X, 0, none⟩ = some (.slice ta k tc) := (World.cell?_of_block (w := W8) (a := ⟨X, 0, none⟩) (by rw [Below.heap_setCell _ _ _ _ HNE.out.1, Below.heap_setCell _ _ _ _ HNE.out.1])).trans HX8.out.c0
         have hf3 : ((W8.setCell ⟨g, k * 2, none⟩ (.string l[k].name)).setCell ⟨g, k * 2 + 1, none⟩ (.slice a1 l[k].args.length c1)).frozen? ⟨X, 0, none⟩ = false := (World.frozen?_of_block (w := W8) (a := ⟨X, 0, none⟩) (by rw [Below.heap_setCell _ _ _ _ HNE.out.1, Below.heap_setCell _ _ _ _ HNE.out.1])).trans (HX8.out.frozen 0)
         refine rdq 13 rfl fun K hK => ?_
         go_simp
         refine hK.out _ _ (by exact ⟨HFIN.out.2.2.c0, HFIN.out.2.2.c1⟩) (fun hHeld => ?_)
         clear hK K
         try simp only [Act.put, sq]
         clear hx3 hf3
         refine wpAnyH_done (by kernel_rfl) ?_ _
         go_wp2_with fail
         go_meet
         exact HFIN.out
        ·go_simp
         refine hK.out _ _ (by exact ⟨(World.cell?_of_block (w := W8) (a := ⟨QB, 0, none⟩) (Below.heap_setCell _ _ _ _ HNE.out.2.2)).trans HQ8.out.c0, (World.cell?_of_block (w := W8) (a := ⟨QB, 1, none⟩) (Below.heap_setCell _ _ _ _ HNE.out.2.2)).trans HQ8.out.c1⟩) (fun hHeld => ?_)
         clear hK K
         try simp only [Act.put, sq]
         have hx3 : (W8.setCell ⟨X, 0, none⟩ (.slice (some ⟨g, 0, none⟩) (k + 1) cap)).cell? ⟨g, k * 2, none⟩ = some (.string ⟨#[]⟩) := (World.cell?_of_block (w := W8) (a := ⟨g, k * 2, none⟩) (Below.heap_setCell _ _ _ _ (Ne.symm HNE.out.1))).trans HG0.out.1
         have hx4 : (W8.setCell ⟨X, 0, none⟩ (.slice (some ⟨g, 0, none⟩) (k + 1) cap)).cell? ⟨g, k * 2 + 1, none⟩ = some (.slice none 0 0) := (World.cell?_of_block (w := W8) (a := ⟨g, k * 2 + 1, none⟩) (Below.heap_setCell _ _ _ _ (Ne.symm HNE.out.1))).trans HG0.out.2
         have hf3 : ∀ j, (W8.setCell ⟨X, 0, none⟩ (.slice (some ⟨g, 0, none⟩) (k + 1) cap)).frozen? ⟨g, j, none⟩ = false := fun j => (World.frozen?_of_block (w := W8) (a := ⟨g, j, none⟩) (Below.heap_setCell _ _ _ _ (Ne.symm HNE.out.1))).trans (HO8.out.frozenAt j)
         have hsw : ((W8.setCell ⟨X, 0, none⟩ (.slice (some ⟨g, 0, none⟩) (k + 1) cap)).setCell ⟨g, k * 2, none⟩ (.string l[k].name)).setCell ⟨g, k * 2 + 1, none⟩ (.slice a1 l[k].args.length c1) = ((W8.setCell ⟨g, k * 2, none⟩ (.string l[k].name)).setCell ⟨g, k * 2 + 1, none⟩ (.slice a1 l[k].args.length c1)).setCell ⟨X, 0, none⟩ (.slice (some ⟨g, 0, none⟩) (k + 1) cap) := by rw [setC_swap _ _ _ _ _ HNE.out.1, setC_swap _ _ _ _ _ HNE.out.1]
         have HFIN2 := hide hsw
         clear hsw
         refine rdq 10 rfl fun K hK => ?_
         go_simp
         refine hK.out _ _ (by exact by rw [HFIN2.out]; exact ⟨HFIN.out.2.2.c0, HFIN.out.2.2.c1⟩) (fun hHeld => ?_)
         clear hK K
         try simp only [Act.put, sq]
         clear hx3 hx4 hf3
         refine wpAnyH_done (by kernel_rfl) ?_ _
         go_wp2_with fail
         go_meet
         rw [HFIN2.out]; exact HFIN.out
       ·have HBZ0 : Hid (Blk (w2.alloc (.cells #[.string ⟨#[]⟩, .slice none 0 0] 26)) w2.heap.size #[.string ⟨#[]⟩, .slice none 0 0] 26) := Blk.new _ _ _
        have HC37 : Hid (Below w2.heap.size w2 (w2.alloc (.cells #[.string ⟨#[]⟩, .slice none 0 0] 26))) := HB0.out.alloc HB0.out.size _
        go_simp
        refine hK.out _ _ (by exact ⟨(HQ2.out.below HC37.out HQL.out).c0, (HQ2.out.below HC37.out HQL.out).c1⟩) (fun hHeld => ?_)
        clear hK K
        try simp only [Act.put, sq]
        obtain ⟨v37, hv37⟩ : ∃ z, z = w2.alloc (.cells #[.string ⟨#[]⟩, .slice none 0 0] 26) := ⟨_, rfl⟩
        obtain ⟨BZ, hBZ⟩ : ∃ z, z = w2.heap.size := ⟨_, rfl⟩
        rw [← hv37, ← hBZ] at HBZ0
        rw [← hv37] at HC37
        rw [← hv37, ← hBZ]
        clear hv37 hBZ
        have HBZ := HBZ0
        clear HBZ0
        refine rdq 5 rfl fun K hK => ?_
        go_simp
        go_at_call 24
        refine (copyOf_any l[k] _ v37 Xs (HTV2.out.later HC37.out) (by omega)).mono ?_
        rintro e v375 ⟨vv, rfl, ⟨a1, c1, rfl, hs1⟩, hb1⟩
        have HC375 : Hid (Below w2.heap.size w2 v375) := HC37.out.trans (hb1.mono HC37.out.size)
        have HSC : Hid (Sl v375 (fun b => w2.heap.size ≤ b) a1 l[k].args) := hs1.mono fun b hb _ => Nat.le_trans HC37.out.size hb
        have HZ : Hid (Blk v375 BZ #[.string ⟨#[]⟩, .slice none 0 0] 26) := HBZ.out.below hb1 HBZ.out.lt
        clear hs1 hb1
        go_simp
        refine hK.out _ _ (by exact ⟨(HQ2.out.below HC375.out HQL.out).c0, (HQ2.out.below HC375.out HQL.out).c1⟩) (fun hHeld => ?_)
        clear hK K
        try simp only [Act.put, sq]
        obtain ⟨xs, hrx⟩ := HS2.out.row
        have hr7 := hrx.below HC375.out
        obtain ⟨g, cap, W8, hr8, ho8, hg8, hat8, hgl8⟩ := app_zeroX hr7 (Nat.le_trans HB2.out.size HC375.out.size) (by rw [HKL.out]; omega) _ HZ.out
        have hp := HS2.out.push (c1 := c1) (t := l[k]) HB2.out.size HC375.out hr7 HSC.out ho8 hg8 hat8
        rw [HKL.out] at hp hr8 ho8
        have HP := hide hp
        clear hp
        have HR8 := hide hr8
        have HO8 := hide ho8
        have HQ8 : Hid (Blk W8 QB #[.string l[k].name, .slice a' l[k].args.length c'] 26) := (HQ2.out.below HC375.out HQL.out).grown hg8 (fun e => by have h1 := (hrx.own.lt QB e.symm).2; have h2 := HQL.out; have h3 := HQF.out _ e.symm; omega)
        have HX8 : Hid (Blk W8 X #[.slice ta k tc, .map (y.mp []), y.nv []] 59) := (HS2.out.blk.below HC375.out HXL.out).grown hg8 (fun e => HS2.out.own X e.symm ⟨[], HS2.out.tri.root, Or.inl HS2.out.here⟩)
        have HXK : Hid (xs.length = k * 2) := by have h := hrx.own.1; rw [HKL.out] at h; exact h
        have HNE : Hid (X ≠ g ∧ QB ≠ g ∧ QB ≠ X) := ne3 HS2.out HXL.out HQL.out HQF.out HQX.out HC375.out.size hat8
        have HFIN := hide (nw_mid hlt HKL.out HP.out HB2.out HXN.out HS2.out HQ2.out HQF.out HQX.out)
        clear hr7 hr8 ho8 hg8 hat8 hgl8 hrx HP
        refine rdq 8 rfl fun K hK => ?_
        refine step_append_eqX rfl _ _ _ _ rfl rfl rfl HR8.out ?_
        refine hK.out _ _ (by exact ⟨HQ8.out.c0, HQ8.out.c1⟩) (fun hHeld => ?_)
        clear hK K
        try simp only [Act.put, sq]
        have hk1 : (k : Int) < ((k + 1 : Nat) : Int) := by omega
        have hk2 : (k : Int) < (k : Int) + 1 := by omega
        refine tkq (v := ?_) 9 rfl ?_ ?_
        rotate_left
        ·intro w' hSw
         obtain ⟨x0, x1⟩ := hSw
         go_simp <;> with_reducible rfl
        try simp only [Act.put, sq]
        refine tkq (v := ?_) 11 rfl ?_ ?_
        rotate_left
        ·intro w' hSw
         obtain ⟨x0, x1⟩ := hSw
         go_simp <;> with_reducible rfl
        try simp only [Act.put, sq]
        refine tkq (v := ?_) 12 rfl ?_ ?_
        rotate_left
        ·intro w' hSw
         obtain ⟨x0, x1⟩ := hSw
         go_simp <;> with_reducible rfl
        try simp only [Act.put, sq]
        clear hk1 hk2
        have HG0 : Hid (W8.cell? ⟨g, k * 2, none⟩ = some (.string ⟨#[]⟩) ∧ W8.cell? ⟨g, k * 2 + 1, none⟩ = some (.slice none 0 0)) := row_last HO8.out HXK.out
        have hX0 := HX8.out.c0
        have hXf := HX8.out.frozen 0
        have hXl := HX8.out.lt
        have hg0 := HG0.out.1
        have hg1 := HG0.out.2
        have hgf := fun j => HO8.out.frozenAt j
        have hgl := (HO8.out.lt g rfl).2
        refine wpAnyH_ready (rs := [10, 13]) (by kernel_rfl) (by simp) ?_
        refine AllReadyH.cons rfl (fun K hK => ?_) (AllReadyH.cons rfl (fun K hK => ?_) AllReadyH.nil)
        ·go_simp
         refine hK.out _ _ (by exact ⟨(World.cell?_of_block (w := W8) (a := ⟨QB, 0, none⟩) (by rw [Below.heap_setCell _ _ _ _ HNE.out.2.1, Below.heap_setCell _ _ _ _ HNE.out.2.1])).trans HQ8.out.c0, (World.cell?_of_block (w := W8) (a := ⟨QB, 1, none⟩) (by rw [Below.heap_setCell _ _ _ _ HNE.out.2.1, Below.heap_setCell _ _ _ _ HNE.out.2.1])).trans HQ8.out.c1⟩) (fun hHeld => ?_)
         clear hK K
         try simp only [Act.put, sq]
         have hx3 : ((W8.setCell ⟨g, k * 2, none⟩ (.string l[k].name)).setCell ⟨g, k * 2 + 1, none⟩ (.slice a1 l[k].args.length c1)).cell? ⟨X, 0, none⟩ = some (.slice ta k tc) := (World.cell?_of_block (w := W8) (a := ⟨X, 0, none⟩) (by rw [Below.heap_setCell _ _ _ _ HNE.out.1, Below.heap_setCell _ _ _ _ HNE.out.1])).trans HX8.out.c0
         have hf3 : ((W8.setCell ⟨g, k * 2, none⟩ (.string l[k].name)).setCell ⟨g, k * 2 + 1, none⟩ (.slice a1 l[k].args.length c1)).frozen? ⟨X, 0, none⟩ = false := (World.frozen?_of_block (w := W8) (a := ⟨X, 0, none⟩) (by rw [Below.heap_setCell _ _ _ _ HNE.out.1, Below.heap_setCell _ _ _ _ HNE.out.1])).trans (HX8.out.frozen 0)
         refine rdq 13 rfl fun K hK => ?_
         go_simp
         refine hK.out _ _ (by exact ⟨HFIN.out.2.2.c0, HFIN.out.2.2.c1⟩) (fun hHeld => ?_)
         clear hK K
         try simp only [Act.put, sq]
         clear hx3 hf3
         refine wpAnyH_done (by kernel_rfl) ?_ _
         go_wp2_with fail
         go_meet
         exact HFIN.out
        ·go_simp
         refine hK.out _ _ (by exact ⟨(World.cell?_of_block (w := W8) (a := ⟨QB, 0, none⟩) (Below.heap_setCell _ _ _ _ HNE.out.2.2)).trans HQ8.out.c0, (World.cell?_of_block (w := W8) (a := ⟨QB, 1, none⟩) (Below.heap_setCell _ _ _ _ HNE.out.2.2)).trans HQ8.out.c1⟩) (fun hHeld => ?_)
         clear hK K
         try simp only [Act.put, sq]
         have hx3 : (W8.setCell ⟨X, 0, none⟩ (.slice (some ⟨g, 0, none⟩) (k + 1) cap)).cell? ⟨g, k * 2, none⟩ = some (.string ⟨#[]⟩) := (World.cell?_of_block (w := W8) (a := ⟨g, k * 2, none⟩) (Below.heap_setCell _ _ _ _ (Ne.symm HNE.out.1))).trans HG0.out.1
         have hx4 : (W8.setCell ⟨X, 0, none⟩ (.slice (some ⟨g, 0, none⟩) (k + 1) cap)).cell? ⟨g, k * 2 + 1, none⟩ = some (.slice none 0 0) := (World.cell?_of_block (w := W8) (a := ⟨g, k * 2 + 1, none⟩) (Below.heap_setCell _ _ _ _ (Ne.symm HNE.out.1))).trans HG0.out.2
         have hf3 : ∀ j, (W8.setCell ⟨X, 0, none⟩ (.slice (some ⟨g, 0, none⟩) (k + 1) cap)).frozen? ⟨g, j, none⟩ = false := fun j => (World.frozen?_of_block (w := W8) (a := ⟨g, j, none⟩) (Below.heap_setCell _ _ _ _ (Ne.symm HNE.out.1))).trans (HO8.out.frozenAt j)
         have hsw : ((W8.setCell ⟨X, 0, none⟩ (.slice (some ⟨g, 0, none⟩) (k + 1) cap)).setCell ⟨g, k * 2, none⟩ (.string l[k].name)).setCell ⟨g, k * 2 + 1, none⟩ (.slice a1 l[k].args.length c1) = ((W8.setCell ⟨g, k * 2, none⟩ (.string l[k].name)).setCell ⟨g, k * 2 + 1, none⟩ (.slice a1 l[k].args.length c1)).setCell ⟨X, 0, none⟩ (.slice (some ⟨g, 0, none⟩) (k + 1) cap) := by rw [setC_swap _ _ _ _ _ HNE.out.1, setC_swap _ _ _ _ _ HNE.out.1]
         have HFIN2 := hide hsw
         clear hsw
         refine rdq 10 rfl fun K hK => ?_
         go_simp
         refine hK.out _ _ (by exact by rw [HFIN2.out]; exact ⟨HFIN.out.2.2.c0, HFIN.out.2.2.c1⟩) (fun hHeld => ?_)
         clear hK K
         try simp only [Act.put, sq]
         clear hx3 hx4 hf3
         refine wpAnyH_done (by kernel_rfl) ?_ _
         go_wp2_with fail
         go_meet
         rw [HFIN2.out]; exact HFIN.out
      ·go_simp
       go_at_call 24
       refine (copyOf_any l[k] _ w2 Xs (HTV2.out.later HB0.out) (by omega)).mono ?_
       rintro e v5 ⟨vv, rfl, ⟨a1, c1, rfl, hs1⟩, hb1⟩
       have HC5 : Hid (Below w2.heap.size w2 v5) := HB0.out.trans (hb1.mono HB0.out.size)
       have HSC : Hid (Sl v5 (fun b => w2.heap.size ≤ b) a1 l[k].args) := hs1.mono fun b hb _ => Nat.le_trans HB0.out.size hb
       clear hs1 hb1
       go_simp
       refine hK.out _ _ (by exact ⟨(HQ2.out.below HC5.out HQL.out).c0, (HQ2.out.below HC5.out HQL.out).c1⟩) (fun hHeld => ?_)
       clear hK K
       try simp only [Act.put, sq]
       refine wpAnyH_ready (rs := [3, 7]) (by kernel_rfl) (by simp) ?_
       refine AllReadyH.cons rfl (fun K hK => ?_) (AllReadyH.cons rfl (fun K hK => ?_) AllReadyH.nil)
       ·have c3 : v5.cell? ⟨X, 0, none⟩ = some (.slice ta k tc) := (HS2.out.blk.below HC5.out HXL.out).c0
        go_simp
        refine hK.out _ _ (by exact ⟨(HQ2.out.below HC5.out HQL.out).c0, (HQ2.out.below HC5.out HQL.out).c1⟩) (fun hHeld => ?_)
        clear hK K
        try simp only [Act.put, sq]
        clear c3
        refine tkq (v := ?_) 6 rfl ?_ ?_
        rotate_left
        ·intro w' hSw
         obtain ⟨x0, x1⟩ := hSw
         go_simp <;> with_reducible rfl
        try simp only [Act.put, sq]
        refine rdq 7 rfl fun K hK => ?_
        have HBZ0 : Hid (Blk (v5.alloc (.cells #[.string ⟨#[]⟩, .slice none 0 0] 26)) v5.heap.size #[.string ⟨#[]⟩, .slice none 0 0] 26) := Blk.new _ _ _
        have HC537 : Hid (Below w2.heap.size w2 (v5.alloc (.cells #[.string ⟨#[]⟩, .slice none 0 0] 26))) := HC5.out.alloc HC5.out.size _
        have HSA : Hid (Sl (v5.alloc (.cells #[.string ⟨#[]⟩, .slice none 0 0] 26)) (fun b => w2.heap.size ≤ b) a1 l[k].args) := HSC.out.later ((Below.refl _ _).alloc (Nat.le_refl _) _)
        go_simp
        refine hK.out _ _ (by exact ⟨(HQ2.out.below HC537.out HQL.out).c0, (HQ2.out.below HC537.out HQL.out).c1⟩) (fun hHeld => ?_)
        clear hK K
        try simp only [Act.put, sq]
        obtain ⟨v537, hv537⟩ : ∃ z, z = v5.alloc (.cells #[.string ⟨#[]⟩, .slice none 0 0] 26) := ⟨_, rfl⟩
        obtain ⟨BZ, hBZ⟩ : ∃ z, z = v5.heap.size := ⟨_, rfl⟩
        rw [← hv537, ← hBZ] at HBZ0
        rw [← hv537] at HC537
        rw [← hv537] at HSA
        rw [← hv537, ← hBZ]
        clear hv537 hBZ
        have HBZ := HBZ0
        clear HBZ0
        obtain ⟨xs, hrx⟩ := HS2.out.row
        have hr7 := hrx.below HC537.out
        obtain ⟨g, cap, W8, hr8, ho8, hg8, hat8, hgl8⟩ := app_zeroX hr7 (Nat.le_trans HB2.out.size HC537.out.size) (by rw [HKL.out]; omega) _ HBZ.out
        have hp := HS2.out.push (c1 := c1) (t := l[k]) HB2.out.size HC537.out hr7 HSA.out ho8 hg8 hat8
        rw [HKL.out] at hp hr8 ho8
        have HP := hide hp
        clear hp
        have HR8 := hide hr8
        have HO8 := hide ho8
        have HQ8 : Hid (Blk W8 QB #[.string l[k].name, .slice a' l[k].args.length c'] 26) := (HQ2.out.below HC537.out HQL.out).grown hg8 (fun e => by have h1 := (hrx.own.lt QB e.symm).2; have h2 := HQL.out; have h3 := HQF.out _ e.symm; omega)
        have HX8 : Hid (Blk W8 X #[.slice ta k tc, .map (y.mp []), y.nv []] 59) := (HS2.out.blk.below HC537.out HXL.out).grown hg8 (fun e => HS2.out.own X e.symm ⟨[], HS2.out.tri.root, Or.inl HS2.out.here⟩)
        have HXK : Hid (xs.length = k * 2) := by have h := hrx.own.1; rw [HKL.out] at h; exact h
        have HNE : Hid (X ≠ g ∧ QB ≠ g ∧ QB ≠ X) := ne3 HS2.out HXL.out HQL.out HQF.out HQX.out HC537.out.size hat8
        have HFIN := hide (nw_mid hlt HKL.out HP.out HB2.out HXN.out HS2.out HQ2.out HQF.out HQX.out)
        clear hr7 hr8 ho8 hg8 hat8 hgl8 hrx HP
        refine rdq 8 rfl fun K hK => ?_
        refine step_append_eqX rfl _ _ _ _ rfl rfl rfl HR8.out ?_
        refine hK.out _ _ (by exact ⟨HQ8.out.c0, HQ8.out.c1⟩) (fun hHeld => ?_)
        clear hK K
        try simp only [Act.put, sq]
        have hk1 : (k : Int) < ((k + 1 : Nat) : Int) := by omega
        have hk2 : (k : Int) < (k : Int) + 1 := by omega
        refine tkq (v := ?_) 9 rfl ?_ ?_
        rotate_left
        ·intro w' hSw
         obtain ⟨x0, x1⟩ := hSw
         go_simp <;> with_reducible rfl
        try simp only [Act.put, sq]
        refine tkq (v := ?_) 11 rfl ?_ ?_
        rotate_left
        ·intro w' hSw
         obtain ⟨x0, x1⟩ := hSw
         go_simp <;> with_reducible rfl
        try simp only [Act.put, sq]
        refine tkq (v := ?_) 12 rfl ?_ ?_
        rotate_left
        ·intro w' hSw
         obtain ⟨x0, x1⟩ := hSw
         go_simp <;> with_reducible rfl
        try simp only [Act.put, sq]
        clear hk1 hk2
        have HG0 : Hid (W8.cell? ⟨g, k * 2, none⟩ = some (.string ⟨#[]⟩) ∧ W8.cell? ⟨g, k * 2 + 1, none⟩ = some (.slice none 0 0)) := row_last HO8.out HXK.out
        have hX0 := HX8.out.c0
        have hXf := HX8.out.frozen 0
        have hXl := HX8.out.lt
        have hg0 := HG0.out.1
        have hg1 := HG0.out.2
        have hgf := fun j => HO8.out.frozenAt j
        have hgl := (HO8.out.lt g rfl).2
        refine wpAnyH_ready (rs := [10, 13]) (by kernel_rfl) (by simp) ?_
        refine AllReadyH.cons rfl (fun K hK => ?_) (AllReadyH.cons rfl (fun K hK => ?_) AllReadyH.nil)
        ·go_simp
         refine hK.out _ _ (by exact ⟨(World.cell?_of_block (w := W8) (a := ⟨QB, 0, none⟩) (by rw [Below.heap_setCell _ _ _ _ HNE.out.2.1, Below.heap_setCell _ _ _ _ HNE.out.2.1])).trans HQ8.out.c0, (World.cell?_of_block (w := W8) (a := ⟨QB, 1, none⟩) (by rw [Below.heap_setCell _ _ _ _ HNE.out.2.1, Below.heap_setCell _ _ _ _ HNE.out.2.1])).trans HQ8.out.c1⟩) (fun hHeld => ?_)
         clear hK K
         try simp only [Act.put, sq]
         have hx3 : ((W8.setCell ⟨g, k * 2, none⟩ (.string l[k].name)).setCell ⟨g, k * 2 + 1, none⟩ (.slice a1 l[k].args.length c1)).cell? ⟨X, 0, none⟩ = some (.slice ta k tc) := (World.cell?_of_block (w := W8) (a := ⟨X, 0, none⟩) (by rw [Below.heap_setCell _ _ _ _ HNE.out.1, Below.heap_setCell _ _ _ _ HNE.out.1])).trans HX8.out.c0
         have hf3 : ((W8.setCell ⟨g, k * 2, none⟩ (.string l[k].name)).setCell ⟨g, k * 2 + 1, none⟩ (.slice a1 l[k].args.length c1)).frozen? ⟨X, 0, none⟩ = false := (World.frozen?_of_block (w := W8) (a := ⟨X, 0, none⟩) (by rw [Below.heap_setCell _ _ _ _ HNE.out.1, Below.heap_setCell _ _ _ _ HNE.out.1])).trans (HX8.out.frozen 0)
         refine rdq 13 rfl fun K hK => ?_
         go_simp
         refine hK.out _ _ (by exact ⟨HFIN.out.2.2.c0, HFIN.out.2.2.c1⟩) (fun hHeld => ?_)
         clear hK K
         try simp only [Act.put, sq]
         clear hx3 hf3
         refine wpAnyH_done (by kernel_rfl) ?_ _
         go_wp2_with fail
         go_meet
         exact HFIN.out
        ·go_simp
         refine hK.out _ _ (by exact ⟨(World.cell?_of_block (w := W8) (a := ⟨QB, 0, none⟩) (Below.heap_setCell _ _ _ _ HNE.out.2.2)).trans HQ8.out.c0, (World.cell?_of_block (w := W8) (a := ⟨QB, 1, none⟩) (Below.heap_setCell _ _ _ _ HNE.out.2.2)).trans HQ8.out.c1⟩) (fun hHeld => ?_)
         clear hK K
         try simp only [Act.put, sq]
         have hx3 : (W8.setCell ⟨X, 0, none⟩ (.slice (some ⟨g, 0, none⟩) (k + 1) cap)).cell? ⟨g, k * 2, none⟩ = some (.string ⟨#[]⟩) := (World.cell?_of_block (w := W8) (a := ⟨g, k * 2, none⟩) (Below.heap_setCell _ _ _ _ (Ne.symm HNE.out.1))).trans HG0.out.1
         have hx4 : (W8.setCell ⟨X, 0, none⟩ (.slice (some ⟨g, 0, none⟩) (k + 1) cap)).cell? ⟨g, k * 2 + 1, none⟩ = some (.slice none 0 0) := (World.cell?_of_block (w := W8) (a := ⟨g, k * 2 + 1, none⟩) (Below.heap_setCell _ _ _ _ (Ne.symm HNE.out.1))).trans HG0.out.2
         have hf3 : ∀ j, (W8.setCell ⟨X, 0, none⟩ (.slice (some ⟨g, 0, none⟩) (k + 1) cap)).frozen? ⟨g, j, none⟩ = false := fun j => (World.frozen?_of_block (w := W8) (a := ⟨g, j, none⟩) (Below.heap_setCell _ _ _ _ (Ne.symm HNE.out.1))).trans (HO8.out.frozenAt j)
         have hsw : ((W8.setCell ⟨X, 0, none⟩ (.slice (some ⟨g, 0, none⟩) (k + 1) cap)).setCell ⟨g, k * 2, none⟩ (.string l[k].name)).setCell ⟨g, k * 2 + 1, none⟩ (.slice a1 l[k].args.length c1) = ((W8.setCell ⟨g, k * 2, none⟩ (.string l[k].name)).setCell ⟨g, k * 2 + 1, none⟩ (.slice a1 l[k].args.length c1)).setCell ⟨X, 0, none⟩ (.slice (some ⟨g, 0, none⟩) (k + 1) cap) := by rw [setC_swap _ _ _ _ _ HNE.out.1, setC_swap _ _ _ _ _ HNE.out.1]
         have HFIN2 := hide hsw
         clear hsw
         refine rdq 10 rfl fun K hK => ?_
         go_simp
         refine hK.out _ _ (by exact by rw [HFIN2.out]; exact ⟨HFIN.out.2.2.c0, HFIN.out.2.2.c1⟩) (fun hHeld => ?_)
         clear hK K
         try simp only [Act.put, sq]
         clear hx3 hx4 hf3
         refine wpAnyH_done (by kernel_rfl) ?_ _
         go_wp2_with fail
         go_meet
         rw [HFIN2.out]; exact HFIN.out
       ·have HBZ0 : Hid (Blk (v5.alloc (.cells #[.string ⟨#[]⟩, .slice none 0 0] 26)) v5.heap.size #[.string ⟨#[]⟩, .slice none 0 0] 26) := Blk.new _ _ _
        have HC57 : Hid (Below w2.heap.size w2 (v5.alloc (.cells #[.string ⟨#[]⟩, .slice none 0 0] 26))) := HC5.out.alloc HC5.out.size _
        have HSA : Hid (Sl (v5.alloc (.cells #[.string ⟨#[]⟩, .slice none 0 0] 26)) (fun b => w2.heap.size ≤ b) a1 l[k].args) := HSC.out.later ((Below.refl _ _).alloc (Nat.le_refl _) _)
        go_simp
        refine hK.out _ _ (by exact ⟨(HQ2.out.below HC57.out HQL.out).c0, (HQ2.out.below HC57.out HQL.out).c1⟩) (fun hHeld => ?_)
        clear hK K
        try simp only [Act.put, sq]
        obtain ⟨v57, hv57⟩ : ∃ z, z = v5.alloc (.cells #[.string ⟨#[]⟩, .slice none 0 0] 26) := ⟨_, rfl⟩
        obtain ⟨BZ, hBZ⟩ : ∃ z, z = v5.heap.size := ⟨_, rfl⟩
        rw [← hv57, ← hBZ] at HBZ0
        rw [← hv57] at HC57
        rw [← hv57] at HSA
        rw [← hv57, ← hBZ]
        clear hv57 hBZ
        have HBZ := HBZ0
        clear HBZ0
        refine rdq 3 rfl fun K hK => ?_
        have c3 : v57.cell? ⟨X, 0, none⟩ = some (.slice ta k tc) := (HS2.out.blk.below HC57.out HXL.out).c0
        go_simp
        refine hK.out _ _ (by exact ⟨(HQ2.out.below HC57.out HQL.out).c0, (HQ2.out.below HC57.out HQL.out).c1⟩) (fun hHeld => ?_)
        clear hK K
        try simp only [Act.put, sq]
        clear c3
        refine tkq (v := ?_) 6 rfl ?_ ?_
        rotate_left
        ·intro w' hSw
         obtain ⟨x0, x1⟩ := hSw
         go_simp <;> with_reducible rfl
        try simp only [Act.put, sq]
        obtain ⟨xs, hrx⟩ := HS2.out.row
        have hr7 := hrx.below HC57.out
        obtain ⟨g, cap, W8, hr8, ho8, hg8, hat8, hgl8⟩ := app_zeroX hr7 (Nat.le_trans HB2.out.size HC57.out.size) (by rw [HKL.out]; omega) _ HBZ.out
        have hp := HS2.out.push (c1 := c1) (t := l[k]) HB2.out.size HC57.out hr7 HSA.out ho8 hg8 hat8
        rw [HKL.out] at hp hr8 ho8
        have HP := hide hp
        clear hp
        have HR8 := hide hr8
        have HO8 := hide ho8
        have HQ8 : Hid (Blk W8 QB #[.string l[k].name, .slice a' l[k].args.length c'] 26) := (HQ2.out.below HC57.out HQL.out).grown hg8 (fun e => by have h1 := (hrx.own.lt QB e.symm).2; have h2 := HQL.out; have h3 := HQF.out _ e.symm; omega)
        have HX8 : Hid (Blk W8 X #[.slice ta k tc, .map (y.mp []), y.nv []] 59) := (HS2.out.blk.below HC57.out HXL.out).grown hg8 (fun e => HS2.out.own X e.symm ⟨[], HS2.out.tri.root, Or.inl HS2.out.here⟩)
        have HXK : Hid (xs.length = k * 2) := by have h := hrx.own.1; rw [HKL.out] at h; exact h
        have HNE : Hid (X ≠ g ∧ QB ≠ g ∧ QB ≠ X) := ne3 HS2.out HXL.out HQL.out HQF.out HQX.out HC57.out.size hat8
        have HFIN := hide (nw_mid hlt HKL.out HP.out HB2.out HXN.out HS2.out HQ2.out HQF.out HQX.out)
        clear hr7 hr8 ho8 hg8 hat8 hgl8 hrx HP
        refine rdq 8 rfl fun K hK => ?_
        refine step_append_eqX rfl _ _ _ _ rfl rfl rfl HR8.out ?_
        refine hK.out _ _ (by exact ⟨HQ8.out.c0, HQ8.out.c1⟩) (fun hHeld => ?_)
        clear hK K
        try simp only [Act.put, sq]
        have hk1 : (k : Int) < ((k + 1 : Nat) : Int) := by omega
        have hk2 : (k : Int) < (k : Int) + 1 := by omega
        refine tkq (v := ?_) 9 rfl ?_ ?_
        rotate_left
        ·intro w' hSw
         obtain ⟨x0, x1⟩ := hSw
         go_simp <;> with_reducible rfl
        try simp only [Act.put, sq]
        refine tkq (v := ?_) 11 rfl ?_ ?_
        rotate_left
        ·intro w' hSw
         obtain ⟨x0, x1⟩ := hSw
         go_simp <;> with_reducible rfl
        try simp only [Act.put, sq]
        refine tkq (v := ?_) 12 rfl ?_ ?_
        rotate_left
        ·intro w' hSw
         obtain ⟨x0, x1⟩ := hSw
         go_simp <;> with_reducible rfl
        try simp only [Act.put, sq]
        clear hk1 hk2
        have HG0 : Hid (W8.cell? ⟨g, k * 2, none⟩ = some (.string ⟨#[]⟩) ∧ W8.cell? ⟨g, k * 2 + 1, none⟩ = some (.slice none 0 0)) := row_last HO8.out HXK.out
        have hX0 := HX8.out.c0
        have hXf := HX8.out.frozen 0
        have hXl := HX8.out.lt
        have hg0 := HG0.out.1
        have hg1 := HG0.out.2
        have hgf := fun j => HO8.out.frozenAt j
        have hgl := (HO8.out.lt g rfl).2
        refine wpAnyH_ready (rs := [10, 13]) (by kernel_rfl) (by simp) ?_
        refine AllReadyH.cons rfl (fun K hK => ?_) (AllReadyH.cons rfl (fun K hK => ?_) AllReadyH.nil)
        ·go_simp
         refine hK.out _ _ (by exact ⟨(World.cell?_of_block (w := W8) (a := ⟨QB, 0, none⟩) (by rw [Below.heap_setCell _ _ _ _ HNE.out.2.1, Below.heap_setCell _ _ _ _ HNE.out.2.1])).trans HQ8.out.c0, (World.cell?_of_block (w := W8) (a := ⟨QB, 1, none⟩) (by rw [Below.heap_setCell _ _ _ _ HNE.out.2.1, Below.heap_setCell _ _ _ _ HNE.out.2.1])).trans HQ8.out.c1⟩) (fun hHeld => ?_)
         clear hK K
         try simp only [Act.put, sq]
         have hx3 : ((W8.setCell ⟨g, k * 2, none⟩ (.string l[k].name)).setCell ⟨g, k * 2 + 1, none⟩ (.slice a1 l[k].args.length c1)).cell? ⟨X, 0, none⟩ = some (.slice ta k tc) := (World.cell?_of_block (w := W8) (a := ⟨X, 0, none⟩) (by rw [Below.heap_setCell _ _ _ _ HNE.out.1, Below.heap_setCell _ _ _ _ HNE.out.1])).trans HX8.out.c0
         have hf3 : ((W8.setCell ⟨g, k * 2, none⟩ (.string l[k].name)).setCell ⟨g, k * 2 + 1, none⟩ (.slice a1 l[k].args.length c1)).frozen? ⟨X, 0, none⟩ = false := (World.frozen?_of_block (w := W8) (a := ⟨X, 0, none⟩) (by rw [Below.heap_setCell _ _ _ _ HNE.out.1, Below.heap_setCell _ _ _ _ HNE.out.1])).trans (HX8.out.frozen 0)
         refine rdq 13 rfl fun K hK => ?_
         go_simp
         refine hK.out _ _ (by exact ⟨HFIN.out.2.2.c0, HFIN.out.2.2.c1⟩) (fun hHeld => ?_)
         clear hK K
         try simp only [Act.put, sq]
         clear hx3 hf3
         refine wpAnyH_done (by kernel_rfl) ?_ _
         go_wp2_with fail
         go_meet
         exact HFIN.out
        ·go_simp
         refine hK.out _ _ (by exact ⟨(World.cell?_of_block (w := W8) (a := ⟨QB, 0, none⟩) (Below.heap_setCell _ _ _ _ HNE.out.2.2)).trans HQ8.out.c0, (World.cell?_of_block (w := W8) (a := ⟨QB, 1, none⟩) (Below.heap_setCell _ _ _ _ HNE.out.2.2)).trans HQ8.out.c1⟩) (fun hHeld => ?_)
         clear hK K
         try simp only [Act.put, sq]
         have hx3 : (W8.setCell ⟨X, 0, none⟩ (.slice (some ⟨g, 0, none⟩) (k + 1) cap)).cell? ⟨g, k * 2, none⟩ = some (.string ⟨#[]⟩) := (World.cell?_of_block (w := W8) (a := ⟨g, k * 2, none⟩) (Below.heap_setCell _ _ _ _ (Ne.symm HNE.out.1))).trans HG0.out.1
         have hx4 : (W8.setCell ⟨X, 0, none⟩ (.slice (some ⟨g, 0, none⟩) (k + 1) cap)).cell? ⟨g, k * 2 + 1, none⟩ = some (.slice none 0 0) := (World.cell?_of_block (w := W8) (a := ⟨g, k * 2 + 1, none⟩) (Below.heap_setCell _ _ _ _ (Ne.symm HNE.out.1))).trans HG0.out.2
         have hf3 : ∀ j, (W8.setCell ⟨X, 0, none⟩ (.slice (some ⟨g, 0, none⟩) (k + 1) cap)).frozen? ⟨g, j, none⟩ = false := fun j => (World.frozen?_of_block (w := W8) (a := ⟨g, j, none⟩) (Below.heap_setCell _ _ _ _ (Ne.symm HNE.out.1))).trans (HO8.out.frozenAt j)
         have hsw : ((W8.setCell ⟨X, 0, none⟩ (.slice (some ⟨g, 0, none⟩) (k + 1) cap)).setCell ⟨g, k * 2, none⟩ (.string l[k].name)).setCell ⟨g, k * 2 + 1, none⟩ (.slice a1 l[k].args.length c1) = ((W8.setCell ⟨g, k * 2, none⟩ (.string l[k].name)).setCell ⟨g, k * 2 + 1, none⟩ (.slice a1 l[k].args.length c1)).setCell ⟨X, 0, none⟩ (.slice (some ⟨g, 0, none⟩) (k + 1) cap) := by rw [setC_swap _ _ _ _ _ HNE.out.1, setC_swap _ _ _ _ _ HNE.out.1]
         have HFIN2 := hide hsw
         clear hsw
         refine rdq 10 rfl fun K hK => ?_
         go_simp
         refine hK.out _ _ (by exact by rw [HFIN2.out]; exact ⟨HFIN.out.2.2.c0, HFIN.out.2.2.c1⟩) (fun hHeld => ?_)
         clear hK K
         try simp only [Act.put, sq]
         clear hx3 hx4 hf3
         refine wpAnyH_done (by kernel_rfl) ?_ _
         go_wp2_with fail
         go_meet
         rw [HFIN2.out]; exact HFIN.out
      ·have HBZ0 : Hid (Blk (w2.alloc (.cells #[.string ⟨#[]⟩, .slice none 0 0] 26)) w2.heap.size #[.string ⟨#[]⟩, .slice none 0 0] 26) := Blk.new _ _ _
       have HC7 : Hid (Below w2.heap.size w2 (w2.alloc (.cells #[.string ⟨#[]⟩, .slice none 0 0] 26))) := HB0.out.alloc HB0.out.size _
       go_simp
       refine hK.out _ _ (by exact ⟨(HQ2.out.below HC7.out HQL.out).c0, (HQ2.out.below HC7.out HQL.out).c1⟩) (fun hHeld => ?_)
       clear hK K
       try simp only [Act.put, sq]
       obtain ⟨v7, hv7⟩ : ∃ z, z = w2.alloc (.cells #[.string ⟨#[]⟩, .slice none 0 0] 26) := ⟨_, rfl⟩
       obtain ⟨BZ, hBZ⟩ : ∃ z, z = w2.heap.size := ⟨_, rfl⟩
       rw [← hv7, ← hBZ] at HBZ0
       rw [← hv7] at HC7
       rw [← hv7, ← hBZ]
       clear hv7 hBZ
       have HBZ := HBZ0
       clear HBZ0
       refine wpAnyH_ready (rs := [3, 5]) (by kernel_rfl) (by simp) ?_
       refine AllReadyH.cons rfl (fun K hK => ?_) (AllReadyH.cons rfl (fun K hK => ?_) AllReadyH.nil)
       ·have c3 : v7.cell? ⟨X, 0, none⟩ = some (.slice ta k tc) := (HS2.out.blk.below HC7.out HXL.out).c0
        go_simp
        refine hK.out _ _ (by exact ⟨(HQ2.out.below HC7.out HQL.out).c0, (HQ2.out.below HC7.out HQL.out).c1⟩) (fun hHeld => ?_)
        clear hK K
        try simp only [Act.put, sq]
        clear c3
        refine tkq (v := ?_) 6 rfl ?_ ?_
        rotate_left
        ·intro w' hSw
         obtain ⟨x0, x1⟩ := hSw
         go_simp <;> with_reducible rfl
        try simp only [Act.put, sq]
        refine rdq 5 rfl fun K hK => ?_
        go_simp
        go_at_call 24
        refine (copyOf_any l[k] _ v7 Xs (HTV2.out.later HC7.out) (by omega)).mono ?_
        rintro e v735 ⟨vv, rfl, ⟨a1, c1, rfl, hs1⟩, hb1⟩
        have HC735 : Hid (Below w2.heap.size w2 v735) := HC7.out.trans (hb1.mono HC7.out.size)
        have HSC : Hid (Sl v735 (fun b => w2.heap.size ≤ b) a1 l[k].args) := hs1.mono fun b hb _ => Nat.le_trans HC7.out.size hb
        have HZ : Hid (Blk v735 BZ #[.string ⟨#[]⟩, .slice none 0 0] 26) := HBZ.out.below hb1 HBZ.out.lt
        clear hs1 hb1
        go_simp
        refine hK.out _ _ (by exact ⟨(HQ2.out.below HC735.out HQL.out).c0, (HQ2.out.below HC735.out HQL.out).c1⟩) (fun hHeld => ?_)
        clear hK K
        try simp only [Act.put, sq]
        obtain ⟨xs, hrx⟩ := HS2.out.row
        have hr7 := hrx.below HC735.out
        obtain ⟨g, cap, W8, hr8, ho8, hg8, hat8, hgl8⟩ := app_zeroX hr7 (Nat.le_trans HB2.out.size HC735.out.size) (by rw [HKL.out]; omega) _ HZ.out
        have hp := HS2.out.push (c1 := c1) (t := l[k]) HB2.out.size HC735.out hr7 HSC.out ho8 hg8 hat8
        rw [HKL.out] at hp hr8 ho8
        have HP := hide hp
        clear hp
        have HR8 := hide hr8
        have HO8 := hide ho8
        have HQ8 : Hid (Blk W8 QB #[.string l[k].name, .slice a' l[k].args.length c'] 26) := (HQ2.out.below HC735.out HQL.out).grown hg8 (fun e => by have h1 := (hrx.own.lt QB e.symm).2; have h2 := HQL.out; have h3 := HQF.out _ e.symm; omega)
        have HX8 : Hid (Blk W8 X #[.slice ta k tc, .map (y.mp []), y.nv []] 59) := (HS2.out.blk.below HC735.out HXL.out).grown hg8 (fun e => HS2.out.own X e.symm ⟨[], HS2.out.tri.root, Or.inl HS2.out.here⟩)
        have HXK : Hid (xs.length = k * 2) := by have h := hrx.own.1; rw [HKL.out] at h; exact h
        have HNE : Hid (X ≠ g ∧ QB ≠ g ∧ QB ≠ X) := ne3 HS2.out HXL.out HQL.out HQF.out HQX.out HC735.out.size hat8
        have HFIN := hide (nw_mid hlt HKL.out HP.out HB2.out HXN.out HS2.out HQ2.out HQF.out HQX.out)
        clear hr7 hr8 ho8 hg8 hat8 hgl8 hrx HP
        refine rdq 8 rfl fun K hK => ?_
        refine step_append_eqX rfl _ _ _ _ rfl rfl rfl HR8.out ?_
        refine hK.out _ _ (by exact ⟨HQ8.out.c0, HQ8.out.c1⟩) (fun hHeld => ?_)
        clear hK K
        try simp only [Act.put, sq]
        have hk1 : (k : Int) < ((k + 1 : Nat) : Int) := by omega
        have hk2 : (k : Int) < (k : Int) + 1 := by omega
        refine tkq (v := ?_) 9 rfl ?_ ?_
        rotate_left
        ·intro w' hSw
         obtain ⟨x0, x1⟩ := hSw
         go_simp <;> with_reducible rfl
        try simp only [Act.put, sq]
        refine tkq (v := ?_) 11 rfl ?_ ?_
        rotate_left
        ·intro w' hSw
         obtain ⟨x0, x1⟩ := hSw
         go_simp <;> with_reducible rfl
        try simp only [Act.put, sq]
        refine tkq (v := ?_) 12 rfl ?_ ?_
        rotate_left
        ·intro w' hSw
         obtain ⟨x0, x1⟩ := hSw
         go_simp <;> with_reducible rfl
        try simp only [Act.put, sq]
        clear hk1 hk2
        have HG0 : Hid (W8.cell? ⟨g, k * 2, none⟩ = some (.string ⟨#[]⟩) ∧ W8.cell? ⟨g, k * 2 + 1, none⟩ = some (.slice none 0 0)) := row_last HO8.out HXK.out
        have hX0 := HX8.out.c0
        have hXf := HX8.out.frozen 0
        have hXl := HX8.out.lt
        have hg0 := HG0.out.1
        have hg1 := HG0.out.2
        have hgf := fun j => HO8.out.frozenAt j
        have hgl := (HO8.out.lt g rfl).2
        refine wpAnyH_ready (rs := [10, 13]) (by kernel_rfl) (by simp) ?_
        refine AllReadyH.cons rfl (fun K hK => ?_) (AllReadyH.cons rfl (fun K hK => ?_) AllReadyH.nil)
        ·go_simp
         refine hK.out _ _ (by exact ⟨(World.cell?_of_block (w := W8) (a := ⟨QB, 0, none⟩) (by rw [Below.heap_setCell _ _ _ _ HNE.out.2.1, Below.heap_setCell _ _ _ _ HNE.out.2.1])).trans HQ8.out.c0, (World.cell?_of_block (w := W8) (a := ⟨QB, 1, none⟩) (by rw [Below.heap_setCell _ _ _ _ HNE.out.2.1, Below.heap_setCell _ _ _ _ HNE.out.2.1])).trans HQ8.out.c1⟩) (fun hHeld => ?_)
         clear hK K
         try simp only [Act.put, sq]
         have hx3 : ((W8.setCell ⟨g, k * 2, none⟩ (.string l[k].name)).setCell ⟨g, k * 2 + 1, none⟩ (.slice a1 l[k].args.length c1)).cell? ⟨X, 0, none⟩ = some (.slice ta k tc) := (World.cell?_of_block (w := W8) (a := ⟨X, 0, none⟩) (by rw [Below.heap_setCell _ _ _ _ HNE.out.1, Below.heap_setCell _ _ _ _ HNE.out.1])).trans HX8.out.c0
         have hf3 : ((W8.setCell ⟨g, k * 2, none⟩ (.string l[k].name)).setCell ⟨g, k * 2 + 1, none⟩ (.slice a1 l[k].args.length c1)).frozen? ⟨X, 0, none⟩ = false := (World.frozen?_of_block (w := W8) (a := ⟨X, 0, none⟩) (by rw [Below.heap_setCell _ _ _ _ HNE.out.1, Below.heap_setCell _ _ _ _ HNE.out.1])).trans (HX8.out.frozen 0)
         refine rdq 13 rfl fun K hK => ?_
         go_simp
         refine hK.out _ _ (by exact ⟨HFIN.out.2.2.c0, HFIN.out.2.2.c1⟩) (fun hHeld => ?_)
         clear hK K
         try simp only [Act.put, sq]
         clear hx3 hf3
         refine wpAnyH_done (by kernel_rfl) ?_ _
         go_wp2_with fail
         go_meet
         exact HFIN.out
        ·go_simp
         refine hK.out _ _ (by exact ⟨(World.cell?_of_block (w := W8) (a := ⟨QB, 0, none⟩) (Below.heap_setCell _ _ _ _ HNE.out.2.2)).trans HQ8.out.c0, (World.cell?_of_block (w := W8) (a := ⟨QB, 1, none⟩) (Below.heap_setCell _ _ _ _ HNE.out.2.2)).trans HQ8.out.c1⟩) (fun hHeld => ?_)
         clear hK K
         try simp only [Act.put, sq]
         have hx3 : (W8.setCell ⟨X, 0, none⟩ (.slice (some ⟨g, 0, none⟩) (k + 1) cap)).cell? ⟨g, k * 2, none⟩ = some (.string ⟨#[]⟩) := (World.cell?_of_block (w := W8) (a := ⟨g, k * 2, none⟩) (Below.heap_setCell _ _ _ _ (Ne.symm HNE.out.1))).trans HG0.out.1
         have hx4 : (W8.setCell ⟨X, 0, none⟩ (.slice (some ⟨g, 0, none⟩) (k + 1) cap)).cell? ⟨g, k * 2 + 1, none⟩ = some (.slice none 0 0) := (World.cell?_of_block (w := W8) (a := ⟨g, k * 2 + 1, none⟩) (Below.heap_setCell _ _ _ _ (Ne.symm HNE.out.1))).trans HG0.out.2
         have hf3 : ∀ j, (W8.setCell ⟨X, 0, none⟩ (.slice (some ⟨g, 0, none⟩) (k + 1) cap)).frozen? ⟨g, j, none⟩ = false := fun j => (World.frozen?_of_block (w := W8) (a := ⟨g, j, none⟩) (Below.heap_setCell _ _ _ _ (Ne.symm HNE.out.1))).trans (HO8.out.frozenAt j)
         have hsw : ((W8.setCell ⟨X, 0, none⟩ (.slice (some ⟨g, 0, none⟩) (k + 1) cap)).setCell ⟨g, k * 2, none⟩ (.string l[k].name)).setCell ⟨g, k * 2 + 1, none⟩ (.slice a1 l[k].args.length c1) = ((W8.setCell ⟨g, k * 2, none⟩ (.string l[k].name)).setCell ⟨g, k * 2 + 1, none⟩ (.slice a1 l[k].args.length c1)).setCell ⟨X, 0, none⟩ (.slice (some ⟨g, 0, none⟩) (k + 1) cap) := by rw [setC_swap _ _ _ _ _ HNE.out.1, setC_swap _ _ _ _ _ HNE.out.1]
         have HFIN2 := hide hsw
         clear hsw
         refine rdq 10 rfl fun K hK => ?_
         go_simp
         refine hK.out _ _ (by exact by rw [HFIN2.out]; exact ⟨HFIN.out.2.2.c0, HFIN.out.2.2.c1⟩) (fun hHeld => ?_)
         clear hK K
         try simp only [Act.put, sq]
         clear hx3 hx4 hf3
         refine wpAnyH_done (by kernel_rfl) ?_ _
         go_wp2_with fail
         go_meet
         rw [HFIN2.out]; exact HFIN.out
       ·go_simp
        go_at_call 24
        refine (copyOf_any l[k] _ v7 Xs (HTV2.out.later HC7.out) (by omega)).mono ?_
        rintro e v75 ⟨vv, rfl, ⟨a1, c1, rfl, hs1⟩, hb1⟩
        have HC75 : Hid (Below w2.heap.size w2 v75) := HC7.out.trans (hb1.mono HC7.out.size)
        have HSC : Hid (Sl v75 (fun b => w2.heap.size ≤ b) a1 l[k].args) := hs1.mono fun b hb _ => Nat.le_trans HC7.out.size hb
        have HZ : Hid (Blk v75 BZ #[.string ⟨#[]⟩, .slice none 0 0] 26) := HBZ.out.below hb1 HBZ.out.lt
        clear hs1 hb1
        go_simp
        refine hK.out _ _ (by exact ⟨(HQ2.out.below HC75.out HQL.out).c0, (HQ2.out.below HC75.out HQL.out).c1⟩) (fun hHeld => ?_)
        clear hK K
        try simp only [Act.put, sq]
        refine rdq 3 rfl fun K hK => ?_
        have c3 : v75.cell? ⟨X, 0, none⟩ = some (.slice ta k tc) := (HS2.out.blk.below HC75.out HXL.out).c0
        go_simp
        refine hK.out _ _ (by exact ⟨(HQ2.out.below HC75.out HQL.out).c0, (HQ2.out.below HC75.out HQL.out).c1⟩) (fun hHeld => ?_)
        clear hK K
        try simp only [Act.put, sq]
        clear c3
        refine tkq (v := ?_) 6 rfl ?_ ?_
        rotate_left
        ·intro w' hSw
         obtain ⟨x0, x1⟩ := hSw
         go_simp <;> with_reducible rfl
        try simp only [Act.put, sq]
        obtain ⟨xs, hrx⟩ := HS2.out.row
        have hr7 := hrx.below HC75.out
        obtain ⟨g, cap, W8, hr8, ho8, hg8, hat8, hgl8⟩ := app_zeroX hr7 (Nat.le_trans HB2.out.size HC75.out.size) (by rw [HKL.out]; omega) _ HZ.out
        have hp := HS2.out.push (c1 := c1) (t := l[k]) HB2.out.size HC75.out hr7 HSC.out ho8 hg8 hat8
        rw [HKL.out] at hp hr8 ho8
        have HP := hide hp
        clear hp
        have HR8 := hide hr8
        have HO8 := hide ho8
        have HQ8 : Hid (Blk W8 QB #[.string l[k].name, .slice a' l[k].args.length c'] 26) := (HQ2.out.below HC75.out HQL.out).grown hg8 (fun e => by have h1 := (hrx.own.lt QB e.symm).2; have h2 := HQL.out; have h3 := HQF.out _ e.symm; omega)
        have HX8 : Hid (Blk W8 X #[.slice ta k tc, .map (y.mp []), y.nv []] 59) := (HS2.out.blk.below HC75.out HXL.out).grown hg8 (fun e => HS2.out.own X e.symm ⟨[], HS2.out.tri.root, Or.inl HS2.out.here⟩)
        have HXK : Hid (xs.length = k * 2) := by have h := hrx.own.1; rw [HKL.out] at h; exact h
        have HNE : Hid (X ≠ g ∧ QB ≠ g ∧ QB ≠ X) := ne3 HS2.out HXL.out HQL.out HQF.out HQX.out HC75.out.size hat8
        have HFIN := hide (nw_mid hlt HKL.out HP.out HB2.out HXN.out HS2.out HQ2.out HQF.out HQX.out)
        clear hr7 hr8 ho8 hg8 hat8 hgl8 hrx HP
        refine rdq 8 rfl fun K hK => ?_
        refine step_append_eqX rfl _ _ _ _ rfl rfl rfl HR8.out ?_
        refine hK.out _ _ (by exact ⟨HQ8.out.c0, HQ8.out.c1⟩) (fun hHeld => ?_)
        clear hK K
        try simp only [Act.put, sq]
        have hk1 : (k : Int) < ((k + 1 : Nat) : Int) := by omega
        have hk2 : (k : Int) < (k : Int) + 1 := by omega
        refine tkq (v := ?_) 9 rfl ?_ ?_
        rotate_left
        ·intro w' hSw
         obtain ⟨x0, x1⟩ := hSw
         go_simp <;> with_reducible rfl
        try simp only [Act.put, sq]
        refine tkq (v := ?_) 11 rfl ?_ ?_
        rotate_left
        ·intro w' hSw
         obtain ⟨x0, x1⟩ := hSw
         go_simp <;> with_reducible rfl
        try simp only [Act.put, sq]
        refine tkq (v := ?_) 12 rfl ?_ ?_
        rotate_left
        ·intro w' hSw
         obtain ⟨x0, x1⟩ := hSw
         go_simp <;> with_reducible rfl
        try simp only [Act.put, sq]
        clear hk1 hk2
        have HG0 : Hid (W8.cell? ⟨g, k * 2, none⟩ = some (.string ⟨#[]⟩) ∧ W8.cell? ⟨g, k * 2 + 1, none⟩ = some (.slice none 0 0)) := row_last HO8.out HXK.out
        have hX0 := HX8.out.c0
        have hXf := HX8.out.frozen 0
        have hXl := HX8.out.lt
        have hg0 := HG0.out.1
        have hg1 := HG0.out.2
        have hgf := fun j => HO8.out.frozenAt j
        have hgl := (HO8.out.lt g rfl).2
        refine wpAnyH_ready (rs := [10, 13]) (by kernel_rfl) (by simp) ?_
        refine AllReadyH.cons rfl (fun K hK => ?_) (AllReadyH.cons rfl (fun K hK => ?_) AllReadyH.nil)
        ·go_simp
         refine hK.out _ _ (by exact ⟨(World.cell?_of_block (w := W8) (a := ⟨QB, 0, none⟩) (by rw [Below.heap_setCell _ _ _ _ HNE.out.2.1, Below.heap_setCell _ _ _ _ HNE.out.2.1])).trans HQ8.out.c0, (World.cell?_of_block (w := W8) (a := ⟨QB, 1, none⟩) (by rw [Below.heap_setCell _ _ _ _ HNE.out.2.1, Below.heap_setCell _ _ _ _ HNE.out.2.1])).trans HQ8.out.c1⟩) (fun hHeld => ?_)
         clear hK K
         try simp only [Act.put, sq]
         have hx3 : ((W8.setCell ⟨g, k * 2, none⟩ (.string l[k].name)).setCell ⟨g, k * 2 + 1, none⟩ (.slice a1 l[k].args.length c1)).cell? ⟨X, 0, none⟩ = some (.slice ta k tc) := (World.cell?_of_block (w := W8) (a := ⟨X, 0, none⟩) (by rw [Below.heap_setCell _ _ _ _ HNE.out.1, Below.heap_setCell _ _ _ _ HNE.out.1])).trans HX8.out.c0
         have hf3 : ((W8.setCell ⟨g, k * 2, none⟩ (.string l[k].name)).setCell ⟨g, k * 2 + 1, none⟩ (.slice a1 l[k].args.length c1)).frozen? ⟨X, 0, none⟩ = false := (World.frozen?_of_block (w := W8) (a := ⟨X, 0, none⟩) (by rw [Below.heap_setCell _ _ _ _ HNE.out.1, Below.heap_setCell _ _ _ _ HNE.out.1])).trans (HX8.out.frozen 0)
         refine rdq 13 rfl fun K hK => ?_
         go_simp
         refine hK.out _ _ (by exact ⟨HFIN.out.2.2.c0, HFIN.out.2.2.c1⟩) (fun hHeld => ?_)
         clear hK K
         try simp only [Act.put, sq]
         clear hx3 hf3
         refine wpAnyH_done (by kernel_rfl) ?_ _
         go_wp2_with fail
         go_meet
         exact HFIN.out
        ·go_simp
         refine hK.out _ _ (by exact ⟨(World.cell?_of_block (w := W8) (a := ⟨QB, 0, none⟩) (Below.heap_setCell _ _ _ _ HNE.out.2.2)).trans HQ8.out.c0, (World.cell?_of_block (w := W8) (a := ⟨QB, 1, none⟩) (Below.heap_setCell _ _ _ _ HNE.out.2.2)).trans HQ8.out.c1⟩) (fun hHeld => ?_)
         clear hK K
         try simp only [Act.put, sq]
         have hx3 : (W8.setCell ⟨X, 0, none⟩ (.slice (some ⟨g, 0, none⟩) (k + 1) cap)).cell? ⟨g, k * 2, none⟩ = some (.string ⟨#[]⟩) := (World.cell?_of_block (w := W8) (a := ⟨g, k * 2, none⟩) (Below.heap_setCell _ _ _ _ (Ne.symm HNE.out.1))).trans HG0.out.1
         have hx4 : (W8.setCell ⟨X, 0, none⟩ (.slice (some ⟨g, 0, none⟩) (k + 1) cap)).cell? ⟨g, k * 2 + 1, none⟩ = some (.slice none 0 0) := (World.cell?_of_block (w := W8) (a := ⟨g, k * 2 + 1, none⟩) (Below.heap_setCell _ _ _ _ (Ne.symm HNE.out.1))).trans HG0.out.2
         have hf3 : ∀ j, (W8.setCell ⟨X, 0, none⟩ (.slice (some ⟨g, 0, none⟩) (k + 1) cap)).frozen? ⟨g, j, none⟩ = false := fun j => (World.frozen?_of_block (w := W8) (a := ⟨g, j, none⟩) (Below.heap_setCell _ _ _ _ (Ne.symm HNE.out.1))).trans (HO8.out.frozenAt j)
         have hsw : ((W8.setCell ⟨X, 0, none⟩ (.slice (some ⟨g, 0, none⟩) (k + 1) cap)).setCell ⟨g, k * 2, none⟩ (.string l[k].name)).setCell ⟨g, k * 2 + 1, none⟩ (.slice a1 l[k].args.length c1) = ((W8.setCell ⟨g, k * 2, none⟩ (.string l[k].name)).setCell ⟨g, k * 2 + 1, none⟩ (.slice a1 l[k].args.length c1)).setCell ⟨X, 0, none⟩ (.slice (some ⟨g, 0, none⟩) (k + 1) cap) := by rw [setC_swap _ _ _ _ _ HNE.out.1, setC_swap _ _ _ _ _ HNE.out.1]
         have HFIN2 := hide hsw
         clear hsw
         refine rdq 10 rfl fun K hK => ?_
         go_simp
         refine hK.out _ _ (by exact by rw [HFIN2.out]; exact ⟨HFIN.out.2.2.c0, HFIN.out.2.2.c1⟩) (fun hHeld => ?_)
         clear hK K
         try simp only [Act.put, sq]
         clear hx3 hx4 hf3
         refine wpAnyH_done (by kernel_rfl) ?_ _
         go_wp2_with fail
         go_meet
         rw [HFIN2.out]; exact HFIN.out
     case rest =>
      obtain ⟨⟨y1, tv1, Z1, hS9⟩, hb9, hq9⟩ := hcut
      rename World => w9
      have HS9 := hide hS9
      have HB9 := hide hb9
      have HQ9 := hide hq9
      have HTV9 : Hid (TV w9 Xs (.agg #[.string l[k].name, .slice a' l[k].args.length c']) l[k]) := HTW.out.below HB9.out (fun b h _ => hXs b h)
      clear hS9 hb9 hq9
      go_upto_region 15 with fail
      refine wp_region_held_drew (S := fun w' => w'.cell? ⟨QB, 0, none⟩ = some (.string l[k].name) ∧ w'.cell? ⟨QB, 1, none⟩ = some (.slice a' l[k].args.length c')) (by kernel_rfl) (by exact ⟨HQ9.out.c0, HQ9.out.c1⟩) (fun hHeld => ?_)
      have HS10 : Hid (NwS w.heap.size X (l.take k) (l.take (k + 1)) w9.drew y1 tv1 Z1) := HS9.out.later ((Below.refl _ _).drew)
      have HB10 : Hid (Below w.heap.size w w9.drew) := HB9.out.drew
      have HQ10 : Hid (Blk w9.drew QB #[.string l[k].name, .slice a' l[k].args.length c'] 26) := HQ9.out
      have HTV10 : Hid (TV w9.drew Xs (.agg #[.string l[k].name, .slice a' l[k].args.length c']) l[k]) := HTV9.out.later (Below.refl _ _).drew
      clear HS9 HB9 HQ9 HTV9
      generalize w9.drew = w10 at *
      refine tkq (v := ?_) 0 rfl ?_ ?_
      rotate_left
      ·intro w' hSw
       obtain ⟨x0, x1⟩ := hSw
       go_simp <;> with_reducible rfl
      try simp only [Act.put, sq]
      refine tkq (v := ?_) 1 rfl ?_ ?_
      rotate_left
      ·intro w' hSw
       obtain ⟨x0, x1⟩ := hSw
       go_simp <;> with_reducible rfl
      try simp only [Act.put, sq]
      refine tkq (v := ?_) 2 rfl ?_ ?_
      rotate_left
      ·intro w' hSw
       obtain ⟨x0, x1⟩ := hSw
       go_simp <;> with_reducible rfl
      try simp only [Act.put, sq]
      refine tkq (v := ?_) 3 rfl ?_ ?_
      rotate_left
      ·intro w' hSw
       obtain ⟨x0, x1⟩ := hSw
       go_simp <;> with_reducible rfl
      try simp only [Act.put, sq]
      refine tkq (v := ?_) 5 rfl ?_ ?_
      rotate_left
      ·intro w' hSw
       obtain ⟨x0, x1⟩ := hSw
       go_simp <;> with_reducible rfl
      try simp only [Act.put, sq]
      refine rdq 4 rfl fun K hK => ?_
      go_simp
      go_at_call 26
      refine (spots_any l[k] [] (.slice none 0 0) _ w10 Xs w10.heap.size HTV10.out (by show 0 + sizeL [l[k]] ≤ 100000; omega) (Nat.le_refl _) (fun b hb => Nat.lt_of_lt_of_le (hXs b hb) HB10.out.size) (World.ownsRow_nil _ _ _ _)).mono ?_
      rintro e w11 ⟨g, cap, rfl, ho, he, hat⟩
      simp only [List.length_nil, Nat.zero_add, List.nil_append] at ho
      have hbe : Below w10.heap.size w10 w11 := ⟨he.os, he.tape, he.output, he.size, fun b hb => he.block b hb (fun e => by cases e)⟩
      have HS11 := hide (HS10.out.later hbe)
      have HB11 := hide (HB10.out.trans (hbe.mono HB10.out.size))
      have HQ11 := hide (HQ10.out.below hbe HQ10.out.lt)
      have hgn : ¬ OwnT (Nd (wsL (l.take k))) y1 g := fun e => by have h1 := HS10.out.tri.lt e; have h2 := (ho.lt g rfl).1; omega
      have CL := lay_any (L := wsL (l.take k)) (x := wdL [l[k]]) (sp := spL 0 [l[k]]) (g := g) (cap := cap) w11 HS11.out.tri HB11.out.size (spL_words [l[k]] 0) (sg_ok [l[k]] HER.out (by omega)) (by rw [wsL_length, HKL.out]; omega) (by rw [spL_length]; exact ho) hgn
      rw [wsL_length, HKL.out, HS11.out.here, spL_length] at CL
      have HCL := hide CL
      clear ho he hat hbe hgn CL
      simp only [List.length_nil, Nat.zero_add]
      go_simp
      refine hK.out _ _ (by exact ⟨HQ11.out.c0, HQ11.out.c1⟩) (fun hHeld => ?_)
      clear hK K
      try simp only [Act.put, sq]
      refine rdq 6 rfl fun K hK => ?_
      go_simp
      go_at_call 25
      refine HCL.out.mono ?_
      rintro e w12 ⟨rfl, hly⟩
      have hex := ly_frame hly
      have HQ12 : Hid (Blk w12 QB #[.string l[k].name, .slice a' l[k].args.length c'] 26) := HQ11.out.exq hex (term_apart HS11.out.tri HQ11.out)
      have HB12 : Hid (Below w.heap.size w w12) := HB11.out.trans (hex.below HB11.out.size fun b hq => HS11.out.ge b hq)
      obtain ⟨y2, hS12⟩ := NwS.laid HB11.out.size HS11.out hly
      rw [← List.take_succ_eq_append_getElem hlt] at hS12
      have HS12 := hide hS12
      clear hly hS12 HCL hex
      go_simp
      refine hK.out _ _ (by exact ⟨HQ12.out.c0, HQ12.out.c1⟩) (fun hHeld => ?_)
      clear hK K
      try simp only [Act.put, sq]
      refine wpAnyH_done (by kernel_rfl) ?_ _
      go_wp2_with fail
      go_roundw
      case rel => exact ⟨k + 1, y2, tv1, Z1, hlt, by go_num, HS12.out, HB12.out⟩
      case measure => simp [intOf]; omega
    ·have hki : ¬ (k : Int) < (l.length : Int) := by omega
     have htk : l.take k = l := List.take_of_length_le (by omega)
     rw [htk] at HSS
     go_wp2_with fail
     refine bodyPost_ret (v := .tuple #[.pointer (some ⟨X, 0, none⟩), .int .i64 0]) (by simp [results, Tryz.results9, go_sem]) rfl ?_
     exact ⟨HB.out, Or.inr ⟨by rw [HE.out]; exact HZ.out, X, y, tv, Z, rfl, HSS.out⟩⟩
attribute [local go_sem] Oper.semAt_some
theorem wk_leaf {W0 W w2 W3 : World} {N0 Bs g cap k : Nat} {L : List (List Sg)} {sp : List (Sg × Nat)} {u : List Sg} {ns : List Nat} {nv v' : Value} (hh : N0 ≤ Bs) (hS : SrS W0 N0 Bs g cap k sp ns nv w2) (hz : N0 ≤ w2.heap.size) (hb : Below W.heap.size W w2)
  (hX : Blk W3 Bs #[.int .i64 (k : Int), .slice (some ⟨g, 0, none⟩) sp.length cap, nv] 90) (ho : W3.ownsRow N0 3 1 v' (ns ++ nmL L u).length (nuV (ns ++ nmL L u))) (hg : w2.grownBy W3 nv.ownBlock) (hat : ∀ b, v'.ownBlock = some b → nv.ownBlock = some b ∨ w2.heap.size ≤ b) :
  WkPost W0 N0 Bs g cap k L sp u [] ns nv W (W3.setCell ⟨Bs, 2, none⟩ v') := by
 have hge : ∀ b, nv.ownBlock = some b → N0 ≤ b := fun b hb => (hS.row.lt b hb).1
 have hne : v'.ownBlock ≠ some Bs := fun e => by
  rcases hat Bs e with h | h
  ·exact hS.own_ne h
  ·have := hS.box.lt; omega
 have hx2 := hX.set 2 v'
 refine ⟨nmL L u, v', SrP.leaf L k u, ⟨(hS.old.grown hg hz hge).setCell (p := ⟨Bs, 2, none⟩) hh v', by simpa using hx2, ownsRow_at ho fun b hb => Below.heap_setCell _ _ _ _ (fun e => hne (by have e2 : b = Bs := e; rw [← e2]; exact hb)), ownsRow_at hS.spo fun b hb => ?_⟩, ?_, fun b hv => ?_⟩
 ·have e : g = b := by simpa [Value.ownBlock] using hb
  subst e
  exact (Below.heap_setCell _ _ _ _ hS.gne.1).trans (hg.block g (hS.spo.lt g rfl).2 (fun e => hS.gne.2 e.symm))
 ·have E1 : ExQ (fun b => b = Bs ∨ nv.ownBlock = some b) W w2 := ExQ.ofBelow hb
  exact (E1.grown hg fun c hc => Or.inr (Or.inr hc)).set (B := Bs) (Or.inl rfl) 2 v'
 ·rcases hat b hv with h | h
  ·exact Or.inl h
  ·exact Or.inr (Nat.le_trans hb.size h)
set_option maxHeartbeats 4000000 in
theorem walkA {W0 : World} {N N0 Bs g cap M k : Nat} {tv : Value} {L : List (List Sg)} {y : Lay} {sp : List (Sg × Nat)} (hC : Ctx W0 N N0 Bs g cap M tv L y sp) : WkC W0 N0 Bs g cap k L y sp [] := by
 intro a u ns nv W hsp hu hD hS hz
 have ha := hsp.eq
 have hle := hD.len (SrP.leaf L k u)
 have hfew := hC.few
 rw [List.length_append] at hle
 have HLE : Hid (ns.length + (nmL L u).length ≤ 1000000) := by unfold Hid; omega
 clear hsp hD hle hfew
 subst ha
 have HU := hide hu
 have HB1 : Hid (Below W.heap.size W (W.alloc (.cells #[.pointer (some ⟨Bs, 0, none⟩)] 106))) := (Below.refl _ _).alloc (Nat.le_refl _) _
 have HS1 : Hid (SrS W0 N0 Bs g cap k sp ns nv (W.alloc (.cells #[.pointer (some ⟨Bs, 0, none⟩)] 106))) := hS.later hz HB1.out
 have HP1 : Hid (Blk (W.alloc (.cells #[.pointer (some ⟨Bs, 0, none⟩)] 106)) W.heap.size #[.pointer (some ⟨Bs, 0, none⟩)] 106) := Blk.new _ _ _
 have hnd := hC.nd HS1.out.old hu
 have hnu := hC.tri.nums hu
 obtain ⟨ma, mc, hmv⟩ := own_sliceI hnu
 have HMV := hide hmv
 rw [hmv] at hnd
 have HN1 : Hid ((W.alloc (.cells #[.pointer (some ⟨Bs, 0, none⟩)] 106)).cell? ⟨y.ad u, ofN u + 1, none⟩ = some (.slice ma (nmL L u).length mc)) := hnd.c1
 have HZ1 : Hid (N0 ≤ (W.alloc (.cells #[.pointer (some ⟨Bs, 0, none⟩)] 106)).heap.size ∧ y.ad u < N0 ∧ N0 ≤ W.heap.size ∧ W.heap.size ≠ Bs) := ⟨by simp; omega, by have := (hC.tri.node hu).lt; have := hC.size; omega, hz, by have := hS.box.lt; omega⟩
 have HBO : Hid (nv.ownBlock ≠ some W.heap.size) := fun e => by have := (hS.row.lt _ e).2; omega
 obtain ⟨na, nc, rfl⟩ := own_sliceI hS.row
 have s0 := HS1.out.box.c1
 have p0 := HP1.out.c0
 clear hS hz hu hnd hnu hmv
 unfold ndV
 generalize hPA : y.ad u = PA at *
 generalize hPO : ofN u = PO at *
 clear hPA hPO
 go_enter Tryz.func45, Tryz.ntmps45
 go_upto_region 2 with fail
 clear s0 p0
 generalize hBP : W.heap.size = BP at HP1 HZ1 HBO ⊢
 generalize W.alloc (.cells #[.pointer (some ⟨Bs, 0, none⟩)] 106) = w1 at *
 clear hBP
 refine wp_region_held_drew (S := fun w' => w'.cell? ⟨BP, 0, none⟩ = some (.pointer (some ⟨Bs, 0, none⟩)) ∧ w'.cell? ⟨PA, PO + 1, none⟩ = some (.slice ma (nmL L u).length mc)) (by kernel_rfl) (by exact ⟨HP1.out.c0, HN1.out⟩) (fun hHeld => ?_)
 have HS2 : Hid (SrS W0 N0 Bs g cap k sp ns (.slice na ns.length nc) w1.drew) := ⟨HS1.out.old.drew, HS1.out.box, HS1.out.row, HS1.out.spo⟩
 have HP2 : Hid (Blk w1.drew BP #[.pointer (some ⟨Bs, 0, none⟩)] 106) := HP1.out
 have HN2 : Hid (w1.drew.cell? ⟨PA, PO + 1, none⟩ = some (.slice ma (nmL L u).length mc)) := HN1.out
 have HZ2 : Hid (N0 ≤ w1.drew.heap.size ∧ PA < N0 ∧ N0 ≤ BP ∧ BP ≠ Bs) := HZ1.out
 have HB2 : Hid (Below W.heap.size W w1.drew) := HB1.out.drew
 obtain ⟨v', W3, hr3, ho3, hg3, hat3, va, vc, rfl⟩ := app_nums HS2.out.row HZ2.out.1 (hC.nums HS2.out.old HU.out) HLE.out
 rw [HMV.out] at hr3
 generalize w1.drew = w2 at *
 have HR3 := hide hr3
 have HP3 : Hid (Blk W3 BP #[.pointer (some ⟨Bs, 0, none⟩)] 106) := HP2.out.grown hg3 (fun e => HBO.out e.symm)
 have HN3 : Hid (W3.cell? ⟨PA, PO + 1, none⟩ = some (.slice ma (nmL L u).length mc)) := hg3.cell HN2.out (fun e => by have h1 := (HS2.out.row.lt PA e.symm).1; have h2 := HZ2.out.2.1; omega)
 have HX3 : Hid (Blk W3 Bs #[.int .i64 (k : Int), .slice (some ⟨g, 0, none⟩) sp.length cap, .slice na ns.length nc] 90) := HS2.out.box.grown hg3 (fun e => HS2.out.own_ne e.symm)
 have HFIN : Hid (WkPost W0 N0 Bs g cap k L sp u [] ns (.slice na ns.length nc) W (W3.setCell ⟨Bs, 2, none⟩ (.slice va (ns ++ nmL L u).length vc))) := wk_leaf hC.here HS2.out HZ2.out.1 HB2.out HX3.out ho3 hg3 hat3
 have HP4 : Hid (Blk (W3.setCell ⟨Bs, 2, none⟩ (.slice va (ns ++ nmL L u).length vc)) BP #[.pointer (some ⟨Bs, 0, none⟩)] 106) := HP3.out.setOther _ _ HZ2.out.2.2.2
 have HN4 : Hid ((W3.setCell ⟨Bs, 2, none⟩ (.slice va (ns ++ nmL L u).length vc)).cell? ⟨PA, PO + 1, none⟩ = some (.slice ma (nmL L u).length mc)) := (World.cell?_of_block (w := W3) (a := ⟨PA, PO + 1, none⟩) (Below.heap_setCell _ _ _ _ (by show PA ≠ Bs; have h1 := HZ2.out.2.1; have h2 := hC.here; omega))).trans HN3.out
 obtain ⟨nn, hnn⟩ : ∃ nn, (ns ++ nmL L u).length = nn := ⟨_, rfl⟩
 rw [hnn] at HR3 HFIN HP4 HN4
 clear hr3 ho3 hg3 hat3 hnn
 refine tkq (v := ?_) 0 rfl ?_ ?_
 rotate_left
 ·intro w' hSw
  obtain ⟨x0, x1⟩ := hSw
  go_simp <;> with_reducible rfl
 try simp only [Act.put, sq]
 refine tkq (v := ?_) 1 rfl ?_ ?_
 rotate_left
 ·intro w' hSw
  obtain ⟨x0, x1⟩ := hSw
  go_simp <;> with_reducible rfl
 try simp only [Act.put, sq]
 refine tkq (v := ?_) 2 rfl ?_ ?_
 rotate_left
 ·intro w' hSw
  obtain ⟨x0, x1⟩ := hSw
  go_simp <;> with_reducible rfl
 try simp only [Act.put, sq]
 refine tkq (v := ?_) 3 rfl ?_ ?_
 rotate_left
 ·intro w' hSw
  obtain ⟨x0, x1⟩ := hSw
  go_simp <;> with_reducible rfl
 try simp only [Act.put, sq]
 refine tkq (v := ?_) 5 rfl ?_ ?_
 rotate_left
 ·intro w' hSw
  obtain ⟨x0, x1⟩ := hSw
  go_simp <;> with_reducible rfl
 try simp only [Act.put, sq]
 refine tkq (v := ?_) 6 rfl ?_ ?_
 rotate_left
 ·intro w' hSw
  obtain ⟨x0, x1⟩ := hSw
  go_simp <;> with_reducible rfl
 try simp only [Act.put, sq]
 refine tkq (v := ?_) 7 rfl ?_ ?_
 rotate_left
 ·intro w' hSw
  obtain ⟨x0, x1⟩ := hSw
  go_simp <;> with_reducible rfl
 try simp only [Act.put, sq]
 refine tkq (v := ?_) 8 rfl ?_ ?_
 rotate_left
 ·intro w' hSw
  obtain ⟨x0, x1⟩ := hSw
  go_simp <;> with_reducible rfl
 try simp only [Act.put, sq]
 refine rdq 4 rfl fun K hK => ?_
 have c4 := HS2.out.box.c2
 go_simp
 refine hK.out _ _ (by exact ⟨HP2.out.c0, HN2.out⟩) (fun hHeld => ?_)
 clear hK K
 try simp only [Act.put, sq]
 clear c4
 refine rdq 9 rfl fun K hK => ?_
 refine step_append_eqX rfl _ _ _ _ rfl rfl rfl HR3.out ?_
 refine hK.out _ _ (by exact ⟨HP3.out.c0, HN3.out⟩) (fun hHeld => ?_)
 clear hK K
 try simp only [Act.put, sq]
 refine tkq (v := ?_) 10 rfl ?_ ?_
 rotate_left
 ·intro w' hSw
  obtain ⟨x0, x1⟩ := hSw
  go_simp <;> with_reducible rfl
 try simp only [Act.put, sq]
 refine tkq (v := ?_) 11 rfl ?_ ?_
 rotate_left
 ·intro w' hSw
  obtain ⟨x0, x1⟩ := hSw
  go_simp <;> with_reducible rfl
 try simp only [Act.put, sq]
 refine rdq 12 rfl fun K hK => ?_
 have hx0 := HX3.out.c2
 have hxf := HX3.out.frozen 2
 have hxl := HX3.out.lt
 go_simp
 refine hK.out _ _ (by exact ⟨HP4.out.c0, HN4.out⟩) (fun hHeld => ?_)
 clear hK K
 try simp only [Act.put, sq]
 clear hx0 hxf hxl
 refine wpAnyH_done (by kernel_rfl) ?_ _
 go_wp2_with fail
 refine bodyPost_ret (results_none rfl _ _ _) rfl ?_
 exact ⟨rfl, HFIN.out⟩
attribute [local go_sem] Oper.semAt_some
theorem emB_vsg : emB vsg = true := by simp [emB, vsg]
theorem emB_ne {s : ByteArray} {n : Nat} (h : s ≠ ⟨#[]⟩) : emB (s, n) = false := by
 unfold emB
 cases he : s.toList.isEmpty with
 | false => rfl
 | true => exact absurd (bytes_inj (by rw [List.isEmpty_iff.1 he]; simp)) h
def F1P (L : List (List Sg)) (k : Nat) (u : List Sg) (r : List Tm) (g1 : List Nat) : Prop := if k = 1 then g1 = [] else SrP L k (u ++ [vsg]) r g1
theorem wk_join {W0 W W' : World} {N0 Bs g cap k : Nat} {L : List (List Sg)} {sp : List (Sg × Nat)} {u : List Sg} {s : ByteArray} {l r : List Tm} {ns g1 g2 : List Nat} {nv nv2 : Value} (h0 : ¬ (varB s = true ∧ k ≠ 0)) (hs : s ≠ ⟨#[]⟩) (h1 : if k = 1 then g1 = [] else SrP L k (u ++ [vsg]) r g1) (h2 : if varB s = true then g2 = [] else SrP L k (u ++ [(s, l.length)]) (l ++ r) g2)
  (hS : SrS W0 N0 Bs g cap k sp (ns ++ (g1 ++ g2)) nv2 W') (hE : ExQ (fun b => b = Bs ∨ nv.ownBlock = some b) W W') (hO : ∀ b, nv2.ownBlock = some b → nv.ownBlock = some b ∨ W.heap.size ≤ b) : WkPost W0 N0 Bs g cap k L sp u (⟨s, l⟩ :: r) ns nv W W' :=
 ⟨g1 ++ g2, nv2, SrP.join h0 hs h1 h2, hS, hE, hO⟩
theorem wk_join2 {W0 W w6 w7 w8 : World} {N0 Bs g cap k : Nat} {L : List (List Sg)} {sp : List (Sg × Nat)} {u : List Sg} {s : ByteArray} {l r : List Tm} {ns g1 g2 : List Nat} {nv nv1 nv2 : Value} (h0 : ¬ (varB s = true ∧ k ≠ 0)) (hs : s ≠ ⟨#[]⟩) (hv : varB s = false) (h1 : if k = 1 then g1 = [] else SrP L k (u ++ [vsg]) r g1) (h2 : SrP L k (u ++ [(s, l.length)]) (l ++ r) g2)
  (hS : SrS W0 N0 Bs g cap k sp (ns ++ g1 ++ g2) nv2 w8) (hE : ExQ (fun b => b = Bs ∨ nv.ownBlock = some b) W w6) (hb : Below w6.heap.size w6 w7) (hE8 : ExQ (fun b => b = Bs ∨ nv1.ownBlock = some b) w7 w8) (hO : ∀ b, nv1.ownBlock = some b → nv.ownBlock = some b ∨ W.heap.size ≤ b) (hO8 : ∀ b, nv2.ownBlock = some b → nv1.ownBlock = some b ∨ w7.heap.size ≤ b) : WkPost W0 N0 Bs g cap k L sp u (⟨s, l⟩ :: r) ns nv W w8 := by
 refine wk_join h0 hs h1 (g2 := g2) (by rw [if_neg (by rw [hv]; simp)]; exact h2) (by rw [← List.append_assoc]; exact hS) ((hE.transN (ExQ.ofBelow (Q := fun _ => False) hb) fun _ h _ => h.elim).transN hE8 fun i hi hlt => ?_) fun b hb2 => ?_
 ·rcases hi with h | h
  ·exact Or.inl h
  ·rcases hO i h with h3 | h3
   ·exact Or.inr h3
   ·omega
 ·rcases hO8 b hb2 with h | h
  ·exact hO b h
  ·exact Or.inr (by have := hE.size; have := hb.size; omega)
set_option maxHeartbeats 4000000 in
theorem walkC2 {W0 : World} {N N0 Bs g cap M : Nat} {tv : Value} {L : List (List Sg)} {y : Lay} {sp : List (Sg × Nat)} {k : Nat} (hC : Ctx W0 N N0 Bs g cap M tv L y sp) {s : ByteArray} {l r : List Tm} (hr : WkC W0 N0 Bs g cap k L y sp r) (hlr : WkC W0 N0 Bs g cap k L y sp (l ++ r)) (hv : varB s = false)  (hs : s ≠ ⟨#[]⟩) (hnm : nameB s = true) (hsok : SgOk (s, l.length)) : WkC W0 N0 Bs g cap k L y sp (⟨s, l⟩ :: r) := by
 intro a u ns nv W hsp hu hD hS hz
 have h0 : ¬ (varB s = true ∧ k ≠ 0) := by simp [hv]
 have hget := hsp.get
 have hsg : sgT ⟨s, l⟩ = (s, l.length) := sgT_sym (t := ⟨s, l⟩) hv
 rw [hsg] at hget
 obtain ⟨q3, hq3⟩ : ∃ q3, q3 = a + 1 + sizeL l := ⟨_, rfl⟩
 have hget2 : sp[a]? = some ((s, l.length), q3) := by rw [hq3]; exact hget
 have HQ3 := hide hq3
 have halt := hsp.lt
 have hals := hC.short
 have hai : (a : Int) < (sp.length : Int) := by omega
 have hane : ((a : Int) == (sp.length : Int)) = false := by simp; omega
 have hane2 : ¬ (a : Int) = (sp.length : Int) := by omega
 have HSP := hide hsp
 have HU := hide hu
 have HD := hide hD
 have HZ := hide hz
 have HCx := hide hC
 have HB1 : Hid (Below W.heap.size W (W.alloc (.cells #[.pointer (some ⟨Bs, 0, none⟩)] 106))) := (Below.refl _ _).alloc (Nat.le_refl _) _
 have HS1 : Hid (SrS W0 N0 Bs g cap k sp ns nv (W.alloc (.cells #[.pointer (some ⟨Bs, 0, none⟩)] 106))) := hS.later hz HB1.out
 have HP1 : Hid (Blk (W.alloc (.cells #[.pointer (some ⟨Bs, 0, none⟩)] 106)) W.heap.size #[.pointer (some ⟨Bs, 0, none⟩)] 106) := Blk.new _ _ _
 obtain ⟨d0, d1, d2⟩ := HS1.out.spot hget2
 obtain ⟨na, nc, rfl⟩ := own_sliceI hS.row
 have HOW : Hid (∀ b, (Value.slice na ns.length nc).ownBlock = some b → b < W.heap.size) := fun b hb => (hS.row.lt b hb).2
 have HBL : Hid (Bs < W.heap.size) := hS.box.lt
 have s0 := HS1.out.box.c1
 have p0 := HP1.out.c0
 clear hS hz hu hsp hget hget2 hD halt hq3 hsg
 simp only [sgV, vsg] at d0 d1 d2
 unfold ndV
 generalize hPA : y.ad u = PA at *
 generalize hPO : ofN u = PO at *
 have HPA := hide hPA
 have HPO := hide hPO
 clear hPA hPO
 go_enter Tryz.func45, Tryz.ntmps45
 go_upto_region 3 with fail
 clear s0
 have s1 := HS1.out.box.c1
 have HB2 : Hid (Below W.heap.size W ((W.alloc (.cells #[.pointer (some ⟨Bs, 0, none⟩)] 106)).alloc (.cells #[.string s, .int .i64 (l.length : Int), .int .i64 (q3 : Int)] 87))) := HB1.out.alloc (by simp) _
 have HS2 : Hid (SrS W0 N0 Bs g cap k sp ns (.slice na ns.length nc) ((W.alloc (.cells #[.pointer (some ⟨Bs, 0, none⟩)] 106)).alloc (.cells #[.string s, .int .i64 (l.length : Int), .int .i64 (q3 : Int)] 87))) := HS1.out.later (by have := HZ.out; simp; omega) ((Below.refl _ _).alloc (Nat.le_refl _) _)
 have HP2 : Hid (Blk ((W.alloc (.cells #[.pointer (some ⟨Bs, 0, none⟩)] 106)).alloc (.cells #[.string s, .int .i64 (l.length : Int), .int .i64 (q3 : Int)] 87)) W.heap.size #[.pointer (some ⟨Bs, 0, none⟩)] 106) := HP1.out.alloc _
 have HH2 : Hid (Blk ((W.alloc (.cells #[.pointer (some ⟨Bs, 0, none⟩)] 106)).alloc (.cells #[.string s, .int .i64 (l.length : Int), .int .i64 (q3 : Int)] 87)) (W.alloc (.cells #[.pointer (some ⟨Bs, 0, none⟩)] 106)).heap.size #[.string s, .int .i64 (l.length : Int), .int .i64 (q3 : Int)] 87) := Blk.new _ _ _
 have HNE : Hid (W.heap.size < (W.alloc (.cells #[.pointer (some ⟨Bs, 0, none⟩)] 106)).heap.size) := by unfold Hid; simp
 generalize hw1 : W.alloc (.cells #[.pointer (some ⟨Bs, 0, none⟩)] 106) = w1 at *
 clear hw1
 go_upto_region 4 with fail
 clear d0 d1 d2 s1 p0 HS1 HP1
 generalize hBP : W.heap.size = BP at HP2 HNE HOW HBL HZ ⊢
 have HBP := hide hBP
 clear hBP
 generalize hBHB : w1.heap.size = BH at HH2 HNE ⊢
 generalize hw2 : w1.alloc (.cells #[.string s, .int .i64 (l.length : Int), .int .i64 (q3 : Int)] 87) = w2 at *
 clear hBHB hw2 HB1 w1
 have h20 := HH2.out.c0
 have h21 := HH2.out.c1
 have p2 := HP2.out.c0
 have k2 := HS2.out.box.c0
 go_upto_region 8 with (go_at_call 67; refine (signIsVar_any (s, l.length) w2).mono ?_; rintro e w3 ⟨rfl, hb3⟩; rw [show emB (s, l.length) = false from emB_ne hs]; have HB3 := hide hb3; clear hb3; have p3 := (HP2.out.below HB3.out HP2.out.lt).c0; have k3 := (HS2.out.box.below HB3.out HS2.out.box.lt).c0)
 clear h20 h21 p2 k2 p3 k3
 have HZ2 : Hid (N0 ≤ w2.heap.size) := Nat.le_trans HZ.out (by rw [← HBP.out]; exact HB2.out.size)
 have HS3 := hide (HS2.out.later HZ2.out HB3.out)
 have HP3 := hide (HP2.out.below HB3.out HP2.out.lt)
 have HH3 := hide (HH2.out.below HB3.out HH2.out.lt)
 have HW3 := hide (HB2.out.trans (HB3.out.mono HB2.out.size))
 have HZ3 : Hid (N0 ≤ w3.heap.size) := Nat.le_trans HZ2.out HB3.out.size
 obtain ⟨R1, hR1, hlk1⟩ := hC.look HU.out vsg ⟨Nat.zero_le _, Nat.zero_le _⟩
 have HND : Hid (∀ W', Below N0 W0 W' → W'.cell? ⟨PA, PO, none⟩ = some (.map (y.mp u))) := fun W' hb => by have h := (hC.nd hb HU.out).c0; rw [HPA.out, HPO.out] at h; exact h
 obtain ⟨R2, hR2, hlk2⟩ := hC.look HU.out (s, l.length) hsok
 generalize y.mp u = mu at HND hlk1 hlk2
 have HLK2 := hide hlk2
 have HR2 := hide hR2
 clear hlk2 hR2
 have c3 := HND.out w3 HS3.out.old
 have l3 : (Instr.lookup 55 (.map mu) (.agg #[.string ⟨#[]⟩, .int .i64 0]) false).run Tryz.prog w3 = .ok R1 w3 := hlk1 w3 HS3.out.old
 clear hlk1 HB2 HS2 HP2 HH2 HB3 HZ2 w2
 rcases hR1 with ⟨hc1, rfl⟩ | ⟨hc1, rfl⟩
 ·have HC1 := hide hc1
  clear hc1
  by_cases hk1 : k = 1
  ·have H1 : Hid (F1P L k u r []) := by unfold Hid F1P; rw [if_pos hk1]
   have HS5 : Hid (SrS W0 N0 Bs g cap k sp (ns ++ []) (.slice na ns.length nc) w3) := by rw [List.append_nil]; exact HS3.out
   have HE5 : Hid (ExQ (fun b => b = Bs ∨ (Value.slice na ns.length nc).ownBlock = some b) W w3) := ExQ.ofBelow HW3.out
   have HO5 : Hid (∀ b, (Value.slice na ns.length nc).ownBlock = some b → (Value.slice na ns.length nc).ownBlock = some b ∨ W.heap.size ≤ b) := fun b h => Or.inl h
   have p3 := HP3.out.c0
   have k3 := HS3.out.box.c0
   have hkb : ((k : Int) != 1) = false := by simp [hk1]
   have hkc : (k : Int) = 1 := by omega
   go_upto_region 11 with fail
   clear c3 l3 p3 k3 hkb hkc HS3 HW3 hk1
   refine wp_region_held_drew (S := fun w' => w'.cell? ⟨PA, PO, none⟩ = some (.map mu) ∧ w'.cell? ⟨BH, 0, none⟩ = some (.string s) ∧ w'.cell? ⟨BH, 1, none⟩ = some (.int .i64 (l.length : Int)) ∧ Below N0 W0 w') (by kernel_rfl) (by exact ⟨HND.out _ HS5.out.old.drew, HH3.out.c0, HH3.out.c1, HS5.out.old.drew⟩) (fun hHeld => ?_)
   refine tkq (v := ?_) 0 rfl ?_ ?_
   rotate_left
   ·intro w' hSw
    obtain ⟨x0, x1, x2, x3⟩ := hSw
    go_simp <;> with_reducible rfl
   try simp only [Act.put, sq]
   refine tkq (v := ?_) 1 rfl ?_ ?_
   rotate_left
   ·intro w' hSw
    obtain ⟨x0, x1, x2, x3⟩ := hSw
    go_simp <;> with_reducible rfl
   try simp only [Act.put, sq]
   refine tkq (v := ?_) 2 rfl ?_ ?_
   rotate_left
   ·intro w' hSw
    obtain ⟨x0, x1, x2, x3⟩ := hSw
    go_simp <;> with_reducible rfl
   try simp only [Act.put, sq]
   refine tkq (v := ?_) 3 rfl ?_ ?_
   rotate_left
   ·intro w' hSw
    obtain ⟨x0, x1, x2, x3⟩ := hSw
    go_simp <;> with_reducible rfl
   try simp only [Act.put, sq]
   refine tkq (v := ?_) 4 rfl ?_ ?_
   rotate_left
   ·intro w' hSw
    obtain ⟨x0, x1, x2, x3⟩ := hSw
    go_simp <;> with_reducible rfl
   try simp only [Act.put, sq]
   refine tkq (v := ?_) 5 rfl ?_ ?_
   rotate_left
   ·intro w' hSw
    obtain ⟨x0, x1, x2, x3⟩ := hSw
    go_simp <;> with_reducible rfl
   try simp only [Act.put, sq]
   refine tkq (v := ?_) 6 rfl ?_ ?_
   rotate_left
   ·intro w' hSw
    obtain ⟨x0, x1, x2, x3⟩ := hSw
    have hlk : (Instr.lookup 55 (.map mu) (.agg #[.string s, .int .i64 (l.length : Int)]) false).run Tryz.prog w' = .ok R2 w' := HLK2.out w' x3
    go_simp <;> with_reducible rfl
   try simp only [Act.put, sq]
   refine tkq (v := ?_) 7 rfl ?_ ?_
   rotate_left
   ·intro w' hSw
    obtain ⟨x0, x1, x2, x3⟩ := hSw
    go_simp <;> with_reducible rfl
   try simp only [Act.put, sq]
   refine wpAnyH_done (by kernel_rfl) ?_ _
   have HS6 : Hid (SrS W0 N0 Bs g cap k sp (ns ++ []) (.slice na ns.length nc) w3.drew) := ⟨HS5.out.old.drew, HS5.out.box, HS5.out.row, HS5.out.spo⟩
   have HE6 : Hid (ExQ (fun b => b = Bs ∨ (Value.slice na ns.length nc).ownBlock = some b) W w3.drew) := HE5.out.drew
   have HP6 : Hid (Blk w3.drew BP #[.pointer (some ⟨Bs, 0, none⟩)] 106) := HP3.out
   have HH6 : Hid (Blk w3.drew BH #[.string s, .int .i64 (l.length : Int), .int .i64 (q3 : Int)] 87) := HH3.out
   have HZ6 : Hid (N0 ≤ w3.drew.heap.size) := HZ3.out
   clear hHeld HS5 HE5 HP3 HH3
   generalize w3.drew = w6 at *
   rcases HR2.out with ⟨hc2, hr2⟩ | ⟨hc2, hr2⟩
   ·rw [hr2]
    clear hr2
    have HC2 := hide hc2
    clear hc2
    have h60 := HH6.out.c0
    have h61 := HH6.out.c1
    have p6 := HP6.out.c0
    go_upto_region 13 with (go_at_call 67; refine (signIsVar_any (s, l.length) w6).mono ?_; rintro e w7 ⟨rfl, hb7⟩; rw [show emB (s, l.length) = false from emB_ne hs]; have HB7 := hide hb7; clear hb7)
    clear h60 h61 p6
    have p7 := (HP6.out.below HB7.out HP6.out.lt).c0
    have CL := hlr (a + 1) (u ++ [(s, l.length)]) (ns ++ []) (.slice na ns.length nc) w7 HSP.out.down HC2.out (HD.out.sym h0 hs hv H1.out) (HS6.out.later HZ6.out HB7.out) (Nat.le_trans HZ6.out HB7.out.size)
    unfold ndV at CL
    rw [of_snoc, show ((a + 1 : Nat) : Int) = (a : Int) + 1 by omega] at CL
    have HCL := hide CL
    clear CL
    go_wp2_with fail
    refine HCL.out.mono ?_
    rintro e w8 ⟨rfl, g2, nv2, hg2, hS8, hE8, hO8⟩
    have HFIN : Hid (WkPost W0 N0 Bs g cap k L sp u (⟨s, l⟩ :: r) ns (.slice na ns.length nc) W w8) := wk_join2 h0 hs hv H1.out hg2 hS8 HE6.out HB7.out hE8 HO5.out hO8
    clear hg2 hS8 hE8 hO8 HCL p7
    go_wp2_with fail
    go_end0
    exact ⟨rfl, HFIN.out⟩
   ·rw [hr2]
    clear hr2
    have HFIN : Hid (WkPost W0 N0 Bs g cap k L sp u (⟨s, l⟩ :: r) ns (.slice na ns.length nc) W w6) := wk_join h0 hs H1.out (g2 := []) (by rw [if_neg (by rw [hv]; simp)]; exact SrP.none hc2) (by rw [← List.append_assoc, List.append_nil]; exact HS6.out) HE6.out HO5.out
    clear hc2
    go_wp2_with fail
    go_end0
    exact ⟨rfl, HFIN.out⟩
  ·have hkb : ((k : Int) != 1) = true := by simp; omega
   have hkc : ¬ (k : Int) = 1 := by omega
   have HK1 := hide hk1
   have CL := hr q3 (u ++ [vsg]) ns (.slice na ns.length nc) w3 (by rw [HQ3.out]; exact HSP.out.past) HC1.out (HD.out.var h0 hk1) HS3.out HZ3.out
   unfold ndV at CL
   rw [of_snoc] at CL
   have HCL := hide CL
   clear CL hk1
   have p3 := HP3.out.c0
   have k3 := HS3.out.box.c0
   have h32 := HH3.out.c2
   go_wp2_with fail
   refine HCL.out.mono ?_
   rintro e w5 ⟨rfl, G1, nv1, hg1, hS5, hE5, hO5⟩
   have H1 : Hid (F1P L k u r G1) := by unfold Hid F1P; rw [if_neg HK1.out]; exact hg1
   obtain ⟨n5, hn5⟩ : ∃ n5, n5 = (ns ++ G1).length := ⟨_, rfl⟩
   obtain ⟨n5a, n5c, hnv⟩ := own_sliceI hS5.row
   rw [← hn5] at hnv
   subst hnv
   have HS5 := hide hS5
   have HP5 : Hid (Blk w5 BP #[.pointer (some ⟨Bs, 0, none⟩)] 106) := HP3.out.exq hE5 (fun e => by rcases e with e | e; (have := HBL.out; omega); (have := HOW.out _ e; omega))
   have HH5 : Hid (Blk w5 BH #[.string s, .int .i64 (l.length : Int), .int .i64 (q3 : Int)] 87) := HH3.out.exq hE5 (fun e => by have h9 := HNE.out; rcases e with e | e; (have := HBL.out; omega); (have := HOW.out _ e; omega))
   have HE5 : Hid (ExQ (fun b => b = Bs ∨ (Value.slice na ns.length nc).ownBlock = some b) W w5) := (ExQ.ofBelow HW3.out).transN hE5 fun _ h _ => h
   have HO5 : Hid (∀ b, (Value.slice n5a n5 n5c).ownBlock = some b → (Value.slice na ns.length nc).ownBlock = some b ∨ W.heap.size ≤ b) := fun b hb => (hO5 b hb).elim Or.inl fun h => Or.inr (Nat.le_trans HW3.out.size h)
   have HZ5 : Hid (N0 ≤ w5.heap.size) := Nat.le_trans HZ3.out hE5.size
   clear hg1 hS5 hE5 hO5 HCL hn5 c3 l3 p3 k3 h32 HS3 HP3 HH3 HW3
   go_upto_region 11 with fail
   clear hkb hkc
   refine wp_region_held_drew (S := fun w' => w'.cell? ⟨PA, PO, none⟩ = some (.map mu) ∧ w'.cell? ⟨BH, 0, none⟩ = some (.string s) ∧ w'.cell? ⟨BH, 1, none⟩ = some (.int .i64 (l.length : Int)) ∧ Below N0 W0 w') (by kernel_rfl) (by exact ⟨HND.out _ HS5.out.old.drew, HH5.out.c0, HH5.out.c1, HS5.out.old.drew⟩) (fun hHeld => ?_)
   refine tkq (v := ?_) 0 rfl ?_ ?_
   rotate_left
   ·intro w' hSw
    obtain ⟨x0, x1, x2, x3⟩ := hSw
    go_simp <;> with_reducible rfl
   try simp only [Act.put, sq]
   refine tkq (v := ?_) 1 rfl ?_ ?_
   rotate_left
   ·intro w' hSw
    obtain ⟨x0, x1, x2, x3⟩ := hSw
    go_simp <;> with_reducible rfl
   try simp only [Act.put, sq]
   refine tkq (v := ?_) 2 rfl ?_ ?_
   rotate_left
   ·intro w' hSw
    obtain ⟨x0, x1, x2, x3⟩ := hSw
    go_simp <;> with_reducible rfl
   try simp only [Act.put, sq]
   refine tkq (v := ?_) 3 rfl ?_ ?_
   rotate_left
   ·intro w' hSw
    obtain ⟨x0, x1, x2, x3⟩ := hSw
    go_simp <;> with_reducible rfl
   try simp only [Act.put, sq]
   refine tkq (v := ?_) 4 rfl ?_ ?_
   rotate_left
   ·intro w' hSw
    obtain ⟨x0, x1, x2, x3⟩ := hSw
    go_simp <;> with_reducible rfl
   try simp only [Act.put, sq]
   refine tkq (v := ?_) 5 rfl ?_ ?_
   rotate_left
   ·intro w' hSw
    obtain ⟨x0, x1, x2, x3⟩ := hSw
    go_simp <;> with_reducible rfl
   try simp only [Act.put, sq]
   refine tkq (v := ?_) 6 rfl ?_ ?_
   rotate_left
   ·intro w' hSw
    obtain ⟨x0, x1, x2, x3⟩ := hSw
    have hlk : (Instr.lookup 55 (.map mu) (.agg #[.string s, .int .i64 (l.length : Int)]) false).run Tryz.prog w' = .ok R2 w' := HLK2.out w' x3
    go_simp <;> with_reducible rfl
   try simp only [Act.put, sq]
   refine tkq (v := ?_) 7 rfl ?_ ?_
   rotate_left
   ·intro w' hSw
    obtain ⟨x0, x1, x2, x3⟩ := hSw
    go_simp <;> with_reducible rfl
   try simp only [Act.put, sq]
   refine wpAnyH_done (by kernel_rfl) ?_ _
   have HS6 : Hid (SrS W0 N0 Bs g cap k sp (ns ++ G1) (.slice n5a n5 n5c) w5.drew) := ⟨HS5.out.old.drew, HS5.out.box, HS5.out.row, HS5.out.spo⟩
   have HE6 : Hid (ExQ (fun b => b = Bs ∨ (Value.slice na ns.length nc).ownBlock = some b) W w5.drew) := HE5.out.drew
   have HP6 : Hid (Blk w5.drew BP #[.pointer (some ⟨Bs, 0, none⟩)] 106) := HP5.out
   have HH6 : Hid (Blk w5.drew BH #[.string s, .int .i64 (l.length : Int), .int .i64 (q3 : Int)] 87) := HH5.out
   have HZ6 : Hid (N0 ≤ w5.drew.heap.size) := HZ5.out
   clear hHeld HS5 HE5 HP5 HH5
   generalize w5.drew = w6 at *
   rcases HR2.out with ⟨hc2, hr2⟩ | ⟨hc2, hr2⟩
   ·rw [hr2]
    clear hr2
    have HC2 := hide hc2
    clear hc2
    have h60 := HH6.out.c0
    have h61 := HH6.out.c1
    have p6 := HP6.out.c0
    go_upto_region 13 with (go_at_call 67; refine (signIsVar_any (s, l.length) w6).mono ?_; rintro e w7 ⟨rfl, hb7⟩; rw [show emB (s, l.length) = false from emB_ne hs]; have HB7 := hide hb7; clear hb7)
    clear h60 h61 p6
    have p7 := (HP6.out.below HB7.out HP6.out.lt).c0
    have CL := hlr (a + 1) (u ++ [(s, l.length)]) (ns ++ G1) (.slice n5a n5 n5c) w7 HSP.out.down HC2.out (HD.out.sym h0 hs hv H1.out) (HS6.out.later HZ6.out HB7.out) (Nat.le_trans HZ6.out HB7.out.size)
    unfold ndV at CL
    rw [of_snoc, show ((a + 1 : Nat) : Int) = (a : Int) + 1 by omega] at CL
    have HCL := hide CL
    clear CL
    go_wp2_with fail
    refine HCL.out.mono ?_
    rintro e w8 ⟨rfl, g2, nv2, hg2, hS8, hE8, hO8⟩
    have HFIN : Hid (WkPost W0 N0 Bs g cap k L sp u (⟨s, l⟩ :: r) ns (.slice na ns.length nc) W w8) := wk_join2 h0 hs hv H1.out hg2 hS8 HE6.out HB7.out hE8 HO5.out hO8
    clear hg2 hS8 hE8 hO8 HCL p7
    go_wp2_with fail
    go_end0
    exact ⟨rfl, HFIN.out⟩
   ·rw [hr2]
    clear hr2
    have HFIN : Hid (WkPost W0 N0 Bs g cap k L sp u (⟨s, l⟩ :: r) ns (.slice na ns.length nc) W w6) := wk_join h0 hs H1.out (g2 := []) (by rw [if_neg (by rw [hv]; simp)]; exact SrP.none hc2) (by rw [← List.append_assoc, List.append_nil]; exact HS6.out) HE6.out HO5.out
    clear hc2
    go_wp2_with fail
    go_end0
    exact ⟨rfl, HFIN.out⟩
 ·have H1 : Hid (F1P L k u r []) := by
   unfold Hid F1P
   split
   ·rfl
   ·exact SrP.none hc1
  have HS5 : Hid (SrS W0 N0 Bs g cap k sp (ns ++ []) (.slice na ns.length nc) w3) := by rw [List.append_nil]; exact HS3.out
  have HE5 : Hid (ExQ (fun b => b = Bs ∨ (Value.slice na ns.length nc).ownBlock = some b) W w3) := ExQ.ofBelow HW3.out
  have HO5 : Hid (∀ b, (Value.slice na ns.length nc).ownBlock = some b → (Value.slice na ns.length nc).ownBlock = some b ∨ W.heap.size ≤ b) := fun b h => Or.inl h
  go_upto_region 11 with fail
  clear c3 l3 HS3 HW3 hc1
  refine wp_region_held_drew (S := fun w' => w'.cell? ⟨PA, PO, none⟩ = some (.map mu) ∧ w'.cell? ⟨BH, 0, none⟩ = some (.string s) ∧ w'.cell? ⟨BH, 1, none⟩ = some (.int .i64 (l.length : Int)) ∧ Below N0 W0 w') (by kernel_rfl) (by exact ⟨HND.out _ HS5.out.old.drew, HH3.out.c0, HH3.out.c1, HS5.out.old.drew⟩) (fun hHeld => ?_)
  refine tkq (v := ?_) 0 rfl ?_ ?_
  rotate_left
  ·intro w' hSw
   obtain ⟨x0, x1, x2, x3⟩ := hSw
   go_simp <;> with_reducible rfl
  try simp only [Act.put, sq]
  refine tkq (v := ?_) 1 rfl ?_ ?_
  rotate_left
  ·intro w' hSw
   obtain ⟨x0, x1, x2, x3⟩ := hSw
   go_simp <;> with_reducible rfl
  try simp only [Act.put, sq]
  refine tkq (v := ?_) 2 rfl ?_ ?_
  rotate_left
  ·intro w' hSw
   obtain ⟨x0, x1, x2, x3⟩ := hSw
   go_simp <;> with_reducible rfl
  try simp only [Act.put, sq]
  refine tkq (v := ?_) 3 rfl ?_ ?_
  rotate_left
  ·intro w' hSw
   obtain ⟨x0, x1, x2, x3⟩ := hSw
   go_simp <;> with_reducible rfl
  try simp only [Act.put, sq]
  refine tkq (v := ?_) 4 rfl ?_ ?_
  rotate_left
  ·intro w' hSw
   obtain ⟨x0, x1, x2, x3⟩ := hSw
   go_simp <;> with_reducible rfl
  try simp only [Act.put, sq]
  refine tkq (v := ?_) 5 rfl ?_ ?_
  rotate_left
  ·intro w' hSw
   obtain ⟨x0, x1, x2, x3⟩ := hSw
   go_simp <;> with_reducible rfl
  try simp only [Act.put, sq]
  refine tkq (v := ?_) 6 rfl ?_ ?_
  rotate_left
  ·intro w' hSw
   obtain ⟨x0, x1, x2, x3⟩ := hSw
   have hlk : (Instr.lookup 55 (.map mu) (.agg #[.string s, .int .i64 (l.length : Int)]) false).run Tryz.prog w' = .ok R2 w' := HLK2.out w' x3
   go_simp <;> with_reducible rfl
  try simp only [Act.put, sq]
  refine tkq (v := ?_) 7 rfl ?_ ?_
  rotate_left
  ·intro w' hSw
   obtain ⟨x0, x1, x2, x3⟩ := hSw
   go_simp <;> with_reducible rfl
  try simp only [Act.put, sq]
  refine wpAnyH_done (by kernel_rfl) ?_ _
  have HS6 : Hid (SrS W0 N0 Bs g cap k sp (ns ++ []) (.slice na ns.length nc) w3.drew) := ⟨HS5.out.old.drew, HS5.out.box, HS5.out.row, HS5.out.spo⟩
  have HE6 : Hid (ExQ (fun b => b = Bs ∨ (Value.slice na ns.length nc).ownBlock = some b) W w3.drew) := HE5.out.drew
  have HP6 : Hid (Blk w3.drew BP #[.pointer (some ⟨Bs, 0, none⟩)] 106) := HP3.out
  have HH6 : Hid (Blk w3.drew BH #[.string s, .int .i64 (l.length : Int), .int .i64 (q3 : Int)] 87) := HH3.out
  have HZ6 : Hid (N0 ≤ w3.drew.heap.size) := HZ3.out
  clear hHeld HS5 HE5 HP3 HH3
  generalize w3.drew = w6 at *
  rcases HR2.out with ⟨hc2, hr2⟩ | ⟨hc2, hr2⟩
  ·rw [hr2]
   clear hr2
   have HC2 := hide hc2
   clear hc2
   have h60 := HH6.out.c0
   have h61 := HH6.out.c1
   have p6 := HP6.out.c0
   go_upto_region 13 with (go_at_call 67; refine (signIsVar_any (s, l.length) w6).mono ?_; rintro e w7 ⟨rfl, hb7⟩; rw [show emB (s, l.length) = false from emB_ne hs]; have HB7 := hide hb7; clear hb7)
   clear h60 h61 p6
   have p7 := (HP6.out.below HB7.out HP6.out.lt).c0
   have CL := hlr (a + 1) (u ++ [(s, l.length)]) (ns ++ []) (.slice na ns.length nc) w7 HSP.out.down HC2.out (HD.out.sym h0 hs hv H1.out) (HS6.out.later HZ6.out HB7.out) (Nat.le_trans HZ6.out HB7.out.size)
   unfold ndV at CL
   rw [of_snoc, show ((a + 1 : Nat) : Int) = (a : Int) + 1 by omega] at CL
   have HCL := hide CL
   clear CL
   go_wp2_with fail
   refine HCL.out.mono ?_
   rintro e w8 ⟨rfl, g2, nv2, hg2, hS8, hE8, hO8⟩
   have HFIN : Hid (WkPost W0 N0 Bs g cap k L sp u (⟨s, l⟩ :: r) ns (.slice na ns.length nc) W w8) := wk_join2 h0 hs hv H1.out hg2 hS8 HE6.out HB7.out hE8 HO5.out hO8
   clear hg2 hS8 hE8 hO8 HCL p7
   go_wp2_with fail
   go_end0
   exact ⟨rfl, HFIN.out⟩
  ·rw [hr2]
   clear hr2
   have HFIN : Hid (WkPost W0 N0 Bs g cap k L sp u (⟨s, l⟩ :: r) ns (.slice na ns.length nc) W w6) := wk_join h0 hs H1.out (g2 := []) (by rw [if_neg (by rw [hv]; simp)]; exact SrP.none hc2) (by rw [← List.append_assoc, List.append_nil]; exact HS6.out) HE6.out HO5.out
   clear hc2
   go_wp2_with fail
   go_end0
   exact ⟨rfl, HFIN.out⟩
set_option maxHeartbeats 4000000 in
theorem walkC1 {W0 : World} {N N0 Bs g cap M : Nat} {tv : Value} {L : List (List Sg)} {y : Lay} {sp : List (Sg × Nat)} (hC : Ctx W0 N N0 Bs g cap M tv L y sp) {s : ByteArray} {l r : List Tm} (hr : WkC W0 N0 Bs g cap 0 L y sp r) (hlr : WkC W0 N0 Bs g cap 0 L y sp (l ++ r)) (hv : varB s = true)  (hs : s ≠ ⟨#[]⟩) (hnm : nameB s = true) (hsok : SgOk vsg) : WkC W0 N0 Bs g cap 0 L y sp (⟨s, l⟩ :: r) := by
 intro a u ns nv W hsp hu hD hS hz
 have h0 : ¬ (varB s = true ∧ (0 : Nat) ≠ 0) := by simp
 have hget := hsp.get
 have hsg : sgT ⟨s, l⟩ = vsg := sgT_var (t := ⟨s, l⟩) hv
 rw [hsg] at hget
 obtain ⟨q3, hq3⟩ : ∃ q3, q3 = a + 1 + sizeL l := ⟨_, rfl⟩
 have hget2 : sp[a]? = some (vsg, q3) := by rw [hq3]; exact hget
 have HQ3 := hide hq3
 have halt := hsp.lt
 have hals := hC.short
 have hai : (a : Int) < (sp.length : Int) := by omega
 have hane : ((a : Int) == (sp.length : Int)) = false := by simp; omega
 have hane2 : ¬ (a : Int) = (sp.length : Int) := by omega
 have HSP := hide hsp
 have HU := hide hu
 have HD := hide hD
 have HZ := hide hz
 have HCx := hide hC
 have HB1 : Hid (Below W.heap.size W (W.alloc (.cells #[.pointer (some ⟨Bs, 0, none⟩)] 106))) := (Below.refl _ _).alloc (Nat.le_refl _) _
 have HS1 : Hid (SrS W0 N0 Bs g cap 0 sp ns nv (W.alloc (.cells #[.pointer (some ⟨Bs, 0, none⟩)] 106))) := hS.later hz HB1.out
 have HP1 : Hid (Blk (W.alloc (.cells #[.pointer (some ⟨Bs, 0, none⟩)] 106)) W.heap.size #[.pointer (some ⟨Bs, 0, none⟩)] 106) := Blk.new _ _ _
 obtain ⟨d0, d1, d2⟩ := HS1.out.spot hget2
 obtain ⟨na, nc, rfl⟩ := own_sliceI hS.row
 have HOW : Hid (∀ b, (Value.slice na ns.length nc).ownBlock = some b → b < W.heap.size) := fun b hb => (hS.row.lt b hb).2
 have HBL : Hid (Bs < W.heap.size) := hS.box.lt
 have s0 := HS1.out.box.c1
 have p0 := HP1.out.c0
 clear hS hz hu hsp hget hget2 hD halt hq3 hsg
 simp only [sgV, vsg] at d0 d1 d2
 unfold ndV
 generalize hPA : y.ad u = PA at *
 generalize hPO : ofN u = PO at *
 have HPA := hide hPA
 have HPO := hide hPO
 clear hPA hPO
 go_enter Tryz.func45, Tryz.ntmps45
 go_upto_region 3 with fail
 clear s0
 have s1 := HS1.out.box.c1
 have HB2 : Hid (Below W.heap.size W ((W.alloc (.cells #[.pointer (some ⟨Bs, 0, none⟩)] 106)).alloc (.cells #[.string ⟨#[]⟩, .int .i64 0, .int .i64 (q3 : Int)] 87))) := HB1.out.alloc (by simp) _
 have HS2 : Hid (SrS W0 N0 Bs g cap 0 sp ns (.slice na ns.length nc) ((W.alloc (.cells #[.pointer (some ⟨Bs, 0, none⟩)] 106)).alloc (.cells #[.string ⟨#[]⟩, .int .i64 0, .int .i64 (q3 : Int)] 87))) := HS1.out.later (by have := HZ.out; simp; omega) ((Below.refl _ _).alloc (Nat.le_refl _) _)
 have HP2 : Hid (Blk ((W.alloc (.cells #[.pointer (some ⟨Bs, 0, none⟩)] 106)).alloc (.cells #[.string ⟨#[]⟩, .int .i64 0, .int .i64 (q3 : Int)] 87)) W.heap.size #[.pointer (some ⟨Bs, 0, none⟩)] 106) := HP1.out.alloc _
 have HH2 : Hid (Blk ((W.alloc (.cells #[.pointer (some ⟨Bs, 0, none⟩)] 106)).alloc (.cells #[.string ⟨#[]⟩, .int .i64 0, .int .i64 (q3 : Int)] 87)) (W.alloc (.cells #[.pointer (some ⟨Bs, 0, none⟩)] 106)).heap.size #[.string ⟨#[]⟩, .int .i64 0, .int .i64 (q3 : Int)] 87) := Blk.new _ _ _
 have HNE : Hid (W.heap.size < (W.alloc (.cells #[.pointer (some ⟨Bs, 0, none⟩)] 106)).heap.size) := by unfold Hid; simp
 generalize hw1 : W.alloc (.cells #[.pointer (some ⟨Bs, 0, none⟩)] 106) = w1 at *
 clear hw1
 go_upto_region 4 with fail
 clear d0 d1 d2 s1 p0 HS1 HP1
 generalize hBP : W.heap.size = BP at HP2 HNE HOW HBL HZ ⊢
 have HBP := hide hBP
 clear hBP
 generalize hBHB : w1.heap.size = BH at HH2 HNE ⊢
 generalize hw2 : w1.alloc (.cells #[.string ⟨#[]⟩, .int .i64 0, .int .i64 (q3 : Int)] 87) = w2 at *
 clear hBHB hw2 HB1 w1
 have h20 := HH2.out.c0
 have h21 := HH2.out.c1
 have p2 := HP2.out.c0
 have k2 := HS2.out.box.c0
 go_upto_region 8 with (go_at_call 67; refine (signIsVar_any vsg w2).mono ?_; rintro e w3 ⟨rfl, hb3⟩; rw [emB_vsg]; have HB3 := hide hb3; clear hb3; have p3 := (HP2.out.below HB3.out HP2.out.lt).c0; have k3 := (HS2.out.box.below HB3.out HS2.out.box.lt).c0)
 clear h20 h21 p2 k2 p3 k3
 have HZ2 : Hid (N0 ≤ w2.heap.size) := Nat.le_trans HZ.out (by rw [← HBP.out]; exact HB2.out.size)
 have HS3 := hide (HS2.out.later HZ2.out HB3.out)
 have HP3 := hide (HP2.out.below HB3.out HP2.out.lt)
 have HH3 := hide (HH2.out.below HB3.out HH2.out.lt)
 have HW3 := hide (HB2.out.trans (HB3.out.mono HB2.out.size))
 have HZ3 : Hid (N0 ≤ w3.heap.size) := Nat.le_trans HZ2.out HB3.out.size
 obtain ⟨R1, hR1, hlk1⟩ := hC.look HU.out vsg ⟨Nat.zero_le _, Nat.zero_le _⟩
 have HND : Hid (∀ W', Below N0 W0 W' → W'.cell? ⟨PA, PO, none⟩ = some (.map (y.mp u))) := fun W' hb => by have h := (hC.nd hb HU.out).c0; rw [HPA.out, HPO.out] at h; exact h
 obtain ⟨R2, hR2, hlk2⟩ := hC.look HU.out vsg hsok
 generalize y.mp u = mu at HND hlk1 hlk2
 have HLK2 := hide hlk2
 have HR2 := hide hR2
 clear hlk2 hR2
 have c3 := HND.out w3 HS3.out.old
 have l3 : (Instr.lookup 55 (.map mu) (.agg #[.string ⟨#[]⟩, .int .i64 0]) false).run Tryz.prog w3 = .ok R1 w3 := hlk1 w3 HS3.out.old
 clear hlk1 HB2 HS2 HP2 HH2 HB3 HZ2 w2
 rcases hR1 with ⟨hc1, rfl⟩ | ⟨hc1, rfl⟩
 ·have HC1 := hide hc1
  clear hc1
  have hk1 : (0 : Nat) ≠ 1 := by omega
  have HK1 := hide hk1
  have CL := hr q3 (u ++ [vsg]) ns (.slice na ns.length nc) w3 (by rw [HQ3.out]; exact HSP.out.past) HC1.out (HD.out.var h0 hk1) HS3.out HZ3.out
  unfold ndV at CL
  rw [of_snoc] at CL
  have HCL := hide CL
  clear CL hk1
  have p3 := HP3.out.c0
  have k3 := HS3.out.box.c0
  have h32 := HH3.out.c2
  go_wp2_with fail
  refine HCL.out.mono ?_
  rintro e w5 ⟨rfl, G1, nv1, hg1, hS5, hE5, hO5⟩
  have H1 : Hid (F1P L 0 u r G1) := by unfold Hid F1P; rw [if_neg HK1.out]; exact hg1
  obtain ⟨n5, hn5⟩ : ∃ n5, n5 = (ns ++ G1).length := ⟨_, rfl⟩
  obtain ⟨n5a, n5c, hnv⟩ := own_sliceI hS5.row
  rw [← hn5] at hnv
  subst hnv
  have HS5 := hide hS5
  have HP5 : Hid (Blk w5 BP #[.pointer (some ⟨Bs, 0, none⟩)] 106) := HP3.out.exq hE5 (fun e => by rcases e with e | e; (have := HBL.out; omega); (have := HOW.out _ e; omega))
  have HH5 : Hid (Blk w5 BH #[.string ⟨#[]⟩, .int .i64 0, .int .i64 (q3 : Int)] 87) := HH3.out.exq hE5 (fun e => by have h9 := HNE.out; rcases e with e | e; (have := HBL.out; omega); (have := HOW.out _ e; omega))
  have HE5 : Hid (ExQ (fun b => b = Bs ∨ (Value.slice na ns.length nc).ownBlock = some b) W w5) := (ExQ.ofBelow HW3.out).transN hE5 fun _ h _ => h
  have HO5 : Hid (∀ b, (Value.slice n5a n5 n5c).ownBlock = some b → (Value.slice na ns.length nc).ownBlock = some b ∨ W.heap.size ≤ b) := fun b hb => (hO5 b hb).elim Or.inl fun h => Or.inr (Nat.le_trans HW3.out.size h)
  have HZ5 : Hid (N0 ≤ w5.heap.size) := Nat.le_trans HZ3.out hE5.size
  clear hg1 hS5 hE5 hO5 HCL hn5 c3 l3 p3 k3 h32 HS3 HP3 HH3 HW3
  go_upto_region 11 with fail
  refine wp_region_held_drew (S := fun w' => w'.cell? ⟨PA, PO, none⟩ = some (.map mu) ∧ w'.cell? ⟨BH, 0, none⟩ = some (.string ⟨#[]⟩) ∧ w'.cell? ⟨BH, 1, none⟩ = some (.int .i64 0) ∧ Below N0 W0 w') (by kernel_rfl) (by exact ⟨HND.out _ HS5.out.old.drew, HH5.out.c0, HH5.out.c1, HS5.out.old.drew⟩) (fun hHeld => ?_)
  refine tkq (v := ?_) 0 rfl ?_ ?_
  rotate_left
  ·intro w' hSw
   obtain ⟨x0, x1, x2, x3⟩ := hSw
   go_simp <;> with_reducible rfl
  try simp only [Act.put, sq]
  refine tkq (v := ?_) 1 rfl ?_ ?_
  rotate_left
  ·intro w' hSw
   obtain ⟨x0, x1, x2, x3⟩ := hSw
   go_simp <;> with_reducible rfl
  try simp only [Act.put, sq]
  refine tkq (v := ?_) 2 rfl ?_ ?_
  rotate_left
  ·intro w' hSw
   obtain ⟨x0, x1, x2, x3⟩ := hSw
   go_simp <;> with_reducible rfl
  try simp only [Act.put, sq]
  refine tkq (v := ?_) 3 rfl ?_ ?_
  rotate_left
  ·intro w' hSw
   obtain ⟨x0, x1, x2, x3⟩ := hSw
   go_simp <;> with_reducible rfl
  try simp only [Act.put, sq]
  refine tkq (v := ?_) 4 rfl ?_ ?_
  rotate_left
  ·intro w' hSw
   obtain ⟨x0, x1, x2, x3⟩ := hSw
   go_simp <;> with_reducible rfl
  try simp only [Act.put, sq]
  refine tkq (v := ?_) 5 rfl ?_ ?_
  rotate_left
  ·intro w' hSw
   obtain ⟨x0, x1, x2, x3⟩ := hSw
   go_simp <;> with_reducible rfl
  try simp only [Act.put, sq]
  refine tkq (v := ?_) 6 rfl ?_ ?_
  rotate_left
  ·intro w' hSw
   obtain ⟨x0, x1, x2, x3⟩ := hSw
   have hlk : (Instr.lookup 55 (.map mu) (.agg #[.string ⟨#[]⟩, .int .i64 0]) false).run Tryz.prog w' = .ok R2 w' := HLK2.out w' x3
   go_simp <;> with_reducible rfl
  try simp only [Act.put, sq]
  refine tkq (v := ?_) 7 rfl ?_ ?_
  rotate_left
  ·intro w' hSw
   obtain ⟨x0, x1, x2, x3⟩ := hSw
   go_simp <;> with_reducible rfl
  try simp only [Act.put, sq]
  refine wpAnyH_done (by kernel_rfl) ?_ _
  have HS6 : Hid (SrS W0 N0 Bs g cap 0 sp (ns ++ G1) (.slice n5a n5 n5c) w5.drew) := ⟨HS5.out.old.drew, HS5.out.box, HS5.out.row, HS5.out.spo⟩
  have HE6 : Hid (ExQ (fun b => b = Bs ∨ (Value.slice na ns.length nc).ownBlock = some b) W w5.drew) := HE5.out.drew
  have HP6 : Hid (Blk w5.drew BP #[.pointer (some ⟨Bs, 0, none⟩)] 106) := HP5.out
  have HH6 : Hid (Blk w5.drew BH #[.string ⟨#[]⟩, .int .i64 0, .int .i64 (q3 : Int)] 87) := HH5.out
  have HZ6 : Hid (N0 ≤ w5.drew.heap.size) := HZ5.out
  clear hHeld HS5 HE5 HP5 HH5
  generalize w5.drew = w6 at *
  rcases HR2.out with ⟨hc2, hr2⟩ | ⟨hc2, hr2⟩
  ·rw [hr2]
   clear hr2
   have HC2 := hide hc2
   clear hc2
   have h60 := HH6.out.c0
   have h61 := HH6.out.c1
   have p6 := HP6.out.c0
   have HFIN : Hid (∀ w7, Below w6.heap.size w6 w7 → WkPost W0 N0 Bs g cap 0 L sp u (⟨s, l⟩ :: r) ns (.slice na ns.length nc) W w7) := fun w7 hb => wk_join h0 hs H1.out (g2 := []) (by rw [if_pos hv]) (by rw [← List.append_assoc, List.append_nil]; exact HS6.out.later HZ6.out hb) (HE6.out.transN (ExQ.ofBelow (Q := fun _ => False) hb) fun _ h _ => h.elim) HO5.out
   go_wp2_with (go_at_call 67; refine (signIsVar_any vsg w6).mono ?_; rintro e w7 ⟨rfl, hb7⟩; rw [emB_vsg]; have HB7 := hide hb7; clear hb7)
   go_end0
   exact ⟨rfl, HFIN.out _ HB7.out⟩
  ·rw [hr2]
   clear hr2
   have HFIN : Hid (WkPost W0 N0 Bs g cap 0 L sp u (⟨s, l⟩ :: r) ns (.slice na ns.length nc) W w6) := wk_join h0 hs H1.out (g2 := []) (by rw [if_pos hv]) (by rw [← List.append_assoc, List.append_nil]; exact HS6.out) HE6.out HO5.out
   clear hc2
   go_wp2_with fail
   go_end0
   exact ⟨rfl, HFIN.out⟩
 ·have H1 : Hid (F1P L 0 u r []) := by
   unfold Hid F1P
   split
   ·rfl
   ·exact SrP.none hc1
  have HS5 : Hid (SrS W0 N0 Bs g cap 0 sp (ns ++ []) (.slice na ns.length nc) w3) := by rw [List.append_nil]; exact HS3.out
  have HE5 : Hid (ExQ (fun b => b = Bs ∨ (Value.slice na ns.length nc).ownBlock = some b) W w3) := ExQ.ofBelow HW3.out
  have HO5 : Hid (∀ b, (Value.slice na ns.length nc).ownBlock = some b → (Value.slice na ns.length nc).ownBlock = some b ∨ W.heap.size ≤ b) := fun b h => Or.inl h
  go_upto_region 11 with fail
  clear c3 l3 HS3 HW3 hc1
  refine wp_region_held_drew (S := fun w' => w'.cell? ⟨PA, PO, none⟩ = some (.map mu) ∧ w'.cell? ⟨BH, 0, none⟩ = some (.string ⟨#[]⟩) ∧ w'.cell? ⟨BH, 1, none⟩ = some (.int .i64 0) ∧ Below N0 W0 w') (by kernel_rfl) (by exact ⟨HND.out _ HS5.out.old.drew, HH3.out.c0, HH3.out.c1, HS5.out.old.drew⟩) (fun hHeld => ?_)
  refine tkq (v := ?_) 0 rfl ?_ ?_
  rotate_left
  ·intro w' hSw
   obtain ⟨x0, x1, x2, x3⟩ := hSw
   go_simp <;> with_reducible rfl
  try simp only [Act.put, sq]
  refine tkq (v := ?_) 1 rfl ?_ ?_
  rotate_left
  ·intro w' hSw
   obtain ⟨x0, x1, x2, x3⟩ := hSw
   go_simp <;> with_reducible rfl
  try simp only [Act.put, sq]
  refine tkq (v := ?_) 2 rfl ?_ ?_
  rotate_left
  ·intro w' hSw
   obtain ⟨x0, x1, x2, x3⟩ := hSw
   go_simp <;> with_reducible rfl
  try simp only [Act.put, sq]
  refine tkq (v := ?_) 3 rfl ?_ ?_
  rotate_left
  ·intro w' hSw
   obtain ⟨x0, x1, x2, x3⟩ := hSw
   go_simp <;> with_reducible rfl
  try simp only [Act.put, sq]
  refine tkq (v := ?_) 4 rfl ?_ ?_
  rotate_left
  ·intro w' hSw
   obtain ⟨x0, x1, x2, x3⟩ := hSw
   go_simp <;> with_reducible rfl
  try simp only [Act.put, sq]
  refine tkq (v := ?_) 5 rfl ?_ ?_
  rotate_left
  ·intro w' hSw
   obtain ⟨x0, x1, x2, x3⟩ := hSw
   go_simp <;> with_reducible rfl
  try simp only [Act.put, sq]
  refine tkq (v := ?_) 6 rfl ?_ ?_
  rotate_left
  ·intro w' hSw
   obtain ⟨x0, x1, x2, x3⟩ := hSw
   have hlk : (Instr.lookup 55 (.map mu) (.agg #[.string ⟨#[]⟩, .int .i64 0]) false).run Tryz.prog w' = .ok R2 w' := HLK2.out w' x3
   go_simp <;> with_reducible rfl
  try simp only [Act.put, sq]
  refine tkq (v := ?_) 7 rfl ?_ ?_
  rotate_left
  ·intro w' hSw
   obtain ⟨x0, x1, x2, x3⟩ := hSw
   go_simp <;> with_reducible rfl
  try simp only [Act.put, sq]
  refine wpAnyH_done (by kernel_rfl) ?_ _
  have HS6 : Hid (SrS W0 N0 Bs g cap 0 sp (ns ++ []) (.slice na ns.length nc) w3.drew) := ⟨HS5.out.old.drew, HS5.out.box, HS5.out.row, HS5.out.spo⟩
  have HE6 : Hid (ExQ (fun b => b = Bs ∨ (Value.slice na ns.length nc).ownBlock = some b) W w3.drew) := HE5.out.drew
  have HP6 : Hid (Blk w3.drew BP #[.pointer (some ⟨Bs, 0, none⟩)] 106) := HP3.out
  have HH6 : Hid (Blk w3.drew BH #[.string ⟨#[]⟩, .int .i64 0, .int .i64 (q3 : Int)] 87) := HH3.out
  have HZ6 : Hid (N0 ≤ w3.drew.heap.size) := HZ3.out
  clear hHeld HS5 HE5 HP3 HH3
  generalize w3.drew = w6 at *
  rcases HR2.out with ⟨hc2, hr2⟩ | ⟨hc2, hr2⟩
  ·rw [hr2]
   clear hr2
   have HC2 := hide hc2
   clear hc2
   have h60 := HH6.out.c0
   have h61 := HH6.out.c1
   have p6 := HP6.out.c0
   have HFIN : Hid (∀ w7, Below w6.heap.size w6 w7 → WkPost W0 N0 Bs g cap 0 L sp u (⟨s, l⟩ :: r) ns (.slice na ns.length nc) W w7) := fun w7 hb => wk_join h0 hs H1.out (g2 := []) (by rw [if_pos hv]) (by rw [← List.append_assoc, List.append_nil]; exact HS6.out.later HZ6.out hb) (HE6.out.transN (ExQ.ofBelow (Q := fun _ => False) hb) fun _ h _ => h.elim) HO5.out
   go_wp2_with (go_at_call 67; refine (signIsVar_any vsg w6).mono ?_; rintro e w7 ⟨rfl, hb7⟩; rw [emB_vsg]; have HB7 := hide hb7; clear hb7)
   go_end0
   exact ⟨rfl, HFIN.out _ HB7.out⟩
  ·rw [hr2]
   clear hr2
   have HFIN : Hid (WkPost W0 N0 Bs g cap 0 L sp u (⟨s, l⟩ :: r) ns (.slice na ns.length nc) W w6) := wk_join h0 hs H1.out (g2 := []) (by rw [if_pos hv]) (by rw [← List.append_assoc, List.append_nil]; exact HS6.out) HE6.out HO5.out
   clear hc2
   go_wp2_with fail
   go_end0
   exact ⟨rfl, HFIN.out⟩
attribute [local go_sem] Oper.semAt_some
theorem own_loop {W : World} {N0 n lp : Nat} {nv : Value} {xs : List Value} {r : Loop} (h : W.ownsRow N0 3 1 nv n xs) (hl : W.heap[lp]? = some (.loop r)) : nv.ownBlock ≠ some lp := fun e => by
 rcases h.2 with ⟨h2, _⟩ | ⟨g', cap', cur, h2, _, hg, _⟩
 ·rw [h2] at e; cases e
 ·rw [h2] at e
  have e2 : g' = lp := by simpa [Value.ownBlock] using e
  subst e2
  rw [hg] at hl; cases hl
theorem own_def {W : World} {N0 n D : Nat} {nv : Value} {xs : List Value} {d : Option (List Deferred)} (h : W.ownsRow N0 3 1 nv n xs) (hl : W.heap[D]? = some (.deferred d)) : nv.ownBlock ≠ some D := fun e => by
 rcases h.2 with ⟨h2, _⟩ | ⟨g', cap', cur, h2, _, hg, _⟩
 ·rw [h2] at e; cases e
 ·rw [h2] at e
  have e2 : g' = D := by simpa [Value.ownBlock] using e
  subst e2
  rw [hg] at hl; cases hl
theorem SrS.gloop {W0 : World} {N0 Bs g cap : Nat} {kk : Nat} {sp : List (Sg × Nat)} {ns : List Nat} {nv : Value} {W : World} {lp : Nat} {r : Loop} (h : SrS W0 N0 Bs g cap kk sp ns nv W) (hl : W.heap[lp]? = some (.loop r)) : g ≠ lp := fun e => by
 obtain ⟨cs, hg⟩ := h.gob
 unfold Blk at hg
 rw [e, hl] at hg; cases hg
theorem SrS.gdef {W0 : World} {N0 Bs g cap : Nat} {kk : Nat} {sp : List (Sg × Nat)} {ns : List Nat} {nv : Value} {W : World} {lp : Nat} {r : Option (List Deferred)} (h : SrS W0 N0 Bs g cap kk sp ns nv W) (hl : W.heap[lp]? = some (.deferred r)) : g ≠ lp := fun e => by
 obtain ⟨cs, hg⟩ := h.gob
 unfold Blk at hg
 rw [e, hl] at hg; cases hg
theorem SrS.kept {W0 : World} {N0 Bs g cap : Nat} {kk : Nat} {sp : List (Sg × Nat)} {ns : List Nat} {nv : Value} {W W' : World} (h : SrS W0 N0 Bs g cap kk sp ns nv W) (hb : Below N0 W W') (h1 : W'.heap[Bs]? = W.heap[Bs]?) (h2 : ∀ b, nv.ownBlock = some b → W'.heap[b]? = W.heap[b]?) (h3 : W'.heap[g]? = W.heap[g]?) : SrS W0 N0 Bs g cap kk sp ns nv W' :=
 ⟨h.old.trans hb, h1.trans h.box, ownsRow_at h.row h2, ownsRow_at h.spo fun b hb => by
  have e : g = b := by simpa [Value.ownBlock] using hb
  subst e; exact h3⟩
structure JwE (W0 : World) (N0 Bs g cap k : Nat) (L : List (List Sg)) (sp : List (Sg × Nat)) (u : List Sg) (r : List Tm) (ns : List Nat) (q3 BP BH D lp : Nat) (r' : Loop) (GO : Option Obj) (pre : List (List Sg)) (f : Nat → Prop) (W : World) (gs : List Nat) (nv : Value) : Prop where
 bh : ∀ z ∈ pre, Bh L u z
 got : SrG L k r pre gs
 srs : SrS W0 N0 Bs g cap k sp (ns ++ gs) nv W
 own : ∀ b, f b ↔ (b = Bs ∨ nv.ownBlock = some b ∨ b = BP ∨ b = BH ∨ b = D ∨ b = lp ∨ b = g)
 bp : Blk W BP #[.pointer (some ⟨Bs, 0, none⟩)] 106
 bb : Blk W BH #[.string ⟨#[]⟩, .int .i64 0, .int .i64 (q3 : Int)] 87
 df : W.heap[D]? = some (.deferred (some []))
 lo : W.heap[lp]? = some (.loop r')
 go_ : W.heap[g]? = GO
def Jw (W0 : World) (N0 Bs g cap k : Nat) (L : List (List Sg)) (sp : List (Sg × Nat)) (u : List Sg) (r : List Tm) (ns : List Nat) (q3 BP BH D lp : Nat) (r' : Loop) (GO : Option Obj) : TkX := fun pre f W => ∃ gs nv, JwE W0 N0 Bs g cap k L sp u r ns q3 BP BH D lp r' GO pre f W gs nv
theorem Jw.ok {W0 : World} {N0 Bs g cap k : Nat} {L : List (List Sg)} {sp : List (Sg × Nat)} {u : List Sg} {r : List Tm} {ns : List Nat} {q3 BP BH D lp : Nat} {r' : Loop} {GO : Option Obj} (h0 : N0 ≤ Bs) (h1 : N0 ≤ BP) (h2 : N0 ≤ BH) (h3 : N0 ≤ D) (h4 : N0 ≤ lp) (h5 : N0 ≤ g) : TkXOk N0 W0 (Jw W0 N0 Bs g cap k L sp u r ns q3 BP BH D lp r' GO) where
 old := fun ⟨gs, nv, h⟩ => h.srs.old
 inside := fun ⟨gs, nv, h⟩ b hb => by
  rcases (h.own b).1 hb with rfl | hb | rfl | rfl | rfl | rfl | rfl
  ·exact ⟨h.srs.box.lt, h0⟩
  ·exact ⟨(h.srs.row.lt b hb).2, (h.srs.row.lt b hb).1⟩
  ·exact ⟨h.bp.lt, h1⟩
  ·exact ⟨h.bb.lt, h2⟩
  ·exact ⟨(Array.getElem?_eq_some_iff.1 h.df).1, h3⟩
  ·exact ⟨(Array.getElem?_eq_some_iff.1 h.lo).1, h4⟩
  ·exact ⟨(h.srs.spo.lt _ rfl).2, h5⟩
 abide := fun ⟨gs, nv, h⟩ hz hb hk => ⟨gs, nv, h.bh, h.got, h.srs.kept hb (hk _ ((h.own _).2 (Or.inl rfl))) (fun b hv => hk _ ((h.own _).2 (Or.inr (Or.inl hv)))) (hk _ ((h.own _).2 (Or.inr (Or.inr (Or.inr (Or.inr (Or.inr (Or.inr rfl)))))))), h.own,
  (hk _ ((h.own _).2 (Or.inr (Or.inr (Or.inl rfl))))).trans h.bp, (hk _ ((h.own _).2 (Or.inr (Or.inr (Or.inr (Or.inl rfl)))))).trans h.bb, (hk _ ((h.own _).2 (Or.inr (Or.inr (Or.inr (Or.inr (Or.inl rfl))))))).trans h.df, (hk _ ((h.own _).2 (Or.inr (Or.inr (Or.inr (Or.inr (Or.inr (Or.inl rfl)))))))).trans h.lo, (hk _ ((h.own _).2 (Or.inr (Or.inr (Or.inr (Or.inr (Or.inr (Or.inr rfl)))))))).trans h.go_⟩
theorem JwE.add {W0 : World} {N0 Bs g cap k : Nat} {L : List (List Sg)} {sp : List (Sg × Nat)} {u : List Sg} {r : List Tm} {ns : List Nat} {q3 BP BH D lp : Nat} {r' rb : Loop} {GO : Option Obj} {pre : List (List Sg)} {f : Nat → Prop} {W W6 : World} {gs : List Nat} {nv : Value} {x : List Sg} (h : JwE W0 N0 Bs g cap k L sp u r ns q3 BP BH D lp r' GO pre f W gs nv) (hz : N0 ≤ W.heap.size) (h4 : N0 ≤ lp) (hBs : Bs ≠ BP ∧ Bs ≠ BH ∧ Bs ≠ D ∧ Bs ≠ lp) (hl : BP ≠ lp ∧ BH ≠ lp ∧ D ≠ lp)
  (hx : Bh L u x) (hn : x ∉ pre) (hw : WkPost W0 N0 Bs g cap k L sp x r (ns ++ gs) nv (W.putObj lp (.loop rb)) W6) :
  W6.heap[lp]? = some (.loop rb) ∧ ∃ f', Jw W0 N0 Bs g cap k L sp u r ns q3 BP BH D lp r' GO (pre ++ [x]) f' (W6.putObj lp (.loop r')) ∧ ExQ f W (W6.putObj lp (.loop r')) ∧ ∀ b, f' b → f b ∨ W.heap.size ≤ b := by
 obtain ⟨g2, nv2, w1, w2, w3, w4⟩ := hw
 have hlt : lp < W.heap.size := (Array.getElem?_eq_some_iff.1 h.lo).1
 have hzV : (W.putObj lp (.loop rb)).heap.size = W.heap.size := by simp
 have kV : ∀ b, b ≠ lp → (W.putObj lp (.loop rb)).heap[b]? = W.heap[b]? := fun b hb => World.putObj_heap_other hb
 have nlo := own_loop h.srs.row h.lo
 have ndf := own_def h.srs.row h.df
 have nbp := own_blk h.srs.row (by decide) h.bp
 have nbb := own_blk h.srs.row (by decide) h.bb
 have k6 : ∀ b, b < W.heap.size → b ≠ Bs → nv.ownBlock ≠ some b → W6.heap[b]? = (W.putObj lp (.loop rb)).heap[b]? := fun b hb h1 h2 => w3.block b (by rw [hzV]; exact hb) (fun e => e.elim h1 h2)
 have hs6 := w3.size
 rw [hzV] at hs6
 have lo6 : W6.heap[lp]? = some (.loop rb) := (k6 lp hlt (Ne.symm hBs.2.2.2) nlo).trans (World.putObj_heap_same hlt)
 have k7 : ∀ b, b ≠ lp → (W6.putObj lp (.loop r')).heap[b]? = W6.heap[b]? := fun b hb => World.putObj_heap_other hb
 have n2lo : nv2.ownBlock ≠ some lp := own_loop w2.row lo6
 have all : ∀ b, b < W.heap.size → b ≠ Bs → nv.ownBlock ≠ some b → b ≠ lp → (W6.putObj lp (.loop r')).heap[b]? = W.heap[b]? := fun b hb h1 h2 h3 => (k7 b h3).trans ((k6 b hb h1 h2).trans (kV b h3))
 refine ⟨lo6, fun b => (b = Bs ∨ nv2.ownBlock = some b ∨ b = BP ∨ b = BH ∨ b = D ∨ b = lp ∨ b = g), ⟨gs ++ g2, nv2, fun z hz => ?_, h.got.add h.bh hx hn w1, ?_, fun b => Iff.rfl, ?_, ?_, ?_, ?_, ?_⟩, ?_, fun b hb => ?_⟩
 ·rcases List.mem_append.1 hz with hz | hz
  ·exact h.bh z hz
  ·have e : z = x := by simpa using hz
   rw [e]; exact hx
 ·rw [← List.append_assoc]
  refine w2.kept ⟨rfl, rfl, rfl, by simp, fun b hb => k7 b (by omega)⟩ (k7 _ hBs.2.2.2) (fun b hv => k7 b fun e => n2lo (by rw [← e]; exact hv)) (k7 _ (w2.gloop lo6))
 ·exact (all BP h.bp.lt (Ne.symm hBs.1) nbp hl.1).trans h.bp
 ·exact (all BH h.bb.lt (Ne.symm hBs.2.1) nbb hl.2.1).trans h.bb
 ·exact (all D (Array.getElem?_eq_some_iff.1 h.df).1 (Ne.symm hBs.2.2.1) ndf hl.2.2).trans h.df
 ·exact World.putObj_heap_same (by omega)
 ·exact (all g (h.srs.spo.lt g rfl).2 h.srs.gne.1 h.srs.gne.2 (h.srs.gloop h.lo)).trans h.go_
 ·refine ⟨w3.os, w3.tape, w3.output, by simp; omega, fun b hb hn2 => all b hb (fun e => hn2 ((h.own b).2 (Or.inl e))) (fun e => hn2 ((h.own b).2 (Or.inr (Or.inl e)))) (fun e => hn2 ((h.own b).2 (Or.inr (Or.inr (Or.inr (Or.inr (Or.inr (Or.inl e))))))))⟩
 ·rcases hb with hb | hb | hb
  ·exact Or.inl ((h.own b).2 (Or.inl hb))
  ·rcases w4 b hb with h5 | h5
   ·exact Or.inl ((h.own b).2 (Or.inr (Or.inl h5)))
   ·exact Or.inr (by rw [hzV] at h5; exact h5)
  ·exact Or.inl ((h.own b).2 (Or.inr (Or.inr hb)))
set_option maxHeartbeats 8000000 in
theorem walkB {W0 : World} {N N0 Bs g cap M : Nat} {tv : Value} {L : List (List Sg)} {y : Lay} {sp : List (Sg × Nat)} {k : Nat} (hC : Ctx W0 N N0 Bs g cap M tv L y sp) {s : ByteArray} {l r : List Tm} (hr : WkC W0 N0 Bs g cap k L y sp r) (hv : varB s = true) (hk : k ≠ 0) : WkC W0 N0 Bs g cap k L y sp (⟨s, l⟩ :: r) := by
 intro a u ns nv W hsp hu hD hS hz
 have hget := hsp.get
 have hsg : sgT ⟨s, l⟩ = vsg := sgT_var (t := ⟨s, l⟩) hv
 rw [hsg] at hget
 obtain ⟨q3, hq3⟩ : ∃ q3, q3 = a + 1 + sizeL l := ⟨_, rfl⟩
 have hget2 : sp[a]? = some (vsg, q3) := by rw [hq3]; exact hget
 have HQ3 := hide hq3
 have halt := hsp.lt
 have hals := hC.short
 have hai : (a : Int) < (sp.length : Int) := by omega
 have hane : ((a : Int) == (sp.length : Int)) = false := by simp; omega
 have hane2 : ¬ (a : Int) = (sp.length : Int) := by omega
 have hkb : ((k : Int) != 0) = true := by simp; omega
 have hkc : ¬ (k : Int) = 0 := by omega
 have HSP := hide hsp
 have HU := hide hu
 have HD := hide hD
 have HZ := hide hz
 have HB1 : Hid (Below W.heap.size W (W.alloc (.cells #[.pointer (some ⟨Bs, 0, none⟩)] 106))) := (Below.refl _ _).alloc (Nat.le_refl _) _
 have HS1 : Hid (SrS W0 N0 Bs g cap k sp ns nv (W.alloc (.cells #[.pointer (some ⟨Bs, 0, none⟩)] 106))) := hS.later hz HB1.out
 have HP1 : Hid (Blk (W.alloc (.cells #[.pointer (some ⟨Bs, 0, none⟩)] 106)) W.heap.size #[.pointer (some ⟨Bs, 0, none⟩)] 106) := Blk.new _ _ _
 obtain ⟨d0, d1, d2⟩ := HS1.out.spot hget2
 obtain ⟨na, nc, rfl⟩ := own_sliceI hS.row
 have HOW : Hid (∀ b, (Value.slice na ns.length nc).ownBlock = some b → b < W.heap.size ∧ N0 ≤ b) := fun b hb => ⟨(hS.row.lt b hb).2, (hS.row.lt b hb).1⟩
 have HBL : Hid (Bs < W.heap.size) := hS.box.lt
 have s0 := HS1.out.box.c1
 have p0 := HP1.out.c0
 clear hS hz hu hsp hget hget2 hD halt hq3 hsg
 simp only [sgV, vsg] at d0 d1 d2
 refine (callsIn_wide (n := 9)).1 ?_
 refine callsIn_of_wp_marks Tryz.func45 rfl trivial ?_ rfl
 simp only [Tryz.ntmps45, List.size_toArray, List.length_cons, List.length_nil, Nat.reduceAdd, Nat.reduceSub, Array.replicate_succ, Array.replicate_zero, List.push_toArray, List.append_toArray, List.nil_append, List.cons_append]
 have HB2 : Hid (Below W.heap.size W ((W.alloc (.cells #[.pointer (some ⟨Bs, 0, none⟩)] 106)).alloc (.cells #[.string ⟨#[]⟩, .int .i64 0, .int .i64 (q3 : Int)] 87))) := HB1.out.alloc (by simp) _
 have HS2 : Hid (SrS W0 N0 Bs g cap k sp ns (.slice na ns.length nc) ((W.alloc (.cells #[.pointer (some ⟨Bs, 0, none⟩)] 106)).alloc (.cells #[.string ⟨#[]⟩, .int .i64 0, .int .i64 (q3 : Int)] 87))) := HS1.out.later (by have := HZ.out; simp; omega) ((Below.refl _ _).alloc (Nat.le_refl _) _)
 have HP2 : Hid (Blk ((W.alloc (.cells #[.pointer (some ⟨Bs, 0, none⟩)] 106)).alloc (.cells #[.string ⟨#[]⟩, .int .i64 0, .int .i64 (q3 : Int)] 87)) W.heap.size #[.pointer (some ⟨Bs, 0, none⟩)] 106) := HP1.out.alloc _
 have HH2 : Hid (Blk ((W.alloc (.cells #[.pointer (some ⟨Bs, 0, none⟩)] 106)).alloc (.cells #[.string ⟨#[]⟩, .int .i64 0, .int .i64 (q3 : Int)] 87)) (W.heap.size + 1) #[.string ⟨#[]⟩, .int .i64 0, .int .i64 (q3 : Int)] 87) := by
  have h := Blk.new (W.alloc (.cells #[.pointer (some ⟨Bs, 0, none⟩)] 106)) #[.string ⟨#[]⟩, .int .i64 0, .int .i64 (q3 : Int)] 87
  rw [World.size_alloc] at h
  exact h
 have hz2 : ((W.alloc (.cells #[.pointer (some ⟨Bs, 0, none⟩)] 106)).alloc (.cells #[.string ⟨#[]⟩, .int .i64 0, .int .i64 (q3 : Int)] 87)).heap.size = W.heap.size + 2 := by simp
 gi_wp2
 clear d0 d1 d2 s0 p0 HS1 HP1 HB1
 generalize ((W.alloc (.cells #[.pointer (some ⟨Bs, 0, none⟩)] 106)).alloc (.cells #[.string ⟨#[]⟩, .int .i64 0, .int .i64 (q3 : Int)] 87)) = w2 at *
 refine ⟨trivial, (callsIn_wide.2 (signIsVar_any vsg w2)).mono ?_⟩
 rintro e w3 ⟨rfl, hb3⟩
 rw [emB_vsg]
 have HS3 := hide (HS2.out.later (by have := HZ.out; omega) hb3)
 have HP3 := hide (HP2.out.below hb3 HP2.out.lt)
 have HH3 := hide (HH2.out.below hb3 HH2.out.lt)
 have HW3 := hide (HB2.out.trans (hb3.mono HB2.out.size))
 have hz3 : W.heap.size + 2 ≤ w3.heap.size := by have := hb3.size; omega
 clear hb3 HB2 HS2 HP2 HH2 hz2
 clear w2
 have p3 := HP3.out.c0
 have k3 := HS3.out.box.c0
 gi_wp2
 clear p3 k3
 refine ⟨trivial, (callsIn_wide.2 (behind_any y u w3)).mono ?_⟩
 rintro e w4 ⟨rfl, hw4⟩
 have HS4 : Hid (SrS W0 N0 Bs g cap k sp ns (.slice na ns.length nc) w4) := by rw [hw4]; exact HS3.out.later (by have := HZ.out; omega) ((Below.refl _ _).alloc (Nat.le_refl _) _)
 have HP4 : Hid (Blk w4 W.heap.size #[.pointer (some ⟨Bs, 0, none⟩)] 106) := by rw [hw4]; exact HP3.out.alloc _
 have HH4 : Hid (Blk w4 (W.heap.size + 1) #[.string ⟨#[]⟩, .int .i64 0, .int .i64 (q3 : Int)] 87) := by rw [hw4]; exact HH3.out.alloc _
 have HN4 : Hid (Blk w4 w3.heap.size #[ndV y u] 83) := by rw [hw4]; exact Blk.new _ _ _
 have HW4 : Hid (Below W.heap.size W w4) := by rw [hw4]; exact HW3.out.alloc (by omega) _
 have hz4 : w4.heap.size = w3.heap.size + 1 := by rw [hw4]; simp
 clear hw4 HS3 HP3 HH3 HW3
 gi_wp2
 have HHR := hide hr
 clear hr
 refine wp_range (gf := 83) (lb := #[.pointer (some ⟨w3.heap.size, 0, none⟩)]) rfl (enters_of Tryz.func83 (by kernel_rfl) rfl) ?_
 intro r' hr1 hr2 hr3 hr4 hr5 hr6
 have HZ0 := HZ.out
 have hz5 : ((w4.alloc (.deferred (some []))).alloc (.loop r')).heap.size = w4.heap.size + 2 := by simp
 have HB5 : Hid (Below w4.heap.size w4 ((w4.alloc (.deferred (some []))).alloc (.loop r'))) := ((Below.refl _ _).alloc (Nat.le_refl _) _).alloc (by simp) _
 have HD5 : Hid (((w4.alloc (.deferred (some []))).alloc (.loop r')).heap[w4.heap.size]? = some (.deferred (some []))) := (Below.heap_alloc _ _ _ (by simp)).trans (heap_alloc_new _ _)
 have HL5 : Hid (((w4.alloc (.deferred (some []))).alloc (.loop r')).heap[w4.heap.size + 1]? = some (.loop r')) := by
  have h := heap_alloc_new (w4.alloc (.deferred (some []))) (.loop r')
  rw [World.size_alloc] at h
  exact h
 generalize ((w4.alloc (.deferred (some []))).alloc (.loop r')) = W5 at *
 have hD3 : W.heap.size + 3 ≤ w4.heap.size := by omega
 have HS5 := hide (HS4.out.later (by omega) HB5.out)
 have HP5 := hide (HP4.out.below HB5.out HP4.out.lt)
 have HH5 := hide (HH4.out.below HB5.out HH4.out.lt)
 have HN5 := hide (HN4.out.below HB5.out HN4.out.lt)
 have HW5 := hide (HW4.out.trans (HB5.out.mono (by omega)))
 clear hz4 HS4 HP4 HH4 HN4 HW4 HB5 hz3
 generalize hDD : w4.heap.size = D at *
 have HZ5 := hide hz5
 clear hDD hz5
 obtain ⟨rb, hrb⟩ : ∃ rb : Loop, rb = { r' with state := .busy } := ⟨_, rfl⟩
 have HJ5 : Hid (Jw W0 N0 Bs g cap k L sp u r ns q3 W.heap.size (W.heap.size + 1) D (D + 1) r' W5.heap[g]? [] (fun b => b = Bs ∨ (Value.slice na ns.length nc).ownBlock = some b ∨ b = W.heap.size ∨ b = W.heap.size + 1 ∨ b = D ∨ b = D + 1 ∨ b = g) W5) :=
  ⟨[], .slice na ns.length nc, (fun z hz => by cases hz), SrG.nil L k r, by rw [List.append_nil]; exact HS5.out, fun b => Iff.rfl, HP5.out, HH5.out, HD5.out, HL5.out, rfl⟩
 have hbl := HBL.out
 have RH : RndX (D + 1) y (Bh L u) (Jw W0 N0 Bs g cap k L sp u r ns q3 W.heap.size (W.heap.size + 1) D (D + 1) r' W5.heap[g]?) := by
  intro n pre x f W' hxn hxb hpre hj
  obtain ⟨gs, nv', hj⟩ := hj
  have hzW : N0 ≤ W'.heap.size := by have := (Array.getElem?_eq_some_iff.1 hj.lo).1; omega
  have HSV : Hid (SrS W0 N0 Bs g cap k sp (ns ++ gs) nv' (W'.putObj (D + 1) (.loop rb))) := hj.srs.kept ⟨rfl, rfl, rfl, by simp, fun b hb => World.putObj_heap_other (by omega)⟩ (World.putObj_heap_other (by omega)) (fun b hb => World.putObj_heap_other (fun e => own_loop hj.srs.row hj.lo (by rw [← e]; exact hb))) (World.putObj_heap_other (hj.srs.gloop hj.lo))
  have HPV : Hid (Blk (W'.putObj (D + 1) (.loop rb)) W.heap.size #[.pointer (some ⟨Bs, 0, none⟩)] 106) := (World.putObj_heap_other (by omega)).trans hj.bp
  have HHV : Hid (Blk (W'.putObj (D + 1) (.loop rb)) (W.heap.size + 1) #[.string ⟨#[]⟩, .int .i64 0, .int .i64 (q3 : Int)] 87) := (World.putObj_heap_other (by omega)).trans hj.bb
  have CL := HHR.out q3 x (ns ++ gs) nv' (W'.putObj (D + 1) (.loop rb)) (by rw [HQ3.out]; exact HSP.out.past) hxb.1 (HD.out.past hv hk hj.got hj.bh hxb hxn) HSV.out (by simp; exact hzW)
  have HCL := hide CL
  have HADD : Hid (∀ W6, WkPost W0 N0 Bs g cap k L sp x r (ns ++ gs) nv' (W'.putObj (D + 1) (.loop rb)) W6 → W6.heap[D + 1]? = some (.loop rb) ∧ ∃ f', Jw W0 N0 Bs g cap k L sp u r ns q3 W.heap.size (W.heap.size + 1) D (D + 1) r' W5.heap[g]? (pre ++ [x]) f' (W6.putObj (D + 1) (.loop r')) ∧ ExQ f W' (W6.putObj (D + 1) (.loop r')) ∧ ∀ b, f' b → f b ∨ W'.heap.size ≤ b) := fun W6 hw => hj.add hzW (by omega) ⟨by omega, by omega, by omega, by omega⟩ ⟨by omega, by omega, by omega⟩ hxb hxn hw
  have hlo := hj.lo
  clear CL hj HJ5 HN5 HS5 HP5 HH5 HW5 HD5 HL5
  refine yield_on hrb hr5 hr6 hr4 hr3 hlo hr1 hr2 rfl ?_
  clear hr1 hr2 hr3 hr4 hr5 hr6
  gi_wp2
  refine ⟨hlo, ?_⟩
  clear hlo hrb
  have pV := HPV.out.c0
  have hV := HHV.out.c2
  generalize W'.putObj (D + 1) (.loop rb) = V at *
  gi_wp2
  refine ⟨trivial, fun h => by simp [Fence.wide] at h, (CallsIn.inRound (D + 1) (callsIn_wide.2 HCL.out)).mono ?_⟩
  rintro e W6 ⟨rfl, hw⟩
  obtain ⟨ha1, ha2⟩ := HADD.out W6 hw
  have HA1 := hide ha1
  have HA2 := hide ha2
  clear ha1 ha2 hw HCL HADD pV hV
  gi_wp2
  exact ⟨HA1.out, HA2.out⟩
 refine (behind1_any hC.tri hC.size (Jw.ok hC.here (by omega) (by omega) (by omega) (by omega) hC.gat) RH hC.len u HU.out (fun x h => h) w3.heap.size _ W5 HJ5.out HN5.out).mono ?_
 rintro e Wf ⟨hret, vs, f', hps, ⟨gs, nv', hJ⟩, hex, hf⟩
 refine ⟨hret, hJ.lo, ?_⟩
 have kg : ∀ b, b ≠ D + 1 → (Wf.putObj (D + 1) (.loop { r' with state := .exhausted })).heap[b]? = Wf.heap[b]? := fun b h => World.putObj_heap_other h
 have HGD : Hid ((Wf.putObj (D + 1) (.loop { r' with state := .exhausted })).heap[D]? = some (.deferred (some []))) := (kg D (by omega)).trans hJ.df
 have HFIN : Hid (WkPost W0 N0 Bs g cap k L sp u (⟨s, l⟩ :: r) ns (.slice na ns.length nc) W ((Wf.putObj (D + 1) (.loop { r' with state := .exhausted })).putObj D (.deferred none))) := by
  have kh : ∀ b, b ≠ D → b ≠ D + 1 → ((Wf.putObj (D + 1) (.loop { r' with state := .exhausted })).putObj D (.deferred none)).heap[b]? = Wf.heap[b]? := fun b h1 h2 => (World.putObj_heap_other h1).trans (kg b h2)
  have nlo := own_loop hJ.srs.row hJ.lo
  have ndf := own_def hJ.srs.row hJ.df
  refine ⟨gs, nv', hJ.got.done hps hv hk, hJ.srs.kept ⟨rfl, rfl, rfl, by simp, fun b hb => kh b (by omega) (by omega)⟩ (kh Bs (by omega) (by omega)) (fun b hb => kh b (fun e => ndf (by rw [← e]; exact hb)) (fun e => nlo (by rw [← e]; exact hb))) (kh g (hJ.srs.gdef hJ.df) (hJ.srs.gloop hJ.lo)), ⟨hex.os.trans HW5.out.os, hex.tape.trans HW5.out.tape, hex.output.trans HW5.out.output, by have h1 := hex.size; have h2 := HW5.out.size; simp; omega, fun b hb hn => ?_⟩, fun b hb => ?_⟩
  ·by_cases hbg : b = g
   ·rw [hbg]
    exact (kh g (hJ.srs.gdef hJ.df) (hJ.srs.gloop hJ.lo)).trans (hJ.go_.trans (HW5.out.block g (by rw [← hbg]; exact hb)))
   refine (kh b (by omega) (by omega)).trans ((hex.block b (by have := HW5.out.size; omega) (fun e => ?_)).trans (HW5.out.block b hb))
   rcases e with e | e | e | e | e | e | e
   ·exact hn (Or.inl e)
   ·exact hn (Or.inr e)
   ·omega
   ·omega
   ·omega
   ·omega
   ·exact hbg e
  ·rcases hf b ((hJ.own b).2 (Or.inr (Or.inl hb))) with h | h
   ·rcases h with e | e | e | e | e | e | e
    ·exact absurd (by rw [← e]; exact hb) hJ.srs.own_ne
    ·exact Or.inl e
    ·exact Or.inr (by omega)
    ·exact Or.inr (by omega)
    ·exact Or.inr (by omega)
    ·exact Or.inr (by omega)
    ·exact absurd (by rw [← e]; exact hb) hJ.srs.gne.2
   ·exact Or.inr (by have := HW5.out.size; omega)
 clear hret hps hJ hex hf RH hr1 hr2 hr3 hr4 hr5 hr6 kg hrb HJ5 HN5 HS5 HP5 HH5 HW5 HD5 HL5
 generalize (Wf.putObj (D + 1) (.loop { r' with state := .exhausted })) = Wg at *
 gi_wp2
 refine ⟨by simp, .inl ⟨_, _, rfl, run_takeDeferred HGD.out, ?_⟩⟩
 refine ⟨.tuple #[], ?_, rfl, HFIN.out⟩
 simp [results, Tryz.results45, go_sem]
theorem walk_any {W0 : World} {N N0 Bs g cap M : Nat} {tv : Value} {L : List (List Sg)} {y : Lay} {sp : List (Sg × Nat)} {k : Nat} (hC : Ctx W0 N N0 Bs g cap M tv L y sp) : ∀ (m : Nat) (ts : List Tm), sizeL ts ≤ m → errL ts = 0 → sizeL ts ≤ 1000 → WkC W0 N0 Bs g cap k L y sp ts
 | _, [], _, _, _ => walkA hC
 | 0, t :: r, hm, _, _ => by rw [sizeI_cons] at hm; omega
 | m + 1, ⟨s, l⟩ :: r, hm, he, hz => by
  rw [sizeI_cons] at hm hz
  have hm2 : 1 + (sizeL l + sizeL r) ≤ m + 1 := hm
  have hz2 : 1 + (sizeL l + sizeL r) ≤ 1000 := hz
  obtain ⟨h1, h2⟩ := errL_cons_zero.1 he
  obtain ⟨hn, _, hl⟩ := errL_knot h1
  have hr := walk_any (k := k) hC m r (by omega) h2 (by omega)
  have hlr := walk_any (k := k) hC m (l ++ r) (by rw [sizeL_append]; omega) (errL_append_zero.2 ⟨hl, h2⟩) (by rw [sizeL_append]; omega)
  have hs : s ≠ ⟨#[]⟩ := fun e => by rw [e] at hn; exact absurd hn (by decide)
  by_cases hv : varB s = true
  ·by_cases hk : k = 0
   ·subst hk
    exact walkC1 hC hr hlr hv hs hn ⟨Nat.zero_le _, Nat.zero_le _⟩
   ·exact walkB hC hr hv hk
  ·have hv' : varB s = false := by simpa using hv
   have h3 : s.size ≤ 8 := by simp [nameB] at hn; omega
   have h4 := sizeL_len l
   exact walkC2 hC hr hlr hv' hs hn ⟨by show s.size ≤ _; omega, by show l.length ≤ _; omega⟩
def KlSet (Mt : Nat → Prop) (w : World) (F O : Nat) (s : ByteArray) (u : Value) (cF : Array Value) (wr : World) : Prop :=
 ExQ (fun b => b = F ∨ Mt b) w wr ∧ Blk wr (w.heap.size + 1) #[.string ⟨#[]⟩, .slice none 0 0] 26 ∧ Blk wr O #[.string s, u] 26 ∧ Blk wr F cF 191 ∧ O < wr.heap.size
theorem kl_set {Mt : Nat → Prop} {w wr w1 w3 : World} {F O : Nat} {s : ByteArray} {u v : Value} {cF cF' : Array Value} {o2 : Obj} (hFw : F < w.heap.size) (hM : ∀ b, Mt b → b < w.heap.size) (hO : w.heap.size + 2 ≤ O) (h : KlSet Mt w F O s u cF wr) (hu : ∀ k, u.ownBlock = some k → O + 1 ≤ k)
  (he1 : ExQ (fun b => b = F ∨ Mt b) wr w1) (hF1 : Blk w1 F cF' 191) (hg : (w1.alloc o2).grownBy w3 u.ownBlock) : KlSet Mt w F O s v cF' (w3.setCell ⟨O, 1, none⟩ v) := by
 obtain ⟨h1, h2, h3, h4, h5⟩ := h
 have hne : ∀ b, b < O + 1 → some b ≠ u.ownBlock := fun b hb e => by have := hu b e.symm; omega
 have hQ : ∀ b, w.heap.size ≤ b → ¬ (b = F ∨ Mt b) := fun b hb h => by
  rcases h with h | h
  ·omega
  ·have := hM b h; omega
 have hs1 := he1.size
 have hs3 := hg.size
 simp at hs3
 refine ⟨(((h1.trans he1).alloc o2).grown hg (fun k hk => Or.inl (by have := hu k hk; omega))).setNew (by omega) _ _, ?_, ?_, ?_, by simp [World.setCell]; omega⟩
 ·exact (((h2.exq he1 (hQ _ (by omega))).alloc o2).grown hg (hne _ (by omega))).setOther _ _ (by omega)
 ·exact (((h3.exq he1 (hQ _ (by omega))).alloc o2).grown hg (hne _ (by omega))).set 1 _
 ·exact ((hF1.alloc o2).grown hg (hne _ (by omega))).setOther _ _ (by omega)
theorem kl_row {Q : Nat → Prop} {wr w1 w3 : World} {O : Nat} {u : Value} {L : List Tm} {xs : List Value} {o2 : Obj} {s' : ByteArray} {a1 : Option Addr} {n1 c1 g cap : Nat} {t : Tm} (hQ : ∀ b, Q b → b < O) (hOr : O < wr.heap.size) (hrow : Row wr (O + 1) 26 (fun _ => False) u L xs)
  (he1 : ExQ Q wr w1) (ht : TV w1 (fun b => wr.heap.size ≤ b) (.agg #[.string s', .slice a1 n1 c1]) t)
  (hown : w3.ownsRow (O + 1) 26 2 (.slice (some ⟨g, 0, none⟩) (L.length + 1) cap) (L.length + 1) (xs ++ [.string s', .slice a1 n1 c1])) (hg : (w1.alloc o2).grownBy w3 u.ownBlock) (hat : u.ownBlock = some g ∨ g = (w1.alloc o2).heap.size) :
  Row (w3.setCell ⟨O, 1, none⟩ (.slice (some ⟨g, 0, none⟩) (L.length + 1) cap)) (O + 1) 26 (fun _ => False) (.slice (some ⟨g, 0, none⟩) (L.length + 1) cap) (L ++ [t]) (xs ++ [.string s', .slice a1 n1 c1]) := by
 obtain ⟨wm, hbm, hsm, hem⟩ := he1.mid
 have hrm := hrow.exq hem (fun b hb => by have := hQ b hb; omega) (fun _ _ h => h)
 exact (hrm.push (w1 := w1) (w2 := w1.alloc o2) (w3 := w3) (by omega) (fun _ h => h.elim) hbm (ht.mono fun b h _ => Or.inr (by omega)) o2 rfl hown hg hat).setCell (by omega) (fun h => h) _
def KlE (E : Ev) (O : Nat) (f : Bool) (Y : Nat → Prop) (u : Value) (f' : Bool) (Y' : Nat → Prop) (wr : World) : Prop :=
 E f' Y' wr ∧ (∀ b, Y' b → Y b ∨ O + 1 ≤ b) ∧ (∀ b, Y' b → some b ≠ u.ownBlock) ∧ (f = true → f' = true)
def KlInv (E : Ev) (Mt : Nat → Prop) (lk : ByteArray → Option Tm) (w : World) (F O : Nat) (s : ByteArray) (sv : Value) (l : List Tm) (n : Nat) (f : Bool) (Y : Nat → Prop) (i : Value) (wr : World) : Prop :=
 ∃ (k : Nat) (u : Value) (f' : Bool) (Y' : Nat → Prop), k ≤ l.length ∧ i = .int .i64 (k : Int) ∧ KlE E O f Y u f' Y' wr ∧
  ((∃ (m : Nat) (xs : List Value) (Mk : List Tm), Mk.length = k ∧ (m : Int) = (n : Int) - 1 - sizeL Mk ∧ KlSet Mt w F O s u #[.int .i64 (m : Int), sv] wr ∧ Row wr (O + 1) 26 (fun _ => False) u Mk xs ∧ (f' = false → Mk = gL lk (l.take k))) ∨
   (KlSet Mt w F O s u #[.int .i64 (-1), sv] wr ∧ (∃ a9 l9 c9, u = .slice a9 l9 c9) ∧ (f' = false → n < 1 + sizeL (gL lk l))))
theorem kl_ev {E : Ev} {Mt : Nat → Prop} (hE : EvOk E Mt) {O : Nat} {f f' f1 : Bool} {Y Y' Y1 : Nat → Prop} {u : Value} {wr w1 w3 : World} {o2 : Obj} {g cap n9 : Nat} {x : Value} (hYw : ∀ b, Y b → b < O) (h : KlE E O f Y u f' Y' wr) (hu : ∀ k, u.ownBlock = some k → k < wr.heap.size) (hOr : O < wr.heap.size) (hsz : wr.heap.size ≤ w1.heap.size)
  (hE1 : E f1 Y1 w1) (hsub : ∀ b, Y1 b → Y' b ∨ wr.heap.size ≤ b) (hff : f' = true → f1 = true) (hg : (w1.alloc o2).grownBy w3 u.ownBlock) (hat : u.ownBlock = some g ∨ g = (w1.alloc o2).heap.size) :
  KlE E O f Y (.slice (some ⟨g, 0, none⟩) n9 cap) f1 Y1 (w3.setCell ⟨O, 1, none⟩ x) := by
 obtain ⟨h1, h2, h3, h4⟩ := h
 have hin := hE.inY _ _ _ hE1
 have hno : ∀ b, Y1 b → some b ≠ u.ownBlock := fun b hb e => by
  rcases hsub b hb with h | h
  ·exact h3 b h e
  ·have := hu b e.symm; omega
 have hsb : ∀ b, Y1 b → Y b ∨ O + 1 ≤ b := fun b hb => by
  rcases hsub b hb with h | h
  ·exact h2 b h
  ·right; omega
 refine ⟨hE.keep _ _ _ _ hE1 fun b hb => ?_, hsb, fun b hb e => ?_, fun h => hff (h4 h)⟩
 ·have hbO : b ≠ O := fun e => by
   rcases hsb b hb with h | h
   ·have := hYw b h; omega
   ·omega
  have hbl := hin b hb
  rw [Below.heap_setCell _ _ _ _ (by simpa using hbO), hg.block b (by simp; omega) (hno b hb), Below.heap_alloc _ _ _ hbl]
 ·have e2 : b = g := by simpa [Value.ownBlock] using e
  subst e2
  rcases hat with h | h
  ·exact hno b hb h.symm
  ·have := hin b hb; simp at h; omega
theorem kl_end {E : Ev} {Mt : Nat → Prop} (hE : EvOk E Mt) {w wr : World} {F O : Nat} {s : ByteArray} {u sv : Value} {tgt : Tm} {n : Nat} {f f' : Bool} {Y Y' : Nat → Prop} {a' : Option Addr} {l' c' : Nat} {m : Int} {v0 v1 : Value} (hF : F < w.heap.size) (hY : ∀ b, Y b → b < w.heap.size) (hO : w.heap.size + 2 ≤ O)
  (h1 : KlSet Mt w F O s u #[.int .i64 m, sv] wr) (h2 : KlE E O f Y u f' Y' wr) (hc : FlC w tgt n f' s a' l' m 2 wr) :
  FlPost E Mt F sv tgt n f Y w (.returned (.agg #[.string s, .slice a' l' c'])) ((wr.setCell ⟨w.heap.size + 1, 0, none⟩ v0).setCell ⟨w.heap.size + 1, 1, none⟩ v1) :=
 fl_end hE hF hY h1.2.2.2.1 h1.1 h2.1 (fun b hb => (h2.2.1 b hb).imp id fun h => by omega) h2.2.2.2 hc
theorem fl_alloc {E : Ev} {Mt : Nat → Prop} (hE : EvOk E Mt) {w w' : World} {F : Nat} {sv : Value} {tgt : Tm} {n : Nat} {f : Bool} {Y : Nat → Prop} {e : Ending} (h : FlPost E Mt F sv tgt n f Y w e w') (o : Obj) : FlPost E Mt F sv tgt n f Y w e (w'.alloc o) := by
 obtain ⟨s', a', l', c', m, f', Y', he, h1, h2, h3, h4, h5, h6⟩ := h
 refine ⟨s', a', l', c', m, f', Y', he, h1.alloc o, h2.alloc o, hE.below h3 ((Below.refl _ _).alloc (Nat.le_refl _) o), h4, h5, ?_⟩
 rcases h6 with ⟨y, e1, e2, e3, e4, e5, e6⟩ | h6
 ·exact Or.inl ⟨y, e1, e2, e3, e4, e5.later ((Below.refl _ _).alloc (Nat.le_refl _) o), e6⟩
 ·exact Or.inr h6
theorem occ_get {nm : ByteArray} {l : List Tm} {k : Nat} (h : k < l.length) (ho : occL nm [l[k]]) : occL nm l := by
 have : l = l.take k ++ (l[k] :: l.drop (k + 1)) := by rw [List.getElem_cons_drop, List.take_append_drop]
 rw [this, occL_append, occL_cons]
 exact Or.inr (Or.inl ho)
set_option maxHeartbeats 1000000 in
theorem knotL_any {E : Ev} {Mt : Nat → Prop} (hE : EvOk E Mt) (F S : Nat) (lk : ByteArray → Option Tm) (t : Tm) : ∀ (n : Nat) (v : Value) (w : World) (X Y : Nat → Prop) (f : Bool), TV w X v t → (∀ b, X b → b ≠ F ∧ ¬ Mt b) → n ≤ 1000000 → Blk w F #[.int .i64 (n : Int), sV S] 191 → E f Y w → ¬ Y F → (∀ nm, occL nm t.args → varB nm = true → LkC E Mt S (lk nm) nm) →
  Calls Tryz.prog 147 #[.pointer (some ⟨F, 0, none⟩), v, .func (.func 136) #[.pointer (some ⟨F, 0, none⟩)] #[]] w fun e w' => FlPost E Mt F (sV S) ⟨t.name, gL lk t.args⟩ n f Y w e w' := by
 induction t using Tm.ind with
 | h s l ih =>
  intro n v w X Y f hv hXF hn hF hEv hYF hL
  obtain ⟨a, c, rfl, hs⟩ := hv
  dsimp only
  have HYW : Hid (∀ b, Y b → b < w.heap.size) := hE.inY _ _ _ hEv
  have HMT : Hid (∀ b, Mt b → b < w.heap.size) := fun b hb => HYW.out b (hE.mt _ _ _ hEv b hb)
  have HL := hide hL
  have HEV := hide hEv
  clear hL hEv
  generalize hsv : sV S = sv at *
  have IH := hide ih
  clear ih
  obtain ⟨i0, hi0, hz0, hz1, hz2⟩ := info_parts Tryz.infoTerm
  have f0 : ∀ o, (w.alloc o).cell? ⟨F, 0, none⟩ = some (.int .i64 (n : Int)) := fun o => (hF.alloc o).cell 0
  have ff : ∀ o, (w.alloc o).frozen? ⟨F, 0, none⟩ = false := fun o => (hF.alloc o).frozen 0
  have hFl : F < w.heap.size := hF.lt
  go_enter Tryz.func147, Tryz.ntmps147
  go_wp2_with fail
  have E3 : Hid (KlSet Mt w F (w.heap.size + 1 + 1) s (.slice none 0 0) #[.int .i64 ((n : Int) - 1), sv] ((((w.setCell ⟨F, 0, none⟩ (.int .i64 ((n : Int) - 1))).alloc (.cells #[.string s, .slice a l.length c] 26)).alloc (.cells #[.string ⟨#[]⟩, .slice none 0 0] 26)).alloc (.cells #[.string s, .slice none 0 0] 26))) := by
   refine ⟨((((ExQ.refl _ w).set (Or.inl rfl) 0 _).alloc _).alloc _).alloc _, ?_, ?_, (((hF.set 0 _).alloc _).alloc _).alloc _, by simp [World.setCell]⟩
   ·have h := (Blk.new ((w.setCell ⟨F, 0, none⟩ (.int .i64 ((n : Int) - 1))).alloc (.cells #[.string s, .slice a l.length c] 26)) #[.string ⟨#[]⟩, .slice none 0 0] 26).alloc (.cells #[.string s, .slice none 0 0] 26)
    simpa [World.setCell] using h
   ·have h := Blk.new (((w.setCell ⟨F, 0, none⟩ (.int .i64 ((n : Int) - 1))).alloc (.cells #[.string s, .slice a l.length c] 26)).alloc (.cells #[.string ⟨#[]⟩, .slice none 0 0] 26)) #[.string s, .slice none 0 0] 26
    simpa [World.setCell] using h
  have EV3 : Hid (KlE E (w.heap.size + 1 + 1) f Y (.slice none 0 0) f Y ((((w.setCell ⟨F, 0, none⟩ (.int .i64 ((n : Int) - 1))).alloc (.cells #[.string s, .slice a l.length c] 26)).alloc (.cells #[.string ⟨#[]⟩, .slice none 0 0] 26)).alloc (.cells #[.string s, .slice none 0 0] 26))) := by
   refine ⟨hE.keep _ _ _ _ HEV.out fun b hb => ?_, fun b hb => Or.inl hb, fun b _ e => by simp [Value.ownBlock] at e, fun h => h⟩
   have h1 := HYW.out b hb
   rw [Below.heap_alloc _ _ _ (by simp [World.setCell]; omega), Below.heap_alloc _ _ _ (by simp [World.setCell]; omega), Below.heap_alloc _ _ _ (by simpa [World.setCell] using h1), Below.heap_setCell _ _ _ _ (by simp; intro e; subst e; exact hYF hb)]
  generalize ((((w.setCell ⟨F, 0, none⟩ (.int .i64 ((n : Int) - 1))).alloc (.cells #[.string s, .slice a l.length c] 26)).alloc (.cells #[.string ⟨#[]⟩, .slice none 0 0] 26)).alloc (.cells #[.string s, .slice none 0 0] 26)) = w3 at *
  generalize hOe : w.heap.size + 1 + 1 = O at *
  have hO : w.heap.size + 2 ≤ O := by omega
  clear hOe
  clear f0 ff
  have HS := hide hs
  have hl := hs.1
  have HXF := hide hXF
  clear hs hXF
  have HQ : Hid (∀ b, w.heap.size ≤ b → ¬ (b = F ∨ Mt b)) := fun b hb h => by
   rcases h with h | h
   ·omega
   ·have := HMT.out b h; omega
  go_loopw [23] (fun i wr => KlInv E Mt lk w F O s sv l n f Y i wr) (fun i wr => l.length - (intOf i).toNat)
  case atStart =>
   refine ⟨0, .slice none 0 0, f, Y, Nat.zero_le _, rfl, EV3.out, ?_⟩
   by_cases hn0 : n = 0
   ·subst hn0
    exact Or.inr ⟨E3.out, ⟨none, 0, 0, rfl⟩, fun _ => by omega⟩
   ·refine Or.inl ⟨n - 1, [], [], rfl, by simp [sizeL]; omega, ?_, Row.start _ _ _ _, fun _ => by simp [gL]⟩
    rw [show ((n - 1 : Nat) : Int) = (n : Int) - 1 by omega]
    exact E3.out
  case round =>
   obtain ⟨k, u, f', Y', hk, rfl, hev, hcase⟩ := hrel
   have EV := hide hev
   clear hev
   rcases hcase with ⟨m, xs, Mk, hMk, hm, hset, hrow, hgd⟩ | ⟨hset, ⟨a9, l9, c9, rfl⟩, hbig⟩
   ·have XS := hide hset
    have XW := hide hrow
    have HMM := hide hm
    have HGD := hide hgd
    clear hset hrow hgd
    by_cases hlt : k < l.length
    ·obtain ⟨b, o, a', c', rfl, d0, d1, hx⟩ := (HS.out.exq XS.out.1 (fun b hb h => by rcases h with h | h; exact (HXF.out b hb).1 h; exact (HXF.out b hb).2 h)).get (Below.refl _ _) (fun _ _ h => h) k hlt
     obtain ⟨av, cv, ev, hsx⟩ := hx
     simp at ev
     obtain ⟨rfl, rfl⟩ := ev
     have hmn : m ≤ 1000000 := by omega
     have hOF : ¬ (O = F ∨ Mt O) := HQ.out O (by omega)
     have HQO : Hid (∀ b, (b = F ∨ Mt b) → b < O) := fun b h => by
      rcases h with h | h
      ·omega
      ·have := HMT.out b h; omega
     have hkn : k ≤ 1000000 := by have h1 := sizeL_len Mk; rw [hMk] at h1; omega
     have HL1 : Hid (Mk.length + 1 ≤ maxLen ∧ (Mk.length + 1) * 40 ≤ 140737488355328) := by unfold Hid; rw [hMk]; exact ⟨by unfold maxLen; omega, by omega⟩
     have hY'F : ¬ Y' F := fun h => by
      rcases EV.out.2.1 F h with h1 | h1
      ·exact hYF h1
      ·omega
     have IHQ : Hid (Calls Tryz.prog 136 #[.pointer (some ⟨F, 0, none⟩), .agg #[.string l[k].name, .slice a' l[k].args.length c']] (wr.alloc (.cells #[.string l[k].name, .slice a' l[k].args.length c'] 26)).drew fun e w'' => FlPost E Mt F sv (gT lk l[k]) m f' Y' (wr.alloc (.cells #[.string l[k].name, .slice a' l[k].args.length c'] 26)).drew e w'') := by
      have hB1 : Below wr.heap.size wr (wr.alloc (.cells #[.string l[k].name, .slice a' l[k].args.length c'] 26)).drew := ((Below.refl _ _).alloc (Nat.le_refl _) _).drew
      have hEr : E f' Y' (wr.alloc (.cells #[.string l[k].name, .slice a' l[k].args.length c'] 26)).drew := hE.below EV.out.1 hB1
      have hFr : Blk (wr.alloc (.cells #[.string l[k].name, .slice a' l[k].args.length c'] 26)).drew F #[.int .i64 (m : Int), sv] 191 := (XS.out.2.2.2.1.alloc _).drewN 1
      have hSr : Sl (wr.alloc (.cells #[.string l[k].name, .slice a' l[k].args.length c'] 26)).drew X a' l[k].args := hsx.later hB1
      have IH2 := IH.out l[k] (List.getElem_mem hlt) m
      clear HMM XS XW
      subst hsv
      refine ffillL_of hE F S lk l[k] m a' c' _ X Y' f' hmn HXF.out hY'F hSr hFr hEr (fun hv => HL.out _ (occ_get hlt ?_) hv) (fun w' f2 Y2 h1 h2 h3 h4 => IH2 _ w' X Y2 f2 ⟨a', c', rfl, h1⟩ HXF.out hmn h2 h3 h4 (fun nm ho hv => HL.out nm (occ_get hlt ?_) hv))
      ·generalize l[k] = y
       obtain ⟨n1, k1⟩ := y
       exact occL_node.2 (Or.inl rfl)
      ·generalize l[k] = y at ho ⊢
       obtain ⟨n1, k1⟩ := y
       exact occL_node.2 (Or.inr (Or.inl ho))
     have f0 : ∀ o, (wr.alloc o).cell? ⟨F, 0, none⟩ = some (.int .i64 (m : Int)) := fun o => (XS.out.2.2.2.1.alloc o).cell 0
     have o1 : ∀ o, (wr.alloc o).cell? ⟨O, 1, none⟩ = some u := fun o => (XS.out.2.2.1.alloc o).cell 1
     have hm0 : ¬ (m : Int) < 0 := by omega
     go_wp2_with fail
     go_region_law (first
      | (go_simp; go_at_call 136; refine IHQ.out.mono ?_; rintro e w1 ⟨s1, a1, l1, c1, m1, f1, Y1, rfl, hF1, he0, hE1, hsub1, hff1, hc1⟩; have he1 := (((ExQ.refl (fun b => b = F ∨ Mt b) wr).alloc (.cells #[.string l[k].name, .slice a' l[k].args.length c'] 26)).drew).trans he0; have HSUB := hide hsub1; have HFF := hide hff1; have HC1 := hide hc1; have HE1 := hide hE1; clear he0 hsub1 hff1 hc1 hE1; have hc3 : ∀ o, (w1.alloc o).cell? ⟨O, 1, none⟩ = some u := fun o => ((Blk.exq XS.out.2.2.1 he1 hOF).alloc o).cell 1; have hc4 : w1.cell? ⟨O, 1, none⟩ = some u := (Blk.exq XS.out.2.2.1 he1 hOF).cell 1)
      | (refine step_append_lies _ rfl _ _ 23 rfl (O + 1) 26 i0 _ 2 40 Tryz.underlying23 hi0 hz0 hz1 hz2 rfl (by decide) u Mk.length xs rfl (by exact (Row.exq XW.out he1 (fun b hb => by have := HQO.out b hb; omega) (fun _ _ h => h)).own.alloc _) ⟨w1.heap.size, 0, none⟩ 1 1 [.string s1, .slice a1 l1 c1] rfl rfl (cell_two_new _ _ _ _) (fun x hx => by simp at hx; rcases hx with rfl | rfl <;> rfl) (by decide) HL1.out.1 HL1.out.2 (by have := he1.size; have := XS.out.2.2.2.2; simp; omega) _ rfl ?_; intro g cap w3 hown3 hgrow3 hat3 hlt3; have hB3 := hide (((Blk.exq XS.out.2.2.1 he1 hOF).alloc _).grown hgrow3 (XW.out.ne (Nat.lt_succ_self _))); have hc5 : w3.cell? ⟨O, 1, none⟩ = some u := hB3.out.cell 1; have hf5 := hB3.out.frozen 1))
     all_goals
      have HK := hide (kl_set (v := .slice (some ⟨g, 0, none⟩) (Mk.length + 1) cap) hFl HMT.out hO XS.out (fun j hj => (XW.out.own.lt j hj).1) he1 hF1 hgrow3)
      have HEV2 := hide (kl_ev (n9 := Mk.length + 1) (cap := cap) (x := .slice (some ⟨g, 0, none⟩) (Mk.length + 1) cap) hE (fun b hb => by have := HYW.out b hb; omega) EV.out (fun j hj => (XW.out.own.lt j hj).2) XS.out.2.2.2.2 he1.size HE1.out (fun b hb => (HSUB.out b hb).imp id fun h => by simp at h; omega) HFF.out hgrow3 hat3)
      have HRW : Hid (∀ y : Tm, TV w1 (fun b => wr.heap.size ≤ b) (.agg #[.string s1, .slice a1 l1 c1]) y → Row (w3.setCell ⟨O, 1, none⟩ (.slice (some ⟨g, 0, none⟩) (Mk.length + 1) cap)) (O + 1) 26 (fun _ => False) (.slice (some ⟨g, 0, none⟩) (Mk.length + 1) cap) (Mk ++ [y]) (xs ++ [.string s1, .slice a1 l1 c1])) := fun y hy => kl_row HQO.out XS.out.2.2.2.2 XW.out he1 hy hown3 hgrow3 hat3
      clear hown3 hgrow3 hat3 hc3 hc4 hc5 hf5 hB3 hF1 he1 hlt3
      go_wp2_with fail
      go_roundw
      case rel =>
       have h1 := HK.out
       have h2 := HRW.out
       have h3 := HEV2.out
       have hmm := HMM.out
       simp only [hMk] at h1 h2 h3
       refine ⟨k + 1, .slice (some ⟨g, 0, none⟩) (k + 1) cap, f1, Y1, by omega, by go_num, h3, ?_⟩
       have hgl : gL lk (l.take (k + 1)) = gL lk (l.take k) ++ [gT lk l[k]] := by rw [List.take_succ_eq_append_getElem hlt, gL_append]; simp [gL_map]
       have hf1 : f1 = false → f' = false := fun hf => by
        cases h : f' with
        | false => rfl
        | true => have := HFF.out h; rw [hf] at this; cases this
       rcases HC1.out with ⟨y, rfl, rfl, rfl, e4, e5, e6⟩ | ⟨rfl, e2⟩
       ·refine Or.inl ⟨m - sizeL [y], xs ++ [.string y.name, .slice a1 y.args.length c1], Mk ++ [y], by simp [hMk], by rw [sizeL_append]; omega, ?_, h2 y ⟨a1, c1, rfl, e5.mono fun b hb _ => by simp at hb; omega⟩, fun hf => by rw [hgl, HGD.out (hf1 hf), e6 hf]⟩
        rw [show ((m - sizeL [y] : Nat) : Int) = (m : Int) - sizeL [y] by omega]
        exact h1
       ·refine Or.inr ⟨h1, ⟨_, _, _, rfl⟩, fun hf => ?_⟩
        have h4 := e2 hf
        have h5 := HGD.out (hf1 hf)
        have h6 : sizeL (gL lk (l.take (k + 1))) = sizeL Mk + sizeL [gT lk l[k]] := by rw [hgl, sizeL_append, h5]
        have h7 : gL lk l = gL lk (l.take (k + 1)) ++ gL lk (l.drop (k + 1)) := by rw [← gL_append, List.take_append_drop]
        rw [h7, sizeL_append]
        omega
      case measure => simp [intOf]; omega
    ·have htk : l.take k = l := List.take_of_length_le (by omega)
     rw [htk] at HGD
     obtain ⟨a9, c9, hu9, hsl9⟩ := XW.out.sl
     subst hu9
     have S9 := hide hsl9
     clear hsl9
     have r0 := XS.out.2.1.c0
     have r1 := XS.out.2.1.c1
     have rf := XS.out.2.1.frozen
     have o0 := XS.out.2.2.1.c0
     have o1 := XS.out.2.2.1.c1
     go_wp2_with fail
     refine bodyPost_ret (v := .agg #[.string s, .slice a9 Mk.length c9]) (by simp [results, Tryz.results147, go_sem, World.cell?_setCell_same, World.cell?_setCell_other, r0, r1, hMk]) rfl ?_
     have hmm := HMM.out
     have hzy : sizeL [(⟨s, Mk⟩ : Tm)] = 1 + sizeL Mk := by simp [sizeL]
     refine kl_end hE hFl HYW.out hO XS.out EV.out (Or.inl ⟨⟨s, Mk⟩, rfl, rfl, by rw [hzy]; omega, by rw [hzy]; omega, S9.out.mono fun b hb _ => ?_, fun hf => by rw [HGD.out hf]⟩)
     have hb' : O + 1 ≤ b := hb.elim False.elim id
     omega
   ·have XS := hide hset
    have HBIG := hide hbig
    clear hset hbig
    have hzt : sizeL [(⟨s, gL lk l⟩ : Tm)] = 1 + sizeL (gL lk l) := by simp [sizeL]
    have f0 : ∀ o, (wr.alloc o).cell? ⟨F, 0, none⟩ = some (.int .i64 (-1)) := fun o => (XS.out.2.2.2.1.alloc o).cell 0
    by_cases hlt : k < l.length
    ·obtain ⟨b, o, a', c', rfl, d0, d1, hx⟩ := (HS.out.exq XS.out.1 (fun b hb h => by rcases h with h | h; exact (HXF.out b hb).1 h; exact (HXF.out b hb).2 h)).get (Below.refl _ _) (fun _ _ h => h) k hlt
     clear hx
     have o0 : ∀ o, (wr.alloc o).cell? ⟨O, 0, none⟩ = some (.string s) := fun o => (XS.out.2.2.1.alloc o).cell 0
     have o1 : ∀ o, (wr.alloc o).cell? ⟨O, 1, none⟩ = some (.slice a9 l9 c9) := fun o => (XS.out.2.2.1.alloc o).cell 1
     have r0 := XS.out.2.1.c0
     have r1 := XS.out.2.1.c1
     have rf := XS.out.2.1.frozen
     have hRl : w.heap.size + 1 < wr.heap.size := XS.out.2.1.lt
     go_wp2_with fail
     refine bodyPost_ret (v := .agg #[.string s, .slice a9 l9 c9]) (by simp [results, Tryz.results147, go_sem, World.cell?_setCell_same, World.cell?_setCell_other, r0, r1, hRl, World.cell?_alloc_old]) rfl ?_
     exact fl_alloc hE (kl_end hE hFl HYW.out hO XS.out EV.out (Or.inr ⟨rfl, fun hf => by rw [hzt]; exact HBIG.out hf⟩)) _
    ·have r0 := XS.out.2.1.c0
     have r1 := XS.out.2.1.c1
     have rf := XS.out.2.1.frozen
     have o0 := XS.out.2.2.1.c0
     have o1 := XS.out.2.2.1.c1
     go_wp2_with fail
     refine bodyPost_ret (v := .agg #[.string s, .slice a9 l9 c9]) (by simp [results, Tryz.results147, go_sem, World.cell?_setCell_same, World.cell?_setCell_other, r0, r1]) rfl ?_
     exact kl_end hE hFl HYW.out hO XS.out EV.out (Or.inr ⟨rfl, fun hf => by rw [hzt]; exact HBIG.out hf⟩)
theorem ffillL_any {E : Ev} {Mt : Nat → Prop} (hE : EvOk E Mt) (F S : Nat) (lk : ByteArray → Option Tm) (t : Tm) (n : Nat) (a : Option Addr) (c : Nat) (w : World) (X Y : Nat → Prop) (f : Bool) (hn : n ≤ 1000000) (hXF : ∀ b, X b → b ≠ F ∧ ¬ Mt b) (hYF : ¬ Y F) (hs : Sl w X a t.args) (hF : Blk w F #[.int .i64 (n : Int), sV S] 191) (hEv : E f Y w)
  (hL : ∀ nm, occL nm [t] → varB nm = true → LkC E Mt S (lk nm) nm) :
  Calls Tryz.prog 136 #[.pointer (some ⟨F, 0, none⟩), .agg #[.string t.name, .slice a t.args.length c]] w fun e w' => FlPost E Mt F (sV S) (gT lk t) n f Y w e w' :=
 ffillL_of hE F S lk t n a c w X Y f hn hXF hYF hs hF hEv (fun hv => hL _ (by obtain ⟨s, l⟩ := t; exact occL_node.2 (Or.inl rfl)) hv)
  (fun w' f' Y' h1 h2 h3 h4 => knotL_any hE F S lk t n _ w' X Y' f' ⟨a, c, rfl, h1⟩ hXF hn h2 h3 h4 (fun nm ho hv => hL nm (by obtain ⟨s, l⟩ := t; exact occL_node.2 (Or.inr (Or.inl ho))) hv))
def FiPost (E : Ev) (Mt : Nat → Prop) (tgt : Tm) (n : Nat) (f : Bool) (Y : Nat → Prop) (w : World) (e : Ending) (w' : World) : Prop :=
 ∃ (s' : ByteArray) (a' : Option Addr) (l' c' : Nat) (ok : Bool) (f' : Bool) (Y' : Nat → Prop), e = .returned (.tuple #[.agg #[.string s', .slice a' l' c'], .bool ok]) ∧ E f' Y' w' ∧ (∀ b, Y' b → Y b ∨ w.heap.size ≤ b) ∧ (f = true → f' = true) ∧ ExQ Mt w w' ∧
  ((ok = true ∧ ∃ y : Tm, s' = y.name ∧ l' = y.args.length ∧ sizeL [y] ≤ n ∧ Sl w' (fun b => w.heap.size ≤ b) a' y.args ∧ (f' = false → y = tgt)) ∨ (ok = false ∧ s' = ⟨#[]⟩ ∧ a' = none ∧ l' = 0 ∧ c' = 0 ∧ (f' = false → n < sizeL [tgt])))
set_option maxHeartbeats 1000000 in
theorem fillL_any {E : Ev} {Mt : Nat → Prop} (hE : EvOk E Mt) (S : Nat) (lk : ByteArray → Option Tm) (t : Tm) (n : Nat) (a : Option Addr) (c : Nat) (w : World) (X Y : Nat → Prop) (f : Bool) (hn : n ≤ 1000000) (hXM : ∀ b, X b → ¬ Mt b) (hs : Sl w X a t.args) (hEv : E f Y w)
  (hL : ∀ nm, occL nm [t] → varB nm = true → LkC E Mt S (lk nm) nm) :
  Calls Tryz.prog 128 #[.agg #[.string t.name, .slice a t.args.length c], .int .i64 (n : Int), sV S] w fun e w' => FiPost E Mt (gT lk t) n f Y w e w' := by
 have hmf : ∀ (fn : Fn) (first cap : Array Value) (w : World), (Instr.makeFunc fn first cap).run Tryz.prog w = .ok (.func fn first cap) w := fun _ _ _ _ => rfl
 have HS := hide (hs.mono (Y := fun b => X b ∧ b < w.heap.size) fun b h1 h2 => ⟨h1, h2⟩)
 have HE := hide hEv
 have HL := hide hL
 have HXM := hide hXM
 have HYW : Hid (∀ b, Y b → b < w.heap.size) := hE.inY _ _ _ hEv
 have HMT : Hid (∀ b, Mt b → b < w.heap.size) := fun b hb => HYW.out b (hE.mt _ _ _ hEv b hb)
 clear hs hEv hL hXM
 have HSV : Hid (sV S = .func (.func 129) #[.pointer (some ⟨S, 0, none⟩)] #[]) := rfl
 rw [HSV.out]
 go_enter Tryz.func128, Tryz.ntmps128
 go_wp2_with fail
 rw [← HSV.out]
 have HB3 : Hid (Below w.heap.size w (((w.alloc (.cells #[.string t.name, .slice a t.args.length c] 26)).alloc (.cells #[.string ⟨#[]⟩, .slice none 0 0] 26)).alloc (.cells #[.int .i64 (n : Int), sV S] 191))) := ((((Below.refl w.heap.size w).alloc (Nat.le_refl _) _).alloc (by simp) _).alloc (by simp; omega) _)
 have F3 : Hid (Blk (((w.alloc (.cells #[.string t.name, .slice a t.args.length c] 26)).alloc (.cells #[.string ⟨#[]⟩, .slice none 0 0] 26)).alloc (.cells #[.int .i64 (n : Int), sV S] 191)) (w.heap.size + 1 + 1) #[.int .i64 (n : Int), sV S] 191) := by
  have h := Blk.new ((w.alloc (.cells #[.string t.name, .slice a t.args.length c] 26)).alloc (.cells #[.string ⟨#[]⟩, .slice none 0 0] 26)) #[.int .i64 (n : Int), sV S] 191
  unfold Hid
  simpa using h
 have R3 : Hid (Blk (((w.alloc (.cells #[.string t.name, .slice a t.args.length c] 26)).alloc (.cells #[.string ⟨#[]⟩, .slice none 0 0] 26)).alloc (.cells #[.int .i64 (n : Int), sV S] 191)) (w.heap.size + 1) #[.string ⟨#[]⟩, .slice none 0 0] 26) := by
  have h := (Blk.new (w.alloc (.cells #[.string t.name, .slice a t.args.length c] 26)) #[.string ⟨#[]⟩, .slice none 0 0] 26).alloc (.cells #[.int .i64 (n : Int), sV S] 191)
  unfold Hid
  simpa using h
 have z3 : (((w.alloc (.cells #[.string t.name, .slice a t.args.length c] 26)).alloc (.cells #[.string ⟨#[]⟩, .slice none 0 0] 26)).alloc (.cells #[.int .i64 (n : Int), sV S] 191)).heap.size = w.heap.size + 3 := by simp
 generalize (((w.alloc (.cells #[.string t.name, .slice a t.args.length c] 26)).alloc (.cells #[.string ⟨#[]⟩, .slice none 0 0] 26)).alloc (.cells #[.int .i64 (n : Int), sV S] 191)) = w3 at *
 refine (ffillL_any hE (w.heap.size + 1 + 1) S lk t n a c w3 (fun b => X b ∧ b < w.heap.size) Y f hn (fun b hb => ⟨by have := hb.2; omega, HXM.out b hb.1⟩) (fun h => by have := HYW.out _ h; omega) (HS.out.later HB3.out) F3.out (hE.below HE.out HB3.out) HL.out).mono ?_
 rintro e w9 ⟨s', a', l', c', m, f', Y', rfl, hF9, hx9, hE9, hsub9, hff9, hc9⟩
 have HF9 := hide hF9
 have R9 := hide (R3.out.exq hx9 (fun h => by rcases h with h | h; omega; have := HMT.out _ h; omega))
 have hz9 := hx9.size
 have HXW : Hid (ExQ Mt w w9) := (ExQ.ofBelow HB3.out).transN hx9 (fun i hi hl => by rcases hi with h | h; omega; exact h)
 have HE9 := hide hE9
 have HSUB : Hid (∀ b, Y' b → Y b ∨ w.heap.size + 3 ≤ b) := fun b hb => (hsub9 b hb).imp id fun h => by omega
 have HFF := hide hff9
 have HC := hide hc9
 clear hF9 hx9 hE9 hsub9 hff9 hc9
 have r0 := R9.out.c0
 have r1 := R9.out.c1
 have rf := R9.out.frozen
 have hRl : w.heap.size + 1 < w9.heap.size := R9.out.lt
 have HKE : Hid (∀ v0 v1 o, E f' Y' (((w9.setCell ⟨w.heap.size + 1, 0, none⟩ v0).setCell ⟨w.heap.size + 1, 1, none⟩ v1).alloc o)) := fun v0 v1 o => hE.keep _ _ _ _ HE9.out fun b hb => by
  have hne : b ≠ w.heap.size + 1 := fun e => by
   rcases HSUB.out b hb with h | h
   ·have := HYW.out b h; omega
   ·omega
  have hl := hE.inY _ _ _ HE9.out b hb
  rw [Below.heap_alloc _ _ _ (by simpa [World.setCell] using hl), Below.heap_setCell _ _ _ _ (by simpa using hne), Below.heap_setCell _ _ _ _ (by simpa using hne)]
 have HSUB2 : Hid (∀ b, Y' b → Y b ∨ w.heap.size ≤ b) := fun b hb => (HSUB.out b hb).imp id fun h => by omega
 rcases HC.out with ⟨y, rfl, rfl, rfl, hle, hsl, hgd⟩ | ⟨rfl, hgd⟩
 ·have HSL := hide hsl
  have HGD := hide hgd
  clear hsl hgd
  have f0 : ∀ o, (w9.alloc o).cell? ⟨w.heap.size + 1 + 1, 0, none⟩ = some (.int .i64 ((n : Int) - sizeL [y])) := fun o => (HF9.out.alloc o).cell 0
  have hlt : ¬ ((n : Int) - sizeL [y]) < 0 := by omega
  go_wp2_with fail
  refine bodyPost_ret (v := .tuple #[.agg #[.string y.name, .slice a' y.args.length c'], .bool true]) (by simp [results, Tryz.results128, go_sem, World.cell?_setCell_same, World.cell?_setCell_other, r0, r1, hRl, World.cell?_alloc_old]) rfl ?_
  refine ⟨y.name, a', y.args.length, c', true, f', Y', rfl, HKE.out _ _ _, HSUB2.out, HFF.out, ((HXW.out.setNew (by omega) _ _).setNew (by omega) _ _).alloc _, Or.inl ⟨rfl, y, rfl, rfl, hle, ((HSL.out.kept fun b hb => ?_).later ((Below.refl _ _).alloc (Nat.le_refl _) _)).mono fun b hb _ => by omega, HGD.out⟩⟩
  rw [Below.heap_setCell _ _ _ _ (by simp; omega), Below.heap_setCell _ _ _ _ (by simp; omega)]
 ·have HGD := hide hgd
  clear hgd
  have f0 : ∀ o, (w9.alloc o).cell? ⟨w.heap.size + 1 + 1, 0, none⟩ = some (.int .i64 (-1)) := fun o => (HF9.out.alloc o).cell 0
  go_wp2_with fail
  refine bodyPost_ret (v := .tuple #[.agg #[.string ⟨#[]⟩, .slice none 0 0], .bool false]) (by simp [results, Tryz.results128, go_sem, World.cell?_setCell_same, World.cell?_setCell_other, r0, r1, hRl, World.cell?_alloc_old]) rfl ?_
  exact ⟨⟨#[]⟩, none, 0, 0, false, f', Y', rfl, HKE.out _ _ _, HSUB2.out, HFF.out, ((HXW.out.setNew (by omega) _ _).setNew (by omega) _ _).alloc _, Or.inr ⟨rfl, rfl, rfl, rfl, rfl, HGD.out⟩⟩
def FsPost (S q : Nat) (td : Value) (h : List (ByteArray × Tm)) (tgt : Tm) (f : Bool) (Y : Nat → Prop) (w : World) (e : Ending) (w' : World) : Prop :=
 ∃ (y : Tm) (a' : Option Addr) (c' : Nat) (ok : Bool) (f' : Bool) (Y' : Nat → Prop), e = .returned (.tuple #[.agg #[.string y.name, .slice a' y.args.length c'], .bool ok]) ∧ SolE S q td h f' Y' w' ∧ (∀ b, Y' b → Y b ∨ w.heap.size ≤ b) ∧ (f = true → f' = true) ∧ ExQ (SolM S q) w w' ∧ Sl w' (fun b => w.heap.size ≤ b) a' y.args ∧
  (ok = true → f' = false ∧ y = tgt ∧ sizeL [y] ≤ 2000) ∧ (ok = false → f' = true ∨ 2000 < sizeL [tgt])
theorem fs_end {S q : Nat} {td : Value} {h : List (ByteArray × Tm)} {f f' : Bool} {Y Y' : Nat → Prop} {w w1 : World} {o : Obj} {y tgt : Tm} {a' : Option Addr} {c' : Nat} {ok : Bool} {v0 v1 : Value} (hE : SolE S q td h f' Y' w1) (hY : ∀ b, Y b → b < w.heap.size) (hsub : ∀ b, Y' b → Y b ∨ w.heap.size + 2 ≤ b) (hff : f = true → f' = true) (hx : ExQ (SolM S q) w w1) (hs : Sl w1 (fun b => w.heap.size + 2 ≤ b) a' y.args)
  (h1 : ok = true → f' = false ∧ y = tgt ∧ sizeL [y] ≤ 2000) (h2 : ok = false → f' = true ∨ 2000 < sizeL [tgt]) :
  FsPost S q td h tgt f Y w (.returned (.tuple #[.agg #[.string y.name, .slice a' y.args.length c'], .bool ok])) (((w1.alloc o).setCell ⟨w.heap.size + 1, 0, none⟩ v0).setCell ⟨w.heap.size + 1, 1, none⟩ v1).drew := by
 have hk : ∀ b, b < w1.heap.size → b ≠ w.heap.size + 1 → ((((w1.alloc o).setCell ⟨w.heap.size + 1, 0, none⟩ v0).setCell ⟨w.heap.size + 1, 1, none⟩ v1).drew).heap[b]? = w1.heap[b]? := fun b hb hn => by
  show (((w1.alloc o).setCell ⟨w.heap.size + 1, 0, none⟩ v0).setCell ⟨w.heap.size + 1, 1, none⟩ v1).heap[b]? = _
  rw [Below.heap_setCell _ _ _ _ (by simpa using hn), Below.heap_setCell _ _ _ _ (by simpa using hn), Below.heap_alloc _ _ _ hb]
 refine ⟨y, a', c', ok, f', Y', rfl, (solE_ok S q td h).keep _ _ _ _ hE fun b hb => hk b (hE.2.2.2.1 b hb) fun e => ?_, fun b hb => (hsub b hb).imp id fun h => by omega, hff, (((hx.alloc o).setNew (by omega) _ _).setNew (by omega) _ _).drew, ((hs.mono (Y := fun b => w.heap.size + 2 ≤ b ∧ b < w1.heap.size) fun b h1 h2 => ⟨h1, h2⟩).kept fun b hb => hk b hb.2 (by omega)).mono fun b hb _ => by omega, h1, h2⟩
 rcases hsub b hb with h | h
 ·have := hY b h; omega
 ·omega
set_option maxHeartbeats 1000000 in
theorem sfill_of (S q : Nat) (td : Value) (h : List (ByteArray × Tm)) (t : Tm) (a : Option Addr) (c : Nat) (w : World) (X Y : Nat → Prop) (f : Bool) (hXM : ∀ b, X b → ¬ SolM S q b) (hs : Sl w X a t.args) (hEv : SolE S q td h f Y w)
  (hL : ∀ nm, occL nm [t] → varB nm = true → LkC (SolE S q td h) (SolM S q) S (forT (sAt h) nm) nm) :
  Calls Tryz.prog 113 #[.pointer (some ⟨S, 0, none⟩), .agg #[.string t.name, .slice a t.args.length c]] w fun e w' => FsPost S q td h (gT (forT (sAt h)) t) f Y w e w' := by
 have hmf : ∀ (fn : Fn) (first cap : Array Value) (w : World), (Instr.makeFunc fn first cap).run Tryz.prog w = .ok (.func fn first cap) w := fun _ _ _ _ => rfl
 have HS := hide hs
 have HE := hide hEv
 have HL := hide hL
 have HXM := hide hXM
 have hSl : S < w.heap.size := hEv.2.2.2.1 S hEv.2.1
 clear hs hEv hL hXM
 have HYW : Hid (∀ b, Y b → b < w.heap.size) := HE.out.2.2.2.1
 have HMT : Hid (∀ b, SolM S q b → b < w.heap.size) := fun b hb => HYW.out b ((solE_ok S q td h).mt _ _ _ HE.out b hb)
 have FA : Hid (∀ w', Below w.heap.size w w' → Calls Tryz.prog 128 #[.agg #[.string t.name, .slice a t.args.length c], .int .i64 2000, .func (.func 129) #[.pointer (some ⟨S, 0, none⟩)] #[]] w' fun e w'' => FiPost (SolE S q td h) (SolM S q) (gT (forT (sAt h)) t) 2000 f Y w' e w'') := fun w' hb =>
  fillL_any (solE_ok S q td h) S (forT (sAt h)) t 2000 a c w' X Y f (by omega) HXM.out (HS.out.later hb) ((solE_ok S q td h).below HE.out hb) HL.out
 have HB2 : Hid (Below w.heap.size w ((w.alloc (.cells #[.string t.name, .slice a t.args.length c] 26)).alloc (.cells #[.string ⟨#[]⟩, .slice none 0 0] 26))) := below2 _ _
 have R2 : Hid (Blk ((w.alloc (.cells #[.string t.name, .slice a t.args.length c] 26)).alloc (.cells #[.string ⟨#[]⟩, .slice none 0 0] 26)) (w.heap.size + 1) #[.string ⟨#[]⟩, .slice none 0 0] 26) := by
  have h := Blk.new (w.alloc (.cells #[.string t.name, .slice a t.args.length c] 26)) #[.string ⟨#[]⟩, .slice none 0 0] 26
  unfold Hid
  simpa using h
 have z2 : ((w.alloc (.cells #[.string t.name, .slice a t.args.length c] 26)).alloc (.cells #[.string ⟨#[]⟩, .slice none 0 0] 26)).heap.size = w.heap.size + 2 := by simp
 go_enter Tryz.func113, Tryz.ntmps113
 go_wp2_with fail
 generalize ((w.alloc (.cells #[.string t.name, .slice a t.args.length c] 26)).alloc (.cells #[.string ⟨#[]⟩, .slice none 0 0] 26)) = w2 at *
 refine (FA.out _ HB2.out).mono ?_
 rintro e w1 ⟨s', a', l', c', ok, f', Y', rfl, hE1, hsub, hff, hx, hc⟩
 have HE1 := hide hE1
 have HSUB : Hid (∀ b, Y' b → Y b ∨ w.heap.size + 2 ≤ b) := fun b hb => (hsub b hb).imp id fun h => by omega
 have HFF := hide hff
 have HX : Hid (ExQ (SolM S q) w w1) := (ExQ.ofBelow HB2.out).trans hx
 have R1 := hide (R2.out.exq hx (fun h => by have := HMT.out _ h; omega))
 have HZ1 : Hid (w.heap.size + 2 ≤ w1.heap.size) := by have := hx.size; unfold Hid; omega
 have HC := hide hc
 obtain ⟨⟨L, hB1, _, _⟩, _⟩ := hE1
 have b2 : ∀ o, (w1.alloc o).cell? ⟨S, 2, none⟩ = some (.bool f') := fun o => (hB1.alloc o).cell 2
 have r0 : ∀ o, (w1.alloc o).cell? ⟨w.heap.size + 1, 0, none⟩ = some (.string ⟨#[]⟩) := fun o => (R1.out.alloc o).cell 0
 have r1 : ∀ o, (w1.alloc o).cell? ⟨w.heap.size + 1, 1, none⟩ = some (.slice none 0 0) := fun o => (R1.out.alloc o).cell 1
 have rf := R1.out.frozen
 clear hB1 hsub hff hx hc FA
 go_wp2_with fail
 have p0 : ∀ o, (w1.alloc o).frozen? ⟨w.heap.size + 1, 0, none⟩ = false := fun o => (R1.out.alloc o).frozen 0
 have p1 : ∀ o, (w1.alloc o).frozen? ⟨w.heap.size + 1, 1, none⟩ = false := fun o => (R1.out.alloc o).frozen 1
 rcases HC.out with ⟨rfl, y, rfl, rfl, hz, hsl, hgd⟩ | ⟨rfl, rfl, rfl, rfl, rfl, hgd⟩
 ·have HSL : Hid (Sl w1 (fun b => w.heap.size + 2 ≤ b) a' y.args) := hsl.mono fun b hb _ => by omega
  have HGD := hide hgd
  have HZ := hide hz
  clear hsl hgd hz
  cases f' with
  | true =>
   go_region
   all_goals
    go_wp2_with fail
    refine bodyPost_ret (v := .tuple #[.agg #[.string y.name, .slice a' y.args.length c'], .bool false]) (by simp [results, Tryz.results113, go_sem, World.cell?_setCell_same, World.cell?_setCell_other, r0, r1]) rfl ?_
    exact fs_end HE1.out HYW.out HSUB.out (fun _ => rfl) HX.out HSL.out (fun h => by cases h) (fun _ => Or.inl rfl)
  | false =>
   go_region
   all_goals
    go_wp2_with fail
    refine bodyPost_ret (v := .tuple #[.agg #[.string y.name, .slice a' y.args.length c'], .bool true]) (by simp [results, Tryz.results113, go_sem, World.cell?_setCell_same, World.cell?_setCell_other, r0, r1]) rfl ?_
    exact fs_end HE1.out HYW.out HSUB.out HFF.out HX.out HSL.out (fun _ => ⟨rfl, HGD.out trivial, HZ.out⟩) (fun h => by cases h)
 ·have HGD := hide hgd
  clear hgd
  have HSL : Hid (Sl w1 (fun b => w.heap.size + 2 ≤ b) none (⟨⟨#[]⟩, []⟩ : Tm).args) := ⟨by simp, Or.inl rfl⟩
  go_region
  all_goals
   go_wp2_with fail
   refine bodyPost_ret (v := .tuple #[.agg #[.string (⟨⟨#[]⟩, []⟩ : Tm).name, .slice none (⟨⟨#[]⟩, []⟩ : Tm).args.length 0], .bool false]) (by simp [results, Tryz.results113, go_sem, World.cell?_setCell_same, World.cell?_setCell_other, r0, r1]) rfl ?_
   exact fs_end HE1.out HYW.out HSUB.out HFF.out HX.out HSL.out (fun h => by cases h) (fun _ => by
    cases hf : f' with
    | true => exact Or.inl rfl
    | false => exact Or.inr (HGD.out hf))
theorem stE_lit {w : World} {Y : Nat → Prop} {h : List (ByteArray × Tm)} {i : Nat} {hi : i < h.length} {v : Value} (e : StE w Y h i hi v) : ∃ (T : Tm) (j : Nat) (a : Option Addr) (c : Nat), T = stood h i (max j (i + 1)) hi ∧ j ≤ h.length ∧ v = .agg #[.string T.name, .slice a T.args.length c, .int .i64 (j : Int)] ∧ Sl w Y a T.args := by
 obtain ⟨j, a, c, h1, h2, h3⟩ := e
 exact ⟨_, j, a, c, rfl, h1, h2, h3⟩
theorem run_len {P : Program} {w : World} {T kt et : TypeId} {r : Nat} {L : List (ByteArray × Value)} (hm : P.underlying T = some (.map kt et)) (h : MapAt w r L) (ty : TypeId) : (Builtin.len_ #[T] ty #[.map (some r)]).run P w = .ok (.int .i64 (L.length : Int)) w := by
 obtain ⟨es, clk, hb, he, _⟩ := h
 have hl : es.size = L.length := by have := congrArg List.length he; simpa using this
 simp [Builtin.len_, run_underlying hm, MapKept.run_getObj_map hb, goInt, Result.andThen, hl]
set_option maxHeartbeats 1000000 in
theorem look_free (S q : Nat) (td : Value) (h : List (ByteArray × Tm)) (g : GoodH h) (nm : ByteArray) (hn : ∀ i (hi : i < h.length), h[i].1 ≠ nm) : LkC (SolE S q td h) (SolM S q) S (forT (sAt h) nm) nm := by
 intro f Y w hE
 have HE := hide hE
 obtain ⟨⟨L, hB, hM, hSt⟩, hYS, hYq, hY, hg⟩ := hE
 have hz : ∀ w', (zeroValue 167).run Tryz.prog w' = .ok (.agg #[.string ⟨#[]⟩, .slice none 0 0, .int .i64 0]) w' := fun w' => Tryz.zeroValue167 w'
 have hml := hM.lt
 have hSl := hB.lt
 have HF := hide (forT_free g hn)
 have b1 : ∀ o, (w.alloc o).cell? ⟨S, 1, none⟩ = some (.map (some q)) := fun o => (hB.alloc o).cell 1
 have hlk : ∀ o, (Instr.lookup 121 (.map (some q)) (.string nm) true).run Tryz.prog (w.alloc o) = .ok (.tuple #[.agg #[.string ⟨#[]⟩, .slice none 0 0, .int .i64 0], .bool false]) (w.alloc o) := fun o => by
  rw [run_look (P := Tryz.prog) Tryz.underlying121 Tryz.underlying9 (hz _) (hM.kept (Below.heap_alloc _ _ _ hml)) nm, hSt.none hn]; rfl
 have HB := hide hB
 clear hB hM hSt hg
 go_enter Tryz.func129, Tryz.ntmps129
 go_wp2_with fail
 go_region
 all_goals go_wp2_with fail
 all_goals
  refine bodyPost_ret (v := .tuple #[.agg #[.string ⟨#[]⟩, .slice none 0 0], .bool false]) (by simp [results, Tryz.results129, go_sem]) rfl ?_
  exact ⟨⟨#[]⟩, none, 0, 0, false, f, Y, rfl, (solE_ok S q td h).below HE.out (((Below.refl _ _).alloc (Nat.le_refl _) _).alloc (by simp) _).drew, fun b hb => Or.inl hb, fun h => h, (((ExQ.refl _ _).alloc _).alloc _).drew, Or.inr ⟨rfl, fun _ => HF.out⟩⟩
theorem look_put {S q : Nat} {td : Value} {h : List (ByteArray × Tm)} (g : GoodH h) {i : Nat} (hi : i < h.length) {f' : Bool} {Y' Z : Nat → Prop} {w1 WS : World} (hE : SolE S q td h f' Y' w1) (hk : ∀ b, Y' b → WS.heap[b]? = w1.heap[b]?) {a' : Option Addr} {c' : Nat} {y : Tm} (hy : y = stood h i h.length hi) (hZ : ∀ b, Z b → b < WS.heap.size ∧ b ≠ S ∧ b ≠ q) (hs : Sl WS Z a' y.args) {nm : ByteArray} (hnm : h[i].1 = nm) :
  ∃ w5, (Instr.mapUpdate 121 (.map (some q)) (.string nm) (.agg #[.string y.name, .slice a' y.args.length c', .int .i64 (h.length : Int)])).run Tryz.prog WS = .ok () w5 ∧ SolE S q td h f' (fun b => Y' b ∨ Z b) w5 ∧ w5.heap.size = WS.heap.size ∧ w5.os = WS.os ∧ w5.tape = WS.tape ∧ w5.output = WS.output ∧ ∀ b, b ≠ q → w5.heap[b]? = WS.heap[b]? := by
 have hE2 := (solE_ok S q td h).keep _ _ _ _ hE hk
 obtain ⟨⟨L, e1, e2, e3⟩, e4, e5, e6, e7⟩ := hE2
 obtain ⟨v0, hv0, _⟩ := e3.get g hi
 have hSq : S ≠ q := fun e => by
  obtain ⟨es, clk, h1, _⟩ := e2
  subst e
  unfold Blk at e1
  rw [h1] at e1; cases e1
 obtain ⟨w5, h1, h2, h3, h4, h5, h6, h7⟩ := run_set (P := Tryz.prog) Tryz.underlying121 Tryz.underlying9 e2 h[i].1 (.agg #[.string y.name, .slice a' y.args.length c', .int .i64 (h.length : Int)]) v0 hv0
 refine ⟨w5, by rw [← hnm]; exact h1, ⟨⟨_, ?_, h2, ?_⟩, Or.inl e4, Or.inl e5, fun b hb => ?_, e7⟩, h3, h4, h5, h6, h7⟩
 ·unfold Blk at *; rw [h7 S hSq]; exact e1
 ·have kp : ∀ (X : Nat → Prop) a l, (∀ b, X b → (Y' b ∨ Z b) ∧ b ≠ S ∧ b ≠ q) → Sl WS X a l → Sl w5 (fun b => (Y' b ∨ Z b) ∧ b ≠ S ∧ b ≠ q) a l := fun X a l hX hsl => (hsl.kept fun b hb => h7 b (hX b hb).2.2).mono fun b hb _ => hX b hb
  refine (e3.imp fun a l hsl => kp _ a l (fun b hb => ⟨Or.inl hb.1, hb.2⟩) hsl).set g hi ⟨h.length, a', c', Nat.le_refl _, ?_, ?_⟩
  ·rw [Nat.max_eq_left (by omega), ← hy]
  ·rw [Nat.max_eq_left (by omega), ← hy]
   exact kp _ _ _ (fun b hb => ⟨Or.inr hb, (hZ b hb).2⟩) hs
 ·rw [h3]
  rcases hb with hb | hb
  ·exact e6 b hb
  ·exact (hZ b hb).1
theorem look_full {S q : Nat} {td : Value} {h : List (ByteArray × Tm)} {f' : Bool} {Y' Z : Nat → Prop} {w1 WS : World} (hE : SolE S q td h f' Y' w1) (hk : ∀ b, Y' b → WS.heap[b]? = w1.heap[b]?) (hg : grtB (sAt h) = true) (hZ : ∀ b, Z b → b < WS.heap.size ∧ b ≠ S ∧ b ≠ q) : SolE S q td h true (fun b => Y' b ∨ Z b) (WS.setCell ⟨S, 2, none⟩ (.bool true)) := by
 have hE2 := (solE_ok S q td h).keep _ _ _ _ hE hk
 obtain ⟨⟨L, e1, e2, e3⟩, e4, e5, e6, e7⟩ := hE2
 have hSq : S ≠ q := fun e => by
  obtain ⟨es, clk, h1, _⟩ := e2
  subst e
  unfold Blk at e1
  rw [h1] at e1; cases e1
 have hk2 : ∀ b, b ≠ S → (WS.setCell ⟨S, 2, none⟩ (.bool true)).heap[b]? = WS.heap[b]? := fun b hb => Below.heap_setCell _ _ _ _ (by simpa using hb)
 refine ⟨⟨L, ?_, e2.kept (hk2 q (Ne.symm hSq)), e3.imp fun a l hsl => (hsl.kept fun b hb => hk2 b hb.2.1).mono fun b hb _ => ⟨Or.inl hb.1, hb.2⟩⟩, Or.inl e4, Or.inl e5, fun b hb => ?_, fun _ => hg⟩
 ·have := e1.set 2 (.bool true)
  simpa using this
 ·have hz : (WS.setCell ⟨S, 2, none⟩ (.bool true)).heap.size = WS.heap.size := by simp [World.setCell]
  rw [hz]
  rcases hb with hb | hb
  ·exact e6 b hb
  ·exact (hZ b hb).1
set_option maxHeartbeats 1000000 in
theorem look_at (S q : Nat) (td : Value) (h : List (ByteArray × Tm)) (g : GoodH h) (hN : NamesH h) (i : Nat) (hi : i < h.length)
  (hrec : ∀ k (hk : k < h.length), i < k → LkC (SolE S q td h) (SolM S q) S (forT (sAt h) h[k].1) h[k].1) : LkC (SolE S q td h) (SolM S q) S (forT (sAt h) h[i].1) h[i].1 := by
 intro f Y w hE
 have HE := hide hE
 obtain ⟨⟨L, hB, hM, hSt⟩, hYS, hYq, hY, hg⟩ := hE
 obtain ⟨v, hgv, hst⟩ := hSt.get g hi
 obtain ⟨T, j, a, c, hT, hj, rfl, hsl⟩ := stE_lit hst
 have HST := hide hSt
 have HSL := hide hsl
 have HGV := hide hgv
 have HMM := hide hM
 have HG := hide hg
 have HY := hide hY
 have hz : ∀ w', (zeroValue 167).run Tryz.prog w' = .ok (.agg #[.string ⟨#[]⟩, .slice none 0 0, .int .i64 0]) w' := fun w' => Tryz.zeroValue167 w'
 have hml := hM.lt
 have hSl := hB.lt
 have hF := forT_at g hi
 obtain ⟨nm, hnm⟩ : ∃ nm, h[i].1 = nm := ⟨_, rfl⟩
 rw [hnm] at hgv hF HGV ⊢
 have HF := hide hF
 clear hF
 have HNM := hide hnm
 have HT := hide hT
 have hSq : S ≠ q := fun e => by
  obtain ⟨es, clk, h1, _⟩ := hM
  subst e
  unfold Blk at hB
  rw [h1] at hB; cases hB
 have HB := hide hB
 have b1 : ∀ o o', ((w.alloc o).alloc o').cell? ⟨S, 1, none⟩ = some (.map (some q)) := fun o o' => ((hB.alloc o).alloc o').cell 1
 have b1' : ∀ o, (w.alloc o).cell? ⟨S, 1, none⟩ = some (.map (some q)) := fun o => (hB.alloc o).cell 1
 have b2 : ∀ o o', ((w.alloc o).alloc o').cell? ⟨S, 2, none⟩ = some (.bool f) := fun o o' => ((hB.alloc o).alloc o').cell 2
 have hlk : ∀ o, (Instr.lookup 121 (.map (some q)) (.string nm) true).run Tryz.prog (w.alloc o) = .ok (.tuple #[.agg #[.string T.name, .slice a T.args.length c, .int .i64 (j : Int)], .bool true]) (w.alloc o) := fun o => by
  rw [run_look (P := Tryz.prog) Tryz.underlying121 Tryz.underlying9 (hz _) (hM.kept (Below.heap_alloc _ _ _ hml)) nm, hgv]; rfl
 have hln : Hid (L.length = h.length) := hSt.1
 have hlen : ∀ o o', Sem.run Tryz.prog (Builtin.len_ #[121] 3 #[.map (some q)]) ((w.alloc o).alloc o').drew = .ok (.int .i64 (h.length : Int)) ((w.alloc o).alloc o').drew := fun o o' => by
  have h1 : MapAt ((w.alloc o).alloc o').drew q L := HMM.out.below ((((Below.refl w.heap.size w).alloc (Nat.le_refl _) o).alloc (by simp) o').drew) hml
  rw [run_len Tryz.underlying121 h1, hln.out]
 clear hB hSt hg hY hsl hgv hst hnm hT hM
 cases f with
 | true =>
  go_enter Tryz.func129, Tryz.ntmps129
  go_wp2_with fail
  go_region
  all_goals go_wp2_with fail
  all_goals
   refine bodyPost_ret (v := .tuple #[.agg #[.string T.name, .slice a T.args.length c], .bool true]) (by simp [results, Tryz.results129, go_sem]) rfl ?_
   exact ⟨T.name, a, T.args.length, c, true, true, Y, rfl, (solE_ok S q td h).below HE.out (((Below.refl _ _).alloc (Nat.le_refl _) _).alloc (by simp) _).drew, fun b hb => Or.inl hb, fun h => h, (((ExQ.refl _ _).alloc _).alloc _).drew, Or.inl ⟨rfl, T, rfl, rfl, (HSL.out.later (((Below.refl _ _).alloc (Nat.le_refl _) _).alloc (by simp) _).drew).mono fun b hb _ => hb.1, fun h => by cases h⟩⟩
 | false =>
  by_cases hjl : j = h.length
  ·have HJ := hide hjl
   have hT2 : Hid (forT (sAt h) nm = some T) := by
    unfold Hid
    rw [HF.out, HT.out, hjl, Nat.max_eq_left (by omega)]
   have hje : ((j : Int) == (h.length : Int)) = true := by rw [hjl]; simp
   clear hjl
   go_enter Tryz.func129, Tryz.ntmps129
   go_wp2_with fail
   go_region
   all_goals go_wp2_with fail
   all_goals
    refine bodyPost_ret (v := .tuple #[.agg #[.string T.name, .slice a T.args.length c], .bool true]) (by simp [results, Tryz.results129, go_sem]) rfl ?_
    exact ⟨T.name, a, T.args.length, c, true, false, Y, rfl, (solE_ok S q td h).below HE.out (((Below.refl _ _).alloc (Nat.le_refl _) _).alloc (by simp) _).drew, fun b hb => Or.inl hb, fun h => h, (((ExQ.refl _ _).alloc _).alloc _).drew, Or.inl ⟨rfl, T, rfl, rfl, (HSL.out.later (((Below.refl _ _).alloc (Nat.le_refl _) _).alloc (by simp) _).drew).mono fun b hb _ => hb.1, fun _ => hT2.out⟩⟩
  ·have HJ := hide hjl
   have hje : ((j : Int) == (h.length : Int)) = false := beq_eq_false_iff_ne.2 (by omega)
   clear hjl
   go_enter Tryz.func129, Tryz.ntmps129
   go_wp2_with fail
   go_region
   go_wp2_with fail
   have HB0 : Hid (Below w.heap.size w ((w.alloc (.cells #[.string ⟨#[]⟩, .slice none 0 0] 26)).alloc (.cells #[.string T.name, .slice a T.args.length c, .int .i64 (h.length : Int)] 167)).drew) := (((Below.refl _ _).alloc (Nat.le_refl _) _).alloc (by simp) _).drew
   have R0 : Hid (Blk ((w.alloc (.cells #[.string ⟨#[]⟩, .slice none 0 0] 26)).alloc (.cells #[.string T.name, .slice a T.args.length c, .int .i64 (h.length : Int)] 167)).drew w.heap.size #[.string ⟨#[]⟩, .slice none 0 0] 26) := ((Blk.new w _ _).alloc _).drewN 1
   have X0 : Hid (Blk ((w.alloc (.cells #[.string ⟨#[]⟩, .slice none 0 0] 26)).alloc (.cells #[.string T.name, .slice a T.args.length c, .int .i64 (h.length : Int)] 167)).drew (w.heap.size + 1) #[.string T.name, .slice a T.args.length c, .int .i64 (h.length : Int)] 167) := by
    have h1 := Blk.new (w.alloc (.cells #[.string ⟨#[]⟩, .slice none 0 0] 26)) #[.string T.name, .slice a T.args.length c, .int .i64 (h.length : Int)] 167
    rw [World.size_alloc] at h1
    exact h1
   have z0 : ((w.alloc (.cells #[.string ⟨#[]⟩, .slice none 0 0] 26)).alloc (.cells #[.string T.name, .slice a T.args.length c, .int .i64 (h.length : Int)] 167)).drew.heap.size = w.heap.size + 2 := by simp
   generalize ((w.alloc (.cells #[.string ⟨#[]⟩, .slice none 0 0] 26)).alloc (.cells #[.string T.name, .slice a T.args.length c, .int .i64 (h.length : Int)] 167)).drew = w0 at *
   have HTG : Hid (gT (forT (sAt h)) T = stood h i h.length hi) := by
    unfold Hid
    rw [HT.out]
    exact stood_fill g hN hi (Nat.max_le.2 ⟨hj, hi⟩)
   have SF := sfill_of S q td h T a c w0 (fun b => Y b ∧ b ≠ S ∧ b ≠ q) Y false (fun b hb hm => by rcases hm with h | h; exact hb.2.1 h; exact hb.2.2 h) (HSL.out.later HB0.out) ((solE_ok S q td h).below HE.out HB0.out) (fun n2 ho hv => by
    by_cases hbd : ∃ k, ∃ hk : k < h.length, h[k].1 = n2
    ·obtain ⟨k, hk, rfl⟩ := hbd
     rw [HT.out] at ho
     have h1 := stood_later g hi (Nat.max_le.2 ⟨hj, hi⟩) (hN i hi) hk ho
     exact hrec k hk (by omega)
    ·exact look_free S q td h g n2 fun k hk e => hbd ⟨k, hk, e⟩)
   rw [HTG.out] at SF
   refine SF.mono ?_
   clear SF
   rintro e w1 ⟨y, a', c', ok, f', Y', rfl, hE1, hsub, hff, hx, hs1, hk1, hk2⟩
   have HX1 : Hid (ExQ (SolM S q) w w1) := (ExQ.ofBelow HB0.out).trans hx
   have hmn : ∀ b, SolM S q b → b < w.heap.size := fun b hb => by rcases hb with rfl | rfl; exact hSl; exact hml
   have R1 := hide (R0.out.exq hx (fun h => by have := hmn _ h; omega))
   have X1 := hide (X0.out.exq hx (fun h => by have := hmn _ h; omega))
   have HZ1 : Hid (w.heap.size + 2 ≤ w1.heap.size) := by have := hx.size; unfold Hid; omega
   have HSUB : Hid (∀ b, Y' b → Y b ∨ w.heap.size + 2 ≤ b) := fun b hb => (hsub b hb).imp id fun h => by omega
   have HS1 : Hid (Sl w1 (fun b => w.heap.size + 2 ≤ b ∧ b < w1.heap.size) a' y.args) := hs1.mono fun b hb h2 => ⟨by omega, h2⟩
   have HE1 := hide hE1
   have HYX : Hid (∀ b, Y' b → b ≠ w.heap.size ∧ b ≠ w.heap.size + 1) := fun b hb => by
    rcases HSUB.out b hb with h1 | h1
    ·have := HY.out b h1; omega
    ·omega
   have x0 := X1.out.c0
   have x1 := X1.out.c1
   have x2 := X1.out.c2
   have xf := X1.out.frozen
   have HK1 := hide hk1
   have HK2 := hide hk2
   clear hsub hx hs1 hk1 hk2 hE1 hff hmn
   cases ok with
   | true =>
    obtain ⟨rfl, hyT, hyz⟩ := HK1.out rfl
    have HYT := hide hyT
    clear hyT hyz HK1 HK2
    have hkS : ∀ b, b ≠ w.heap.size + 1 → ((w1.setCell ⟨w.heap.size + 1, 0, none⟩ (.string y.name)).setCell ⟨w.heap.size + 1, 1, none⟩ (.slice a' y.args.length c')).drew.heap[b]? = w1.heap[b]? := fun b hb => by
     show ((w1.setCell ⟨w.heap.size + 1, 0, none⟩ (.string y.name)).setCell ⟨w.heap.size + 1, 1, none⟩ (.slice a' y.args.length c')).heap[b]? = _
     rw [Below.heap_setCell _ _ _ _ (by simpa using hb), Below.heap_setCell _ _ _ _ (by simpa using hb)]
    have hzS : ((w1.setCell ⟨w.heap.size + 1, 0, none⟩ (.string y.name)).setCell ⟨w.heap.size + 1, 1, none⟩ (.slice a' y.args.length c')).drew.heap.size = w1.heap.size := by simp [World.setCell]
    obtain ⟨w5, hput, hE5, hz5, ho5, ht5, hu5, hk5⟩ := look_put (WS := ((w1.setCell ⟨w.heap.size + 1, 0, none⟩ (.string y.name)).setCell ⟨w.heap.size + 1, 1, none⟩ (.slice a' y.args.length c')).drew) (Z := fun b => w.heap.size + 2 ≤ b ∧ b < w1.heap.size) (c' := c') g hi HE1.out (fun b hb => hkS b (HYX.out b hb).2) HYT.out (fun b hb => ⟨by rw [hzS]; exact hb.2, by omega, by omega⟩) (HS1.out.kept fun b hb => hkS b (by omega)) HNM.out
    have HE5 := hide hE5
    have XS : Hid (Blk w5 (w.heap.size + 1) #[.string y.name, .slice a' y.args.length c', .int .i64 (h.length : Int)] 167) := by
     have h1 := (X1.out.set 0 (.string y.name)).set 1 (.slice a' y.args.length c')
     unfold Hid Blk
     rw [hk5 _ (by omega)]
     show ((w1.setCell ⟨w.heap.size + 1, 0, none⟩ (.string y.name)).setCell ⟨w.heap.size + 1, 1, none⟩ (.slice a' y.args.length c')).heap[w.heap.size + 1]? = _
     unfold Blk at h1
     rw [h1]
     simp
    have RS : Hid (Blk w5 w.heap.size #[.string ⟨#[]⟩, .slice none 0 0] 26) := by
     unfold Hid Blk
     rw [hk5 _ (by omega), hkS _ (by omega)]
     exact R1.out
    have HX5 : Hid (ExQ (SolM S q) w w5) := by
     have h1 := ((HX1.out.setNew (b := w.heap.size + 1) (by omega) 0 (.string y.name)).setNew (b := w.heap.size + 1) (by omega) 1 (.slice a' y.args.length c')).drew
     exact ⟨ho5.trans h1.os, ht5.trans h1.tape, hu5.trans h1.output, by rw [hz5]; exact h1.size, fun b hb hn => (hk5 b (fun e => hn (Or.inr e))).trans (h1.block b hb hn)⟩
    have s1 : ((w1.setCell ⟨w.heap.size + 1, 0, none⟩ (.string y.name)).setCell ⟨w.heap.size + 1, 1, none⟩ (.slice a' y.args.length c')).cell? ⟨S, 1, none⟩ = some (.map (some q)) := by
     obtain ⟨⟨L1, hB1, _⟩, _⟩ := HE1.out
     exact ((hB1.setOther _ _ (by omega)).setOther _ _ (by omega)).cell 1
    have y0 : ((w1.setCell ⟨w.heap.size + 1, 0, none⟩ (.string y.name)).setCell ⟨w.heap.size + 1, 1, none⟩ (.slice a' y.args.length c')).cell? ⟨w.heap.size + 1, 0, none⟩ = some (.string y.name) := by
     have := ((X1.out.set 0 (.string y.name)).set 1 (.slice a' y.args.length c')).cell 0
     simpa using this
    have y1 : ((w1.setCell ⟨w.heap.size + 1, 0, none⟩ (.string y.name)).setCell ⟨w.heap.size + 1, 1, none⟩ (.slice a' y.args.length c')).cell? ⟨w.heap.size + 1, 1, none⟩ = some (.slice a' y.args.length c') := by
     have := ((X1.out.set 0 (.string y.name)).set 1 (.slice a' y.args.length c')).cell 1
     simpa using this
    have y2 : ((w1.setCell ⟨w.heap.size + 1, 0, none⟩ (.string y.name)).setCell ⟨w.heap.size + 1, 1, none⟩ (.slice a' y.args.length c')).cell? ⟨w.heap.size + 1, 2, none⟩ = some (.int .i64 (h.length : Int)) := by
     have := ((X1.out.set 0 (.string y.name)).set 1 (.slice a' y.args.length c')).cell 2
     simpa using this
    have q0 := XS.out.c0
    have q1 := XS.out.c1
    have r0 := RS.out.c0
    have r1 := RS.out.c1
    have rf := RS.out.frozen
    have HZ5 : Hid (w5.heap.size = w1.heap.size) := by unfold Hid; rw [hz5, hzS]
    have HS5 : Hid (Sl w5 (fun b => w.heap.size + 2 ≤ b ∧ b < w1.heap.size) a' y.args) := (HS1.out.kept fun b hb => hkS b (by omega)).kept fun b hb => hk5 b (by omega)
    clear hE5 hz5 ho5 ht5 hu5 hk5 hzS hkS
    go_wp2_with fail
    go_region
    all_goals go_wp2_with fail
    all_goals
     refine bodyPost_ret (v := .tuple #[.agg #[.string y.name, .slice a' y.args.length c'], .bool true]) (by simp [results, Tryz.results129, go_sem, World.cell?_setCell_same, World.cell?_setCell_other, r0, r1]) rfl ?_
     have hkF : ∀ b, b ≠ w.heap.size → ((w5.setCell ⟨w.heap.size, 0, none⟩ (.string y.name)).setCell ⟨w.heap.size, 1, none⟩ (.slice a' y.args.length c')).heap[b]? = w5.heap[b]? := fun b hb => by
      rw [Below.heap_setCell _ _ _ _ (by simpa using hb), Below.heap_setCell _ _ _ _ (by simpa using hb)]
     refine ⟨y.name, a', y.args.length, c', true, false, _, rfl, (solE_ok S q td h).keep _ _ _ _ HE5.out (fun b hb => hkF b ?_), fun b hb => ?_, fun h => h, (HX5.out.setNew (by omega) _ _).setNew (by omega) _ _, Or.inl ⟨rfl, y, rfl, rfl, (HS5.out.kept fun b hb => hkF b (by omega)).mono fun b hb _ => Or.inr hb, fun _ => by rw [HF.out, HYT.out]⟩⟩
     ·rcases hb with hb | hb
      ·exact (HYX.out b hb).1
      ·omega
     ·rcases hb with hb | hb
      ·exact (HSUB.out b hb).imp id fun h => by omega
      ·right; omega
   | false =>
    have HGR : Hid (grtB (sAt h) = true) := by
     rcases HK2.out rfl with h1 | h1
     ·exact HE1.out.2.2.2.2 h1
     ·exact stood_great g hi h1
    have hkS : ∀ b, b ≠ w.heap.size + 1 → ((w1.setCell ⟨w.heap.size + 1, 0, none⟩ (.string y.name)).setCell ⟨w.heap.size + 1, 1, none⟩ (.slice a' y.args.length c')).heap[b]? = w1.heap[b]? := fun b hb => by
     rw [Below.heap_setCell _ _ _ _ (by simpa using hb), Below.heap_setCell _ _ _ _ (by simpa using hb)]
    have hzS : ((w1.setCell ⟨w.heap.size + 1, 0, none⟩ (.string y.name)).setCell ⟨w.heap.size + 1, 1, none⟩ (.slice a' y.args.length c')).heap.size = w1.heap.size := by simp [World.setCell]
    have HE5 := hide (look_full (WS := ((w1.setCell ⟨w.heap.size + 1, 0, none⟩ (.string y.name)).setCell ⟨w.heap.size + 1, 1, none⟩ (.slice a' y.args.length c'))) (Z := fun b => w.heap.size + 2 ≤ b ∧ b < w1.heap.size) HE1.out (fun b hb => hkS b (HYX.out b hb).2) HGR.out (fun b hb => ⟨by rw [hzS]; exact hb.2, by omega, by omega⟩))
    obtain ⟨⟨L1, hB1, hM1, hST1⟩, hYS1, hrest1⟩ := HE1.out
    have BS := hide ((hB1.setOther (b' := w.heap.size + 1) 0 (.string y.name) (by omega)).setOther (b' := w.heap.size + 1) 1 (.slice a' y.args.length c') (by omega))
    have XS := hide ((X1.out.set 0 (.string y.name)).set 1 (.slice a' y.args.length c'))
    have RS := hide ((R1.out.setOther (b' := w.heap.size + 1) 0 (.string y.name) (by omega)).setOther (b' := w.heap.size + 1) 1 (.slice a' y.args.length c') (by omega))
    have HX5 := hide ((HX1.out.setNew (b := w.heap.size + 1) (by omega) 0 (.string y.name)).setNew (b := w.heap.size + 1) (by omega) 1 (.slice a' y.args.length c'))
    have HS5 : Hid (Sl ((w1.setCell ⟨w.heap.size + 1, 0, none⟩ (.string y.name)).setCell ⟨w.heap.size + 1, 1, none⟩ (.slice a' y.args.length c')) (fun b => w.heap.size + 2 ≤ b ∧ b < w1.heap.size) a' y.args) := HS1.out.kept fun b hb => hkS b (by omega)
    have s2 : ((w1.setCell ⟨w.heap.size + 1, 0, none⟩ (.string y.name)).setCell ⟨w.heap.size + 1, 1, none⟩ (.slice a' y.args.length c')).cell? ⟨S, 2, none⟩ = some (.bool f') := BS.out.cell 2
    have sf := BS.out.frozen 2
    have y0 : (((w1.setCell ⟨w.heap.size + 1, 0, none⟩ (.string y.name)).setCell ⟨w.heap.size + 1, 1, none⟩ (.slice a' y.args.length c')).setCell ⟨S, 2, none⟩ (.bool true)).cell? ⟨w.heap.size + 1, 0, none⟩ = some (.string y.name) := by
     have := (XS.out.setOther (b' := S) 2 (.bool true) (by omega)).cell 0
     simpa using this
    have y1 : (((w1.setCell ⟨w.heap.size + 1, 0, none⟩ (.string y.name)).setCell ⟨w.heap.size + 1, 1, none⟩ (.slice a' y.args.length c')).setCell ⟨S, 2, none⟩ (.bool true)).cell? ⟨w.heap.size + 1, 1, none⟩ = some (.slice a' y.args.length c') := by
     have := (XS.out.setOther (b' := S) 2 (.bool true) (by omega)).cell 1
     simpa using this
    have r0 : (((w1.setCell ⟨w.heap.size + 1, 0, none⟩ (.string y.name)).setCell ⟨w.heap.size + 1, 1, none⟩ (.slice a' y.args.length c')).setCell ⟨S, 2, none⟩ (.bool true)).cell? ⟨w.heap.size, 0, none⟩ = some (.string ⟨#[]⟩) := (RS.out.setOther (b' := S) 2 (.bool true) (by omega)).cell 0
    have r1 : (((w1.setCell ⟨w.heap.size + 1, 0, none⟩ (.string y.name)).setCell ⟨w.heap.size + 1, 1, none⟩ (.slice a' y.args.length c')).setCell ⟨S, 2, none⟩ (.bool true)).cell? ⟨w.heap.size, 1, none⟩ = some (.slice none 0 0) := (RS.out.setOther (b' := S) 2 (.bool true) (by omega)).cell 1
    have rf := R1.out.frozen
    have hnS : w.heap.size + 1 ≠ S := by omega
    have hnS2 : w.heap.size ≠ S := by omega
    clear hB1 hM1 hST1 hYS1 hrest1 HK2 hkS hzS
    go_wp2_with fail
    refine bodyPost_ret (v := .tuple #[.agg #[.string y.name, .slice a' y.args.length c'], .bool true]) (by simp [results, Tryz.results129, go_sem, World.cell?_setCell_same, World.cell?_setCell_other, r0, r1]) rfl ?_
    have hkF : ∀ b, b ≠ w.heap.size → (((((w1.setCell ⟨w.heap.size + 1, 0, none⟩ (.string y.name)).setCell ⟨w.heap.size + 1, 1, none⟩ (.slice a' y.args.length c')).setCell ⟨S, 2, none⟩ (.bool true)).setCell ⟨w.heap.size, 0, none⟩ (.string y.name)).setCell ⟨w.heap.size, 1, none⟩ (.slice a' y.args.length c')).heap[b]? = (((w1.setCell ⟨w.heap.size + 1, 0, none⟩ (.string y.name)).setCell ⟨w.heap.size + 1, 1, none⟩ (.slice a' y.args.length c')).setCell ⟨S, 2, none⟩ (.bool true)).heap[b]? := fun b hb => by
     rw [Below.heap_setCell _ _ _ _ (by simpa using hb), Below.heap_setCell _ _ _ _ (by simpa using hb)]
    refine ⟨y.name, a', y.args.length, c', true, true, _, rfl, (solE_ok S q td h).keep _ _ _ _ HE5.out (fun b hb => hkF b ?_), fun b hb => ?_, fun h => rfl, ((HX5.out.set (Or.inl rfl) _ _).setNew (by omega) _ _).setNew (by omega) _ _, Or.inl ⟨rfl, y, rfl, rfl, ((HS5.out.kept fun b hb => Below.heap_setCell _ _ _ _ (by simp; omega)).kept fun b hb => hkF b (by omega)).mono fun b hb _ => Or.inr hb, fun h => by cases h⟩⟩
    ·rcases hb with hb | hb
     ·exact (HYX.out b hb).1
     ·omega
    ·rcases hb with hb | hb
     ·exact (HSUB.out b hb).imp id fun h => by omega
     ·right; omega
theorem look_all (S q : Nat) (td : Value) (h : List (ByteArray × Tm)) (g : GoodH h) (hN : NamesH h) : ∀ (d i : Nat) (hi : i < h.length), h.length - i ≤ d → LkC (SolE S q td h) (SolM S q) S (forT (sAt h) h[i].1) h[i].1
 | 0, i, hi, hd => by omega
 | d + 1, i, hi, hd => look_at S q td h g hN i hi fun k hk hik => look_all S q td h g hN d k hk (by omega)
theorem look_any2 (S q : Nat) (td : Value) (h : List (ByteArray × Tm)) (g : GoodH h) (hN : NamesH h) (nm : ByteArray) : LkC (SolE S q td h) (SolM S q) S (forT (sAt h) nm) nm := by
 by_cases hbd : ∃ k, ∃ hk : k < h.length, h[k].1 = nm
 ·obtain ⟨k, hk, rfl⟩ := hbd
  exact look_all S q td h g hN _ k hk (Nat.le_refl _)
 ·exact look_free S q td h g nm fun k hk e => hbd ⟨k, hk, e⟩
theorem ufill_any (S q : Nat) (td : Value) (h : List (ByteArray × Tm)) (g : GoodH h) (hN : NamesH h) (t : Tm) (he : errL [t] = 0) (a : Option Addr) (c : Nat) (w : World) (X Y : Nat → Prop) (f : Bool) (hXM : ∀ b, X b → ¬ SolM S q b) (hs : Sl w X a t.args) (hEv : SolE S q td h f Y w) :
  Calls Tryz.prog 113 #[.pointer (some ⟨S, 0, none⟩), .agg #[.string t.name, .slice a t.args.length c]] w fun e w' => FsPost S q td h (onT (sAt h) t) f Y w e w' := by
 have h1 := sfill_of S q td h t a c w X Y f hXM hs hEv fun nm _ _ => look_any2 S q td h g hN nm
 rw [gT_onT g.all.vars he] at h1
 exact h1
end Go.Proofs.YtdebiiodhkcnkaaGreat
