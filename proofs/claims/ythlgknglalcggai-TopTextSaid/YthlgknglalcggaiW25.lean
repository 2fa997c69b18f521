/- Walks: the places of a term, as the program gathers them. -/
import Derived.Test.YthlgknglalcggaiPa
import Derived.Test.YthlgknglalcggaiRg
import Derived.Deep.RegionHeld3
namespace Go.Proofs.Ythlgknglalcggai
open Go.RowKit Go.Shelf
attribute [local go_sem] Oper.semAt_some
set_option linter.unusedSimpArgs false
set_option linter.unusedVariables false
set_option maxRecDepth 8000

theorem step_here {ops : Array Oper} {o : Oper} {a : Act} {K : Act → World → Prop} {Q : Exit → Act → World → Prop} {E : Prop} {W : World} {N : Nat} {u : Value} {hs : List Int} (hgd : o.guard = none) (s x : Operand)
    (ho : o.op = .call { callee := .builtin .append, args := #[s, x], argTypes := #[22, 22] }) (hty : o.type = 22) (hs' : a.eval s = u) (i : Int) (F : Nat) (hx : a.eval x = .slice (some ⟨F, 0, none⟩) 1 1)
    (h : W.ownsRow N 3 1 u hs.length (hs.map fun z => .int .i64 z)) (hN : N ≤ W.heap.size) (hF : W.heap[F]? = some (.cells #[.int .i64 i] 3 (0, 0))) (hn : hs.length ≤ 1000000)
    (hk : ∀ u' W', W'.ownsRow N 3 1 u' (hs ++ [i]).length ((hs ++ [i]).map fun z => .int .i64 z) → W.grownBy W' u.ownBlock → Ext W W' u u' hs.length → K (a.put o.dst u') W') : if Region.wanted o (yielded ops a.tmps) = true then Oper.wp Try.prog o a W K Q else E := by
  obtain ⟨u', W', hr, h1, h2, h3⟩ := here_step h hN i F hF hn
  exact step_append_eq hgd s x _ _ ho hs' hx (by rw [hty]; exact hr) (hk u' W' h1 h2 h3)

theorem clone_sl {w : World} {N : Nat} {u : Value} {hs : List Int} (h : w.ownsRow N 3 1 u hs.length (hs.map fun z => .int .i64 z)) (hn : hs.length ≤ 1000000) :
    Calls Try.prog 27 #[u] w fun e w' => ∃ a c, e = .returned (.slice a hs.length c) ∧ PV w' (fun b => w.heap.size ≤ b) (.slice a hs.length c) hs ∧ Below w.heap.size w w' := by
  refine (clone_any h hn).mono ?_
  rintro e w' ⟨v, rfl, hp, hb⟩
  have hp' := hp
  obtain ⟨a, c, rfl, _⟩ := hp
  exact ⟨a, c, rfl, hp', hb⟩

theorem Sl.fr2 {w w' : World} {X : Nat → Prop} {a : Option Addr} {l : List Tm} {A : Nat} {q u : Value} (h : Sl w X a l) (hg : Fr2 A w w' q u) (hA : ∀ b, X b → b ≠ A) (hq : ∀ b, X b → some b ≠ q.ownBlock) (hu : ∀ b, X b → some b ≠ u.ownBlock) : Sl w' X a l := by
  have h1 : Sl w (fun b => X b ∧ b < w.heap.size) a l := h.mono fun b h1 h2 => ⟨h1, h2⟩
  have h2 : Sl w' (fun b => X b ∧ b < w.heap.size) a l := h1.kept fun b hx => hg.2.2.2.2 b hx.2 (hA b hx.1) (hq b hx.1) (hu b hx.1)
  exact h2.mono fun b hx _ => hx.1

/-- Behind the box of the parameter. -/
theorem PlAt.from {A : Nat} {w wr : World} {o : Obj} {N : Nat} {q0 q u : Value} {hs : List Int} {Y : Nat → Prop} {ps : List (List Int)} {xs : List Value} (h : PlAt A (w.alloc o) N q0 u hs Y ps q xs wr) : PlAt A w N q0 u hs Y ps q xs wr := by
  refine ⟨h.1, h.2.1, h.2.2.1, (Fr2.of_below ((Below.refl _ _).alloc (Nat.le_refl _) o) q0 u).trans h.2.2.2.1 (fun k h => Or.inl h) (fun k h => Or.inl h), fun k hk => ?_⟩
  rcases h.2.2.2.2 k hk with e | e
  · exact Or.inl e
  · right; simp at e; omega

theorem box_cell {A : Nat} {w w2 : World} {q u : Value} {s : ByteArray} {v : Value} {T : Nat} (hA : w.heap.size ≠ A) (h : Fr2 A (w.alloc (.cells #[.string s, v] T)) w2 q u) (hq : some w.heap.size ≠ q.ownBlock) (hu : some w.heap.size ≠ u.ownBlock) : w2.cell? ⟨w.heap.size, 1, none⟩ = some v := by
  have h1 := h.2.2.2.2 w.heap.size (by simp) hA hq hu
  have h2 := heap_alloc_new w (.cells #[.string s, v] T)
  rw [h2] at h1
  simp [World.cell?, h1]

theorem sizeL_ge1 (l : List Tm) (k : Nat) (h : k < l.length) : 1 + sizeL [l[k]] ≤ 1 + sizeL l := by
  have := sizeL_take l k h
  have := sizeL_take_le l (k + 1)
  omega

def PlInv (A : Nat) (w0 : World) (N : Nat) (q0 u : Value) (hs : List Int) (Y : Nat → Prop) (ps : List (List Int)) (l : List Tm) (lp : Nat) (r : Loop) (rest i : Value) (wr : World) : Prop :=
  rest = .slice none 0 0 ∧ ∃ (k : Nat) (q : Value) (xs : List Value), k ≤ l.length ∧ i = .int .i64 k ∧ Blk wr A #[q] 33 ∧ PlAt A w0 N q0 u hs Y (ps ++ hs :: (plcL 0 (l.take k)).map fun p => hs ++ p) q xs wr ∧ wr.heap[lp]? = some (.loop r)

/-- What a round does: the path is gathered. -/
def RoundH (A N lp : Nat) (r : Loop) : Prop := ∀ (n : Nat) (u tv : Value) (hs : List Int) (Y : Nat → Prop) (ps : List (List Int)) (q : Value) (xs : List Value) (W : World), (∃ z, tv = .agg z) → N ≤ W.heap.size → (∀ b, Y b → b < W.heap.size) → W.heap[lp]? = some (.loop r) → Blk W A #[q] 33 → PlAt A W N q u hs Y ps q xs W → ps.length ≤ 1000000 → hs.length ≤ 1000000 →
  YieldAt Fence.wide n Try.prog lp #[u, tv] W fun e W' => e = .returned (.bool true) ∧ ∃ q' xs', Blk W' A #[q'] 33 ∧ PlAt A W N q u hs Y (ps ++ [hs]) q' xs' W' ∧ W'.heap[lp]? = some (.loop r)

theorem next_nil (w : World) : Calls Try.prog 66 #[.slice none 0 0] w fun e w' => e = .returned (.tuple #[.int .i64 0, .slice none 0 0]) ∧ w' = w := by
  go_enter Try.func66, Try.ntmps66
  go_wp2_with fail
  refine bodyPost_ret (v := .tuple #[.int .i64 0, .slice none 0 0]) (by simp [results, Try.results66, go_sem]) rfl ?_
  exact ⟨rfl, rfl⟩

set_option maxHeartbeats 2000000 in
theorem down_any (A N lp : Nat) (r : Loop) (hAN : A < N) (RH : RoundH A N lp r) (t : Tm) : ∀ (q v u : Value) (ps : List (List Int)) (xs : List Value) (hs : List Int) (Y : Nat → Prop) (w : World) (X : Nat → Prop), TV w X v t → (∀ b, X b → b < N ∧ b ≠ A) → N ≤ w.heap.size → (∀ b, Y b → b < w.heap.size) → Blk w A #[q] 33 → PlAt A w N q u hs Y ps q xs w → w.heap[lp]? = some (.loop r) → ps.length + sizeL [t] ≤ 900000 → hs.length + sizeL [t] ≤ 900000 →
    Calls Try.prog 51 #[v, u, .slice none 0 0, .func (.yield lp) #[] #[]] w fun e w' => e = .returned (.bool true) ∧ ∃ q' xs', Blk w' A #[q'] 33 ∧ PlAt A w N q u hs Y (ps ++ (plcT t).map fun p => hs ++ p) q' xs' w' ∧ w'.heap[lp]? = some (.loop r) := by
  induction t using Tm.ind with
  | h s l ih =>
    intro q v u ps xs hs Y w X hv hX hN hY hA hpl hlp hsm hsm2
    obtain ⟨a, c, rfl, hsl⟩ := hv
    have IH := hide ih
    clear ih
    have hl := hsl.1
    have hz : sizeL [(⟨s, l⟩ : Tm)] = 1 + sizeL l := by simp [sizeL]
    rw [hz] at hsm hsm2
    clear hz
    have hB0 : Below w.heap.size w (w.alloc (.cells #[.string s, .slice a l.length c] 25)) := (Below.refl _ _).alloc (Nat.le_refl _) _
    have HPL := hide (PlAt.later hAN hpl hB0).here
    have hlq := hpl.1.lt
    have hlu := hpl.2.1.lt
    have HXq : Hid (∀ b, X b → some b ≠ q.ownBlock) := fun b hb e => by have := (hlq b e.symm).1; have := hX b hb; omega
    have HXu : Hid (∀ b, X b → some b ≠ u.ownBlock) := fun b hb e => by have := (hlu b e.symm).1; have := hX b hb; omega
    have HBq : Hid (some w.heap.size ≠ q.ownBlock) := fun e => by have := (hlq _ e.symm).2; omega
    have HBu : Hid (some w.heap.size ≠ u.ownBlock) := fun e => by have := (hlu _ e.symm).2; omega
    have HN0 : Hid (N ≤ (w.alloc (.cells #[.string s, .slice a l.length c] 25)).heap.size) := by unfold Hid; simp; omega
    have HY0 : Hid (∀ b, Y b → b < (w.alloc (.cells #[.string s, .slice a l.length c] 25)).heap.size) := fun b hb => by have := hY b hb; simp; omega
    have HSL := hide hsl
    have HX := hide hX
    have HY := hide hY
    have hps : ps.length ≤ 1000000 := by omega
    have hhs : hs.length ≤ 1000000 := by omega
    have hlpl : lp < w.heap.size := (Array.getElem?_eq_some_iff.1 hlp).1
    have RHW := RH 0 u (.agg #[.string s, .slice a l.length c]) hs Y ps q xs (w.alloc (.cells #[.string s, .slice a l.length c] 25)) ⟨_, rfl⟩ HN0.out HY0.out ((Below.heap_alloc _ _ _ hlpl).trans hlp) (hA.alloc _) HPL.out hps hhs
    obtain ⟨hfn, htmps, hasg, hbody, hy, hR⟩ := RHW
    have HR := hide hR
    have HRH := hide RH
    clear hpl hlq hlu hsl hX hY hB0 hR RH hlp hA
    have hf1 : Fence.wide.fn 66 := trivial
    go_enter Try.func51, Try.ntmps51
    refine (wpIn_wide (n := 1)).1 ?_
    gi_wp2
    refine HR.out.mono ?_
    rintro e W1 ⟨rfl, q1, xs1, hA1, hp1, hl1⟩
    have HPL1 := hide hp1
    have HA1 := hide hA1
    have HL1 := hide hl1
    have K1 : W1.cell? ⟨w.heap.size, 1, none⟩ = some (.slice a l.length c) := box_cell (by omega) hp1.2.2.2.1 HBq.out HBu.out
    clear hp1 hA1 hl1 hy
    gi_wp2_with (gi_at_call 66; refine (callsIn_wide.2 (next_nil _)).mono ?_; rintro e w' ⟨rfl, rfl⟩)
    refine wpIn_wide.2 ?_
    go_loopw [10, 11] (fun q' i wr => PlInv A (w.alloc (.cells #[.string s, .slice a l.length c] 25)) N q u hs Y ps l lp r q' i wr) (fun q' i wr => l.length - (intOf i).toNat)
    case atStart => exact ⟨rfl, 0, q1, xs1, Nat.zero_le _, rfl, HA1.out, by simpa [plcL] using HPL1.out, HL1.out⟩
    case round =>
      obtain ⟨rfl, k, q2, xs2, hk, rfl, hA2, hp2, hl2⟩ := hrel
      have HA2 := hide hA2
      have HL2 := hide hl2
      have HP2 := hide hp2
      have hlp2 : lp < wr.heap.size := (Array.getElem?_eq_some_iff.1 hl2).1
      have HNr : Hid (N ≤ wr.heap.size) := Nat.le_trans HN0.out hp2.2.2.2.1.2.2.2.1
      have HYr : Hid (∀ b, Y b → b < wr.heap.size) := fun b hb => Nat.lt_of_lt_of_le (HY0.out b hb) hp2.2.2.2.1.2.2.2.1
      have hfr := hp2.2.2.2.1
      have K2 : wr.cell? ⟨w.heap.size, 1, none⟩ = some (.slice a l.length c) := box_cell (by omega) hfr HBq.out HBu.out
      clear hp2 hA2 hl2
      by_cases hlt : k < l.length
      · have hst := sizeL_take l k hlt
        have hst2 := sizeL_take_le l (k + 1)
        obtain ⟨b, o, a', c', rfl, d0, d1, hx⟩ := ((HSL.out.fr2 (A := A) (Fr2.of_below ((Below.refl _ _).alloc (Nat.le_refl _) (.cells #[.string s, .slice a l.length c] 25)) q u) (fun b hb => (HX.out b hb).2) HXq.out HXu.out).fr2 hfr (fun b hb => (HX.out b hb).2) HXq.out HXu.out).get (Below.refl wr.heap.size wr) (fun _ _ h => h) k hlt
        have hbX : X b := by
          obtain ⟨_, h1⟩ := HSL.out
          rcases h1 with h1 | ⟨b', o', e', h1⟩
          · rw [h1] at hlt; simp at hlt
          · cases e'; exact (lies_get _ _ _ h1 k hlt).1
        have HXX := hide hx
        have HT := hide (plcL_take l k hlt)
        have HSM : Hid ((ps ++ hs :: (plcL 0 (l.take k)).map fun p => hs ++ p).length + sizeL [l[k]] ≤ 900000) := by unfold Hid; simp [plcL_len]; omega
        have HSM2 : Hid ((hs ++ [(k : Int)]).length + sizeL [l[k]] ≤ 900000) := by unfold Hid; simp; have := sizeL_ge1 l k hlt; omega
        clear hx hst hst2 hfr
        have HS0 := hide (And.intro K2 (And.intro d0 d1))
        go_wp2_with fail
        have hbW : Below wr.heap.size wr (wr.alloc (.cells #[.int .i64 (k : Int)] 3)).drew := ((Below.refl _ _).alloc (Nat.le_refl _) _).drew
        have HBW := hide hbW
        have HOU := hide (PlAt.later hAN HP2.out hbW).2.1
        have HNW : Hid (N ≤ (wr.alloc (.cells #[.int .i64 (k : Int)] 3)).drew.heap.size) := Nat.le_trans HNr.out hbW.size
        have HFW : Hid ((wr.alloc (.cells #[.int .i64 (k : Int)] 3)).drew.heap[wr.heap.size]? = some (.cells #[.int .i64 (k : Int)] 3 (0, 0))) := heap_alloc_new wr (.cells #[.int .i64 (k : Int)] 3)
        have HTT : Hid ((ps ++ hs :: (plcL 0 (l.take (k + 1))).map fun p => hs ++ p) = (ps ++ hs :: (plcL 0 (l.take k)).map fun p => hs ++ p) ++ (plcT l[k]).map fun p => (hs ++ [(k : Int)]) ++ p) := by
          unfold Hid; rw [HT.out]; simp [Function.comp_def]
        have HSE : Hid (∀ u2 W2, (wr.alloc (.cells #[.int .i64 (k : Int)] 3)).drew.grownBy W2 u.ownBlock → Ext (wr.alloc (.cells #[.int .i64 (k : Int)] 3)).drew W2 u u2 hs.length → (W2.cell? ⟨w.heap.size, 1, none⟩ = some (.slice (some ⟨b, o, none⟩) l.length c) ∧ W2.cell? ⟨b, o + k * 2, none⟩ = some (.string l[k].name) ∧ W2.cell? ⟨b, o + k * 2 + 1, none⟩ = some (.slice a' l[k].args.length c')) ∧ Blk W2 A #[q2] 33 ∧ W2.heap[lp]? = some (.loop r) ∧
            ∀ w5, Fr2 A W2 w5 q2 u2 → w5.cell? ⟨w.heap.size, 1, none⟩ = some (.slice (some ⟨b, o, none⟩) l.length c) ∧ w5.cell? ⟨b, o + k * 2, none⟩ = some (.string l[k].name) ∧ w5.cell? ⟨b, o + k * 2 + 1, none⟩ = some (.slice a' l[k].args.length c')) := fun u2 W2 hg2 he2 => by
          have hwz : w.heap.size < wr.heap.size := by have := HP2.out.2.2.2.1.2.2.2.1; simp at this; omega
          have hbz : b < wr.heap.size := by have := HX.out b hbX; have := HNr.out; omega
          have hgz := hg2.size
          simp at hgz
          have kp : ∀ j, j < wr.heap.size → some j ≠ u.ownBlock → W2.heap[j]? = wr.heap[j]? := fun j hj hne => (hg2.block j (by simp; omega) hne).trans (HBW.out.block j hj)
          have hlt := HP2.out.2.1.lt
          have hltq := HP2.out.1.lt
          have hbN := HX.out b hbX
          have e0 := kp w.heap.size hwz HBu.out
          have e1 := kp b hbz (HXu.out b hbX)
          have eA := kp A (by omega) (fun e => by have := (hlt _ e.symm).1; omega)
          have eL := kp lp hlp2 (fun e => by
            rcases HP2.out.2.1.2 with ⟨h1, _⟩ | ⟨g, cap, cur, h1, _, h2, _⟩
            · rw [h1] at e; simp [Value.ownBlock] at e
            · rw [h1] at e
              have e3 : lp = g := by simpa [Value.ownBlock] using e
              rw [← e3, HL2.out] at h2
              cases h2)
          have hE : ∀ j, j < wr.heap.size → some j ≠ u.ownBlock → some j ≠ u2.ownBlock := fun j hj hne e => by
            rcases he2 with ⟨g, cap, e3, e4⟩ | ⟨hn, _⟩
            · rw [e4] at e; rw [e3] at hne; exact hne e
            · have := hn j e.symm
              simp at this
              omega
          refine ⟨⟨(World.cell?_of_block e0).trans HS0.out.1, (World.cell?_of_block e1).trans HS0.out.2.1, (World.cell?_of_block e1).trans HS0.out.2.2⟩, eA.trans HA2.out, eL.trans HL2.out, fun w5 hf => ?_⟩
          have f0 : w5.heap[w.heap.size]? = wr.heap[w.heap.size]? := (hf.2.2.2.2 _ (by omega) (by omega) (fun e => by
            rcases HP2.out.2.2.2.2 _ e.symm with e | e
            · exact HBq.out e.symm
            · simp at e; omega) (hE _ hwz HBu.out)).trans e0
          have f1 : w5.heap[b]? = wr.heap[b]? := (hf.2.2.2.2 _ (by omega) hbN.2 (fun e => by have := (hltq _ e.symm).1; omega) (hE _ hbz (HXu.out b hbX))).trans e1
          exact ⟨(World.cell?_of_block f0).trans HS0.out.1, (World.cell?_of_block f1).trans HS0.out.2.1, (World.cell?_of_block f1).trans HS0.out.2.2⟩
        clear hbW
        go_region_held3 (fun w' => w'.cell? ⟨w.heap.size, 1, none⟩ = some (.slice (some ⟨b, o, none⟩) l.length c) ∧ w'.cell? ⟨b, o + k * 2, none⟩ = some (.string l[k].name) ∧ w'.cell? ⟨b, o + k * 2 + 1, none⟩ = some (.slice a' l[k].args.length c')) (first | exact HS0.out | exact hS5 | exact hS2 | go_keep)
          (first
            | (refine step_here (N := N) (hs := hs) (u := u) rfl _ _ rfl rfl rfl (k : Int) _ rfl HOU.out HNW.out HFW.out hhs ?_; intro u2 W2 ho2 hg2 he2; obtain ⟨hS2, hA3, hL3, hK3⟩ := HSE.out u2 W2 hg2 he2; have hd2 := PlAt.down hAN HP2.out HBW.out ho2 hg2 he2; have hx2 := (HXX.out.later HBW.out).grown hg2 HXu.out; have hn2 := Nat.le_trans HNW.out hg2.size; have hw2 := Nat.le_trans HBW.out.size hg2.size)
            | (go_at_call 51; refine (IH.out _ (List.getElem_mem hlt) _ _ _ _ _ _ _ _ X hx2 HX.out hn2 (fun b hb => Nat.lt_of_lt_of_le hb.1 hw2) hA3 hd2 hL3 HSM.out HSM2.out).mono ?_; rintro e w5 ⟨rfl, q5, xs5, hA5, hp5, hl5⟩; have HUP := hide (PlAt.up hAN HP2.out HYr.out HBW.out hg2 he2 hp5); have hS5 := hK3 w5 hp5.2.2.2.1; have HA5 := hide hA5; have HL5 := hide hl5; clear hp5 hA5 hl5))
        clear hS5 hd2 hx2 hS2 ho2 hg2 he2
        go_wp2_with fail
        go_roundw
        case rel => exact ⟨rfl, k + 1, _, _, by omega, by go_num, HA5.out, by rw [HTT.out]; exact HUP.out, HL5.out⟩
        case measure => simp [intOf]; omega
      · have htk : l.take k = l := List.take_of_length_le (by omega)
        have h1 := HP2.out.from
        rw [htk] at h1
        have HF := hide h1
        clear h1 hfr
        go_wp2_with fail
        gi_wp2
        go_ret
        exact ⟨rfl, q2, xs2, HA2.out, by simpa [plcT] using HF.out, HL2.out⟩
#print axioms down_any
end Go.Proofs.Ythlgknglalcggai
