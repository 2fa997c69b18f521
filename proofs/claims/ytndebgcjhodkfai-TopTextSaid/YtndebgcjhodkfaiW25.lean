/- Walks: the places of a term, as the program gathers them. -/
import Derived.Test.YtndebgcjhodkfaiPa
import Derived.Deep.RegionHeld3
namespace Go.Proofs.Ytndebgcjhodkfai
open Go.RowKit
set_option linter.unusedSimpArgs false
set_option linter.unusedVariables false
set_option maxRecDepth 8000

theorem step_here {ops : Array Oper} {o : Oper} {a : Act} {K : Act → World → Prop} {Q : Exit → Act → World → Prop} {E : Prop} {W : World} {N : Nat} {u : Value} {hs : List Int} (hgd : o.guard = none) (s x : Operand)
    (ho : o.op = .call { callee := .builtin .append, args := #[s, x], argTypes := #[22, 22] }) (hty : o.type = 22) (hs' : a.eval s = u) (i : Int) (F : Nat) (hx : a.eval x = .slice (some ⟨F, 0, none⟩) 1 1)
    (h : W.ownsRow N 3 1 u hs.length (hs.map fun z => .int .i64 z)) (hN : N ≤ W.heap.size) (hF : W.heap[F]? = some (.cells #[.int .i64 i] 3 (0, 0))) (hn : hs.length ≤ 1000000)
    (hk : ∀ u' W', W'.ownsRow N 3 1 u' (hs ++ [i]).length ((hs ++ [i]).map fun z => .int .i64 z) → W.grownBy W' u.ownBlock → Ext W W' u u' hs.length → K (a.put o.dst u') W') : if Region.wanted o (yielded ops a.tmps) = true then Oper.wp Try.prog o a W K Q else E := by
  obtain ⟨u', W', hr, h1, h2, h3⟩ := here_step h hN i F hF hn
  exact step_append_eq hgd s x _ _ ho hs' hx (by rw [hty]; exact hr) (hk u' W' h1 h2 h3)

theorem clone_sl {w : World} {N : Nat} {u : Value} {hs : List Int} (h : w.ownsRow N 3 1 u hs.length (hs.map fun z => .int .i64 z)) (hn : hs.length ≤ 1000000) :
    Calls Try.prog 46 #[u] w fun e w' => ∃ a c, e = .returned (.slice a hs.length c) ∧ PV w' (fun b => w.heap.size ≤ b) (.slice a hs.length c) hs ∧ Below w.heap.size w w' := by
  refine (clone_any h hn).mono ?_
  rintro e w' ⟨v, rfl, hp, hb⟩
  have hp' := hp
  obtain ⟨a, c, rfl, _⟩ := hp
  exact ⟨a, c, rfl, hp', hb⟩

theorem Sl.fr2 {w w' : World} {X : Nat → Prop} {a : Option Addr} {l : List Tm} {q u : Value} (h : Sl w X a l) (hg : Fr2 w w' q u) (hq : ∀ b, X b → some b ≠ q.ownBlock) (hu : ∀ b, X b → some b ≠ u.ownBlock) : Sl w' X a l := by
  have h1 : Sl w (fun b => X b ∧ b < w.heap.size) a l := h.mono fun b h1 h2 => ⟨h1, h2⟩
  have h2 : Sl w' (fun b => X b ∧ b < w.heap.size) a l := h1.kept fun b hx => hg.2.2.2.2 b hx.2 (hq b hx.1) (hu b hx.1)
  exact h2.mono fun b hx _ => hx.1

/-- Behind the box of the parameter. -/
theorem PlAt.from {w wr : World} {o : Obj} {N : Nat} {q0 q u : Value} {hs : List Int} {Y : Nat → Prop} {ps : List (List Int)} {xs : List Value} (h : PlAt (w.alloc o) N q0 u hs Y ps q xs wr) : PlAt w N q0 u hs Y ps q xs wr := by
  refine ⟨h.1, h.2.1, h.2.2.1, (Fr2.of_below ((Below.refl _ _).alloc (Nat.le_refl _) o) q0 u).trans h.2.2.2.1 (fun k h => Or.inl h) (fun k h => Or.inl h), fun k hk => ?_⟩
  rcases h.2.2.2.2 k hk with e | e
  · exact Or.inl e
  · right; simp at e; omega

theorem box_cell {w w2 : World} {q u : Value} {s : ByteArray} {v : Value} {T : Nat} (h : Fr2 (w.alloc (.cells #[.string s, v] T)) w2 q u) (hq : some w.heap.size ≠ q.ownBlock) (hu : some w.heap.size ≠ u.ownBlock) : w2.cell? ⟨w.heap.size, 1, none⟩ = some v := by
  have h1 := h.2.2.2.2 w.heap.size (by simp) hq hu
  have h2 := heap_alloc_new w (.cells #[.string s, v] T)
  rw [h2] at h1
  simp [World.cell?, h1]

theorem sizeL_ge1 (l : List Tm) (k : Nat) (h : k < l.length) : 1 + sizeL [l[k]] ≤ 1 + sizeL l := by
  have := sizeL_take l k h
  have := sizeL_take_le l (k + 1)
  omega

/-- The round's box is kept by the longer path. -/
theorem box_kept {wr W2 : World} {s : ByteArray} {v : Value} {T T' : Nat} {cs : Array Value} {r : Option Nat} (h : ((wr.alloc (.cells #[.string s, v] T)).alloc (.cells cs T')).drew.grownBy W2 r) (hr : some wr.heap.size ≠ r) : W2.cell? ⟨wr.heap.size, 0, none⟩ = some (.string s) ∧ W2.cell? ⟨wr.heap.size, 1, none⟩ = some v := by
  have h1 := h.block wr.heap.size (by simp; omega) hr
  have h2 : ((wr.alloc (.cells #[.string s, v] T)).alloc (.cells cs T')).drew.heap[wr.heap.size]? = some (.cells #[.string s, v] T (0, 0)) := by
    have h3 := heap_alloc_new wr (.cells #[.string s, v] T)
    have h4 := Below.heap_alloc (wr.alloc (.cells #[.string s, v] T)) (.cells cs T') wr.heap.size (by simp)
    rw [h3] at h4
    exact h4
  rw [h2] at h1
  exact ⟨by simp [World.cell?, h1], by simp [World.cell?, h1]⟩

theorem box_kept2 {wr W W2 w5 : World} {s : ByteArray} {v q u u2 : Value} {N n m T T' : Nat} {xs ys : List Value} (h : W2.cell? ⟨wr.heap.size, 0, none⟩ = some (.string s) ∧ W2.cell? ⟨wr.heap.size, 1, none⟩ = some v) (hf : Fr2 W2 w5 q u2) (hq : wr.ownsRow N T 1 q n xs) (hu : wr.ownsRow N T' 1 u m ys) (hg : W.grownBy W2 u.ownBlock) {k : Nat} (he : Ext W W2 u u2 k) (hW : wr.heap.size < W.heap.size) :
    w5.cell? ⟨wr.heap.size, 0, none⟩ = some (.string s) ∧ w5.cell? ⟨wr.heap.size, 1, none⟩ = some v := by
  have h1 : w5.heap[wr.heap.size]? = W2.heap[wr.heap.size]? := hf.2.2.2.2 _ (Nat.lt_of_lt_of_le hW hg.size) (fun e => by have := (hq.lt _ e.symm).2; omega) (fun e => by
    rcases he with ⟨g, cap, rfl, rfl⟩ | ⟨hn, _⟩
    · have := (hu.lt _ e.symm).2; omega
    · have := hn _ e.symm; omega)
  simpa [World.cell?, h1] using h

def PlInv (w0 : World) (N : Nat) (q0 u : Value) (hs : List Int) (Y : Nat → Prop) (ps : List (List Int)) (l : List Tm) (q i : Value) (wr : World) : Prop :=
  ∃ (k : Nat) (xs : List Value), k ≤ l.length ∧ i = .int .i64 k ∧ PlAt w0 N q0 u hs Y (ps ++ hs :: (plcL 0 (l.take k)).map fun p => hs ++ p) q xs wr

set_option maxHeartbeats 2000000 in
theorem addPlaces_any (t : Tm) : ∀ (q v u : Value) (ps : List (List Int)) (xs : List Value) (hs : List Int) (Y : Nat → Prop) (w : World) (X : Nat → Prop) (N : Nat), TV w X v t → (∀ b, X b → b < N) → N ≤ w.heap.size → (∀ b, Y b → b < w.heap.size) → PlAt w N q u hs Y ps q xs w → ps.length + sizeL [t] ≤ 900000 → hs.length + sizeL [t] ≤ 900000 →
    Calls Try.prog 25 #[q, v, u] w fun e w' => ∃ q' xs', e = .returned q' ∧ PlAt w N q u hs Y (ps ++ (plcT t).map fun p => hs ++ p) q' xs' w' := by
  induction t using Tm.ind with
  | h s l ih =>
    intro q v u ps xs hs Y w X N hv hX hN hY hpl hsm hsm2
    obtain ⟨a, c, rfl, hsl⟩ := hv
    have IH := hide ih
    clear ih
    have hl := hsl.1
    have hz : sizeL [(⟨s, l⟩ : Tm)] = 1 + sizeL l := by simp [sizeL]
    rw [hz] at hsm hsm2
    clear hz
    have HPL := hide (hpl.later ((Below.refl _ _).alloc (Nat.le_refl _) (.cells #[.string s, .slice a l.length c] 25))).here
    have hlq := hpl.1.lt
    have hlu := hpl.2.1.lt
    have HXq : Hid (∀ b, X b → some b ≠ q.ownBlock) := fun b hb e => by have := (hlq b e.symm).1; have := hX b hb; omega
    have HXu : Hid (∀ b, X b → some b ≠ u.ownBlock) := fun b hb e => by have := (hlu b e.symm).1; have := hX b hb; omega
    have HBq : Hid (some w.heap.size ≠ q.ownBlock) := fun e => by have := (hlq _ e.symm).2; omega
    have HBu : Hid (some w.heap.size ≠ u.ownBlock) := fun e => by have := (hlu _ e.symm).2; omega
    have HN0 : Hid (N ≤ (w.alloc (.cells #[.string s, .slice a l.length c] 25)).heap.size) := by unfold Hid; simp; omega
    have HY0 : Hid (∀ b, Y b → b < (w.alloc (.cells #[.string s, .slice a l.length c] 25)).heap.size) := fun b hb => by have := hY b hb; simp; omega
    have HSL := hide hsl
    have HX := hide hX
    have HY := hide hY
    have hps : ps.length ≤ 1000000 := by omega
    have hhs : hs.length ≤ 1000000 := by omega
    clear hpl hlq hlu hsl hX hY
    go_enter Try.func25, Try.ntmps25
    go_wp2_with first
      | (go_at_call 46; refine (clone_sl (by exact HPL.out.2.1) hhs).mono ?_; rintro e w1 ⟨a1, c1, rfl, hp1, hb1⟩; obtain ⟨q1, w2, hr1, hpl1⟩ := HPL.out.push HN0.out HY0.out hb1 hp1 hps _ rfl; have HR1 := hide hr1; have HPL1 := hide hpl1; have K1 : w2.cell? ⟨w.heap.size, 1, none⟩ = some (.slice a l.length c) := box_cell HPL1.out.2.2.2.1 HBq.out HBu.out; clear hr1 hpl1 hp1 hb1)
      | (at_builtin; refine wpList_append_eq rfl _ _ _ _ rfl rfl rfl HR1.out ?_)
    go_loopw [0, 17] (fun q' i wr => PlInv (w.alloc (.cells #[.string s, .slice a l.length c] 25)) N q u hs Y ps l q' i wr) (fun q' i wr => l.length - (intOf i).toNat)
    case atStart => exact ⟨0, _, Nat.zero_le _, rfl, by simpa [plcL] using HPL1.out⟩
    case round =>
      obtain ⟨k, xs2, hk, rfl, hp2⟩ := hrel
      have HP2 := hide hp2
      have HNr : Hid (N ≤ wr.heap.size) := Nat.le_trans HN0.out hp2.2.2.2.1.2.2.2.1
      have HYr : Hid (∀ b, Y b → b < wr.heap.size) := fun b hb => Nat.lt_of_lt_of_le (HY0.out b hb) hp2.2.2.2.1.2.2.2.1
      have hfr := hp2.2.2.2.1
      clear hp2
      by_cases hlt : k < l.length
      · have hst := sizeL_take l k hlt
        have hst2 := sizeL_take_le l (k + 1)
        obtain ⟨b, o, a', c', rfl, d0, d1, hx⟩ := ((HSL.out.fr2 (Fr2.of_below ((Below.refl _ _).alloc (Nat.le_refl _) (.cells #[.string s, .slice a l.length c] 25)) q u) HXq.out HXu.out).fr2 hfr HXq.out HXu.out).get (Below.refl wr.heap.size wr) (fun _ _ h => h) k hlt
        have HXX := hide hx
        have HT := hide (plcL_take l k hlt)
        have HSM : Hid ((ps ++ hs :: (plcL 0 (l.take k)).map fun p => hs ++ p).length + sizeL [l[k]] ≤ 900000) := by unfold Hid; simp [plcL_len]; omega
        have HSM2 : Hid ((hs ++ [(k : Int)]).length + sizeL [l[k]] ≤ 900000) := by unfold Hid; simp; have := sizeL_ge1 l k hlt; omega
        clear hx hst hst2 hfr
        go_wp2_with fail
        have hbW : Below wr.heap.size wr ((wr.alloc (.cells #[.string l[k].name, .slice a' l[k].args.length c'] 25)).alloc (.cells #[.int .i64 (k : Int)] 3)).drew := (((Below.refl _ _).alloc (Nat.le_refl _) _).alloc (by simp) _).drew
        have HBW := hide hbW
        have HOU := hide (HP2.out.later hbW).2.1
        have HNW : Hid (N ≤ ((wr.alloc (.cells #[.string l[k].name, .slice a' l[k].args.length c'] 25)).alloc (.cells #[.int .i64 (k : Int)] 3)).drew.heap.size) := Nat.le_trans HNr.out hbW.size
        have HFW : Hid (((wr.alloc (.cells #[.string l[k].name, .slice a' l[k].args.length c'] 25)).alloc (.cells #[.int .i64 (k : Int)] 3)).drew.heap[wr.heap.size + 1]? = some (.cells #[.int .i64 (k : Int)] 3 (0, 0))) := by
          have := heap_alloc_new (wr.alloc (.cells #[.string l[k].name, .slice a' l[k].args.length c'] 25)) (.cells #[.int .i64 (k : Int)] 3)
          have e : (wr.alloc (.cells #[.string l[k].name, .slice a' l[k].args.length c'] 25)).heap.size = wr.heap.size + 1 := by simp
          rw [e] at this
          exact this
        have HTT : Hid ((ps ++ hs :: (plcL 0 (l.take (k + 1))).map fun p => hs ++ p) = (ps ++ hs :: (plcL 0 (l.take k)).map fun p => hs ++ p) ++ (plcT l[k]).map fun p => (hs ++ [(k : Int)]) ++ p) := by
          unfold Hid; rw [HT.out]; simp [Function.comp_def]
        have HWu : Hid (some wr.heap.size ≠ u.ownBlock) := fun e => by have := (HP2.out.2.1.lt _ e.symm).2; omega
        have HW2 : Hid (wr.heap.size < ((wr.alloc (.cells #[.string l[k].name, .slice a' l[k].args.length c'] 25)).alloc (.cells #[.int .i64 (k : Int)] 3)).drew.heap.size) := by unfold Hid; simp; omega
        clear hbW
        go_region_held3 (fun w' => w'.cell? ⟨wr.heap.size, 0, none⟩ = some (.string l[k].name) ∧ w'.cell? ⟨wr.heap.size, 1, none⟩ = some (.slice a' l[k].args.length c')) (first | exact hS5 | exact hS2 | go_keep)
          (first
            | (refine step_here (N := N) (hs := hs) (u := u) rfl _ _ rfl rfl rfl (k : Int) _ rfl HOU.out HNW.out HFW.out hhs ?_; intro u2 W2 ho2 hg2 he2; have hS2 := box_kept hg2 HWu.out; have hd2 := HP2.out.down HBW.out ho2 hg2 he2; have hx2 := (HXX.out.later HBW.out).grown hg2 HXu.out; have hn2 := Nat.le_trans HNW.out hg2.size; have hw2 := Nat.le_trans HBW.out.size hg2.size)
            | (go_at_call 25; refine (IH.out _ (List.getElem_mem hlt) _ _ _ _ _ _ _ _ X N hx2 HX.out hn2 (fun b hb => Nat.lt_of_lt_of_le hb.1 hw2) hd2 HSM.out HSM2.out).mono ?_; rintro e w5 ⟨q5, xs5, rfl, hp5⟩; have HUP := hide (HP2.out.up HYr.out HBW.out hg2 he2 hp5); have hS5 := box_kept2 hS2 hp5.2.2.2.1 HP2.out.1 HP2.out.2.1 hg2 he2 HW2.out; clear hp5))
        clear hS5 hd2 hx2 hS2 ho2 hg2 he2
        go_wp2_with fail
        go_roundw
        case rel => exact ⟨k + 1, _, by omega, by go_num, by rw [HTT.out]; exact HUP.out⟩
        case measure => simp [intOf]; omega
      · have htk : l.take k = l := List.take_of_length_le (by omega)
        have h1 := HP2.out.from
        rw [htk] at h1
        have HF := hide h1
        clear h1 hfr
        go_wp2_with fail
        go_ret
        exact ⟨_, _, rfl, by simpa [plcT] using HF.out⟩
#print axioms addPlaces_any
end Go.Proofs.Ytndebgcjhodkfai
