/- Walks: the places of a term, as the document says. -/
import Derived.Test.YthlgknglalcggaaPl
import Derived.Test.YthlgknglalcggaaMem
import Derived.Test.YthlgknglalcggaaW1
import Derived.Lib.Builder
namespace Go.Proofs.Ythlgknglalcggaa
open Go.RowKit
set_option linter.unusedSimpArgs false
set_option linter.unusedVariables false

theorem owns_le {w : World} {b b' e z n : Nat} {v : Value} {xs : List Value} (h : w.ownsRow b e z v n xs) (hb : b' ≤ b) : w.ownsRow b' e z v n xs := by
  obtain ⟨h1, h2⟩ := h
  exact ⟨h1, h2.imp id fun ⟨g, cap, cur, h3, h4, h5⟩ => ⟨g, cap, cur, h3, Nat.le_trans hb h4, h5⟩⟩

/-- A row of lists that is added to, and what stays where it was. -/
def OutAt (w0 : World) (N : Nat) (q0 : Value) (ps : List (List Int)) (q : Value) (xs : List Value) (wr : World) : Prop :=
  wr.ownsRow N 25 1 q ps.length xs ∧ RowP wr (fun b => N ≤ b ∧ some b ≠ q.ownBlock) ps xs ∧ w0.grownBy wr q0.ownBlock ∧ (∀ k, q.ownBlock = some k → q0.ownBlock = some k ∨ w0.heap.size ≤ k)

theorem PV.grownBy {w w' : World} {Z : Nat → Prop} {u : Value} {z : List Int} {r : Option Nat} (h : PV w Z u z) (hg : w.grownBy w' r) (hZ : ∀ b, Z b → some b ≠ r) : PV w' Z u z := by
  have h1 : PV w (fun b => Z b ∧ b < w.heap.size) u z := h.mono fun b h1 h2 => ⟨h1, h2⟩
  have h2 : PV w' (fun b => Z b ∧ b < w.heap.size) u z := h1.kept fun b hx => hg.block b hx.2 (hZ b hx.1)
  exact h2.mono fun b hx _ => hx.1

theorem OutAt.push {w0 wr w1 : World} {N : Nat} {q0 q : Value} {ps : List (List Int)} {xs : List Value} (h : OutAt w0 N q0 ps q xs wr) (hN : N ≤ wr.heap.size) (hb : Below wr.heap.size wr w1) {u : Value} {z : List Int} (hu : PV w1 (fun b => wr.heap.size ≤ b) u z) (hn : ps.length ≤ 1000000) (A : Nat) (hA : w1.heap.size = A) :
    ∃ q' w3, (Builtin.append_ #[30, 30] 30 #[q, .slice (some ⟨A, 0, none⟩) 1 1]).run Try.prog (w1.alloc (.cells #[u] 25)) = .ok q' w3 ∧ OutAt w0 N q0 (ps ++ [z]) q' (xs ++ [u]) w3 := by
  subst hA
  obtain ⟨i0, hi, hz0, hz1, hz2⟩ := info_parts Try.infoInts
  obtain ⟨hown, hrow, hgr, hat⟩ := h
  have hlt := hown.lt
  have hs1 := hb.size
  have hown1 : w1.ownsRow N 25 1 q ps.length xs := hown.kept (w' := w1) (row := none) ⟨hb.os, hb.tape, hb.output, hb.size, fun j hj _ => hb.block j hj⟩ (by rcases Option.eq_none_or_eq_some (Value.ownBlock q) with h | ⟨x, h⟩; exact Or.inl h; exact Or.inr (by rw [h]; simp))
  obtain ⟨g, cap, w3, hr, ho, hg, hga, hgl⟩ := run_append_lies (P := Try.prog) (w := w1.alloc (.cells #[u] 25)) 30 30 N 25 i0 _ 1 24 Try.underlying30 hi hz0 hz1 hz2 rfl (by decide) q ps.length xs (hown1.alloc _)
    ⟨w1.heap.size, 0, none⟩ 1 1 [u] rfl (cell_one_new _ _ _) (fun x hx => by simp at hx; subst hx; exact hu.one) (by decide) (by unfold maxLen; omega) (by omega) (by simp; omega) _ rfl
  have hgN : N ≤ g := by
    rcases hga with e | e
    · exact (hlt g e).1
    · simp at e; omega
  refine ⟨_, w3, hr, by simpa using ho, ?_, ?_, fun k hk => ?_⟩
  · refine RowP.append (hrow.imp fun u' z' hp => ?_) ?_
    · have h1 : PV wr (fun b => (N ≤ b ∧ some b ≠ q.ownBlock) ∧ b < wr.heap.size) u' z' := hp.mono fun b h1 h2 => ⟨h1, h2⟩
      have h2 : PV w3 (fun b => (N ≤ b ∧ some b ≠ q.ownBlock) ∧ b < wr.heap.size) u' z' := h1.kept fun b hx => by
        rw [hg.block b (by simp; omega) hx.1.2, Below.heap_alloc _ _ _ (by omega), hb.block b hx.2]
      refine h2.mono fun b hx _ => ⟨hx.1.1, fun e => ?_⟩
      simp [Value.ownBlock] at e
      rcases hga with e' | e'
      · exact hx.1.2 (by rw [e', e])
      · simp at e'; omega
    · refine ⟨u, [], rfl, ?_, rfl⟩
      have h1 : PV w1 (fun b => wr.heap.size ≤ b ∧ b < w1.heap.size) u z := hu.mono fun b h1 h2 => ⟨h1, h2⟩
      have h2 : PV w3 (fun b => wr.heap.size ≤ b ∧ b < w1.heap.size) u z := h1.kept fun b hx => by
        rw [hg.block b (by simp; omega) (fun e => by have := (hlt b e.symm).2; omega), Below.heap_alloc _ _ _ hx.2]
      refine h2.mono fun b hx _ => ⟨by omega, fun e => ?_⟩
      simp [Value.ownBlock] at e
      rcases hga with e' | e'
      · have := (hlt g e').2; omega
      · simp at e'; omega
  · exact grown_trans (grown_trans hgr (grown_of_below hb q.ownBlock) hat) (grown_trans (grown_of_below ((Below.refl _ _).alloc (Nat.le_refl _) (.cells #[u] 25)) q.ownBlock) hg (fun k hk => Or.inl hk)) hat
  · simp [Value.ownBlock] at hk
    subst hk
    rcases hga with e | e
    · exact hat _ e
    · right; simp at e; have := hgr.size; omega

/-- A number ahead of a list. -/
theorem ints_cons {W : World} {Z : Nat → Prop} {u : Value} {z : List Int} (h : PV W Z u z) (i : Int) (F : Nat) (hF : W.heap[F]? = some (.cells #[.int .i64 i] 3 (0, 0))) (hn : z.length ≤ 1000000) :
    ∃ q w2, (Builtin.append_ #[25, 25] 25 #[.slice (some ⟨F, 0, none⟩) 1 1, u]).run Try.prog W = .ok q w2 ∧ PV w2 (fun b => b = F ∨ W.heap.size ≤ b) q (i :: z) ∧ Below W.heap.size W w2 := by
  obtain ⟨i0, hi, hz0, hz1, hz2⟩ := info_parts Try.infoInt
  have hsrc := pv_src h
  rw [← hz1] at hsrc
  have hFl : F < W.heap.size := by
    apply Classical.byContradiction
    intro hn
    rw [Array.getElem?_eq_none (by omega)] at hF; cases hF
  have hFc : W.cell? ⟨F, 0, none⟩ = some (.int .i64 i) := by simp [World.cell?, hF]
  by_cases h0 : z = []
  · subst h0
    have hg := run_append_room_src (P := Try.prog) W 25 25 25 3 i0 Try.underlying25 hi F 0 1 1 u 0 [] hsrc (by omega) (by simp) (by simp)
    refine ⟨_, _, hg, ⟨_, _, rfl, by simp, Or.inr ⟨F, 0, rfl, Or.inl rfl, fun j hj => ?_⟩⟩, ?_⟩
    · simp at hj; subst hj; simpa [World.setCells] using hFc
    · simpa [World.setCells] using Below.refl W.heap.size W
  · have hzp := List.length_pos_iff.2 h0
    have hfc := run_firstCells_some (P := Try.prog) W.drew i0.size 1 ⟨F, 0, none⟩ 1 1 [.int .i64 i] (by rw [hz1]; rfl) (fun j v hj => by
      match j, hj with
      | 0, hj => simp at hj; subst hj; simpa [Addr.add] using hFc)
    have hg := run_append_grow_src (P := Try.prog) W 25 25 25 3 i0 (.int .i64 0) Try.underlying25 hi hz0 (some ⟨F, 0, none⟩) 1 1 [.int .i64 i] hfc u z.length _ hsrc (by omega) (by omega) (by rw [hz2]; exact growslice_fits (by omega) (by omega))
    have hge := grownCap_ge W (1 + z.length) 1 3
    have hcm := grownCap_le_maxLen W (1 + z.length) 1 3 (by unfold maxLen; omega)
    refine ⟨_, _, hg, ⟨some ⟨W.heap.size, 0, none⟩, grownCap W (1 + z.length) 1 3, by rw [List.length_cons, Nat.add_comm], ⟨by simp; omega, by simp; omega⟩, Or.inr ⟨W.heap.size, 0, rfl, Or.inr (Nat.le_refl _), fun j hj => ?_⟩⟩, ?_⟩
    · have hb := heap_alloc_new W.drew (.cells (([Value.int .i64 i] ++ z.map fun x => Value.int .i64 x).toArray ++ Builtin.zeroCells (Value.int .i64 0).cells (grownCap W (1 + z.length) 1 3 - (1 + z.length))) 3)
      have hb' : (W.drew.alloc (.cells (([Value.int .i64 i] ++ z.map fun x => Value.int .i64 x).toArray ++ Builtin.zeroCells (Value.int .i64 0).cells (grownCap W (1 + z.length) 1 3 - (1 + z.length))) 3)).heap[W.heap.size]? = _ := hb
      rw [Lib.cell_of_heap hb', Nat.zero_add, Array.getElem?_append_left (by simp at hj ⊢; omega)]
      simp at hj
      cases j with
      | zero => simp
      | succ j => simp
    · exact ((Below.refl W.heap.size W).drew).alloc (Nat.le_refl _) _

/-- How the rounds of one list go. -/
def InInv (w1 : World) (N : Nat) (q1 : Value) (ps : List (List Int)) (i : Nat) (ls : List (List Int)) (q j : Value) (wr : World) : Prop :=
  ∃ (k : Nat) (xs : List Value), k ≤ ls.length ∧ j = .int .i64 k ∧ OutAt w1 N q1 (ps ++ (ls.take k).map fun p => (i : Int) :: p) q xs wr

/-- How the rounds of the terms below go. -/
def OuInv (w0 : World) (N : Nat) (l : List Tm) (q i : Value) (wr : World) : Prop :=
  ∃ (k : Nat) (xs : List Value), k ≤ l.length ∧ i = .int .i64 k ∧ OutAt w0 N (.slice none 0 0) ([] :: plcL 0 (l.take k)) q xs wr

theorem OutAt.mono {w0 w1 wr : World} {N : Nat} {q0 q1 q : Value} {ps ps1 : List (List Int)} {xs xs1 : List Value} (h : OutAt w0 N q0 ps1 q1 xs1 w1) (h1 : OutAt w1 N q1 ps q xs wr) : OutAt w0 N q0 ps q xs wr := by
  refine ⟨h1.1, h1.2.1, grown_trans h.2.2.1 h1.2.2.1 h.2.2.2, fun k hk => ?_⟩
  rcases h1.2.2.2 k hk with e | e
  · exact h.2.2.2 k e
  · exact Or.inr (Nat.le_trans h.2.2.1.size e)

theorem OutAt.later {w0 w1 w2 : World} {N : Nat} {q0 q : Value} {ps : List (List Int)} {xs : List Value} (h : OutAt w0 N q0 ps q xs w1) (hb : Below w1.heap.size w1 w2) : OutAt w0 N q0 ps q xs w2 :=
  ⟨h.1.kept (w' := w2) (row := none) ⟨hb.os, hb.tape, hb.output, hb.size, fun j hj _ => hb.block j hj⟩ (by rcases Option.eq_none_or_eq_some (Value.ownBlock q) with h | ⟨x, h⟩; exact Or.inl h; exact Or.inr (by rw [h]; simp)),
   h.2.1.imp fun u z hp => hp.later hb, grown_trans h.2.2.1 (grown_of_below hb q.ownBlock) h.2.2.2, h.2.2.2⟩

theorem OutAt.here {w1 : World} {N : Nat} {q0 q : Value} {ps : List (List Int)} {xs : List Value} {w0 : World} (h : OutAt w0 N q0 ps q xs w1) : OutAt w1 N q ps q xs w1 := ⟨h.1, h.2.1, grown_of_below (Below.refl _ _) _, fun _ h => Or.inl h⟩

set_option maxRecDepth 8000 in
set_option maxHeartbeats 2000000 in
theorem placesOf_any (t : Tm) : ∀ (v : Value) (w : World) (X : Nat → Prop), TV w X v t → sizeL [t] ≤ 900000 →
    Calls Try.prog 13 #[v] w fun e w' => ∃ v' xs, e = .returned v' ∧ w'.ownsRow w.heap.size 25 1 v' (plcT t).length xs ∧ RowP w' (fun b => w.heap.size ≤ b ∧ some b ≠ v'.ownBlock) (plcT t) xs ∧ Below w.heap.size w w' := by
  induction t using Tm.ind with
  | h s l ih =>
    intro v w X0 hv0 hsm
    obtain ⟨X, hX, hv⟩ : ∃ X : Nat → Prop, (∀ b, X b → b < w.heap.size) ∧ TV w X v ⟨s, l⟩ := ⟨fun b => X0 b ∧ b < w.heap.size, fun _ h => h.2, hv0.mono fun b h1 h2 => ⟨h1, h2⟩⟩
    clear hv0
    obtain ⟨a, c, rfl, hs⟩ := hv
    have IH := hide ih
    clear ih
    have hl := hs.1
    have hz : sizeL [(⟨s, l⟩ : Tm)] = 1 + sizeL l := by simp [sizeL]
    rw [hz] at hsm
    clear hz
    go_enter Try.func13, Try.ntmps13
    go_wp2_with fail
    go_loopw [3, 4] (fun q i wr => OuInv (w.alloc (Obj.cells #[Value.string s, Value.slice a l.length c] 24)) (w.heap.size + 1) l q i wr) (fun q i wr => l.length - (intOf i).toNat)
    case atStart =>
      refine ⟨0, [.slice none 0 0], Nat.zero_le _, rfl, ⟨by simp [plcL], Or.inr ⟨w.heap.size + 1, 1, #[.slice none 0 0], by simp [plcL], Nat.le_refl _, ?_, by simp [plcL], by decide, by simp, by simp [plcL]⟩⟩, ⟨_, [], rfl, ⟨none, 0, rfl, by simp, Or.inl rfl⟩, by simp [plcL, RowP]⟩, grown_of_below ((Below.refl _ _).alloc (Nat.le_refl _) _) _, fun k hk => ?_⟩
      · have := heap_alloc_new (w.alloc (Obj.cells #[Value.string s, Value.slice a l.length c] 24)) (Obj.cells #[Value.slice none 0 0] 25)
        simpa using this
      · simp [Value.ownBlock] at hk; right; simp; omega
    case round =>
      obtain ⟨k, xs, hk, rfl, hout⟩ := hrel
      have HOUT := hide hout
      have K0 := hide ((Blk.new w #[.string s, .slice a l.length c] 24).grown hout.2.2.1 (by simp [Value.ownBlock]))
      have c1 : wr.cell? ⟨w.heap.size, 1, none⟩ = some (.slice a l.length c) := K0.out.cell 1
      have hszr : w.heap.size + 1 ≤ wr.heap.size := by have := hout.2.2.1.size; simpa using this
      have hbw : Below w.heap.size w wr := ((Below.refl w.heap.size w).alloc (Nat.le_refl _) (.cells #[.string s, .slice a l.length c] 24)).trans ⟨hout.2.2.1.os, hout.2.2.1.tape, hout.2.2.1.output, hout.2.2.1.size, fun j hj => hout.2.2.1.block j (by simp; omega) (by simp [Value.ownBlock])⟩
      have HBW := hide hbw
      clear hout
      by_cases hlt : k < l.length
      · obtain ⟨b, o, a', c', rfl, d0, d1, hx⟩ := hs.get hbw (fun _ _ h => h) k hlt
        have hst := sizeL_take l k hlt
        have hst2 := sizeL_take_le l (k + 1)
        have HT := hide (plcL_take l k hlt)
        have HX := hide hx
        have hszk : sizeL [l[k]] ≤ 900000 := by omega
        have hpl : (([] : List Int) :: plcL 0 (l.take k)).length + sizeL [l[k]] ≤ 1000000 := by simp [plcL_len]; omega
        clear hbw hx hst hst2
        go_wp2_with fail
        refine (IH.out _ (List.getElem_mem hlt) _ _ X (by exact HX.out) hszk).mono ?_
        rintro e w1 ⟨v1, ys, rfl, hown1, hrow1, hb1⟩
        have hlp : 0 < (plcT l[k]).length := by simp [plcT]
        obtain ⟨g1, cap1, rfl, hg1, hg1', hcel⟩ := owned_val hown1 hlp
        have hpd : ∀ p ∈ plcT l[k], p.length ≤ 1000000 := fun p hp => by
          unfold plcT at hp
          rcases List.mem_cons.1 hp with rfl | hp
          · simp
          · have h1 := plc_deep _ _ p hp
            generalize l[k] = tk at *
            obtain ⟨s', l'⟩ := tk
            have : sizeL [(⟨s', l'⟩ : Tm)] = 1 + sizeL l' := by simp [sizeL]
            simp only at h1
            omega
        have HPD := hide hpd
        have HROW1 := hide hrow1
        have HCEL := hide hcel
        have HB1 := hide hb1
        have HOUT1 := hide (HOUT.out.later hb1)
        have hls := plcT_len l[k]
        have HN1 : Hid (w.heap.size + 1 ≤ w1.heap.size) := Nat.le_trans hszr hb1.size
        have HGN : Hid (∀ b, wr.heap.size ≤ b → some b ≠ Value.ownBlock u3) := fun b hb e => by have := (HOUT.out.1.lt b e.symm).2; omega
        generalize hlse : plcT l[k] = ls at *
        have hpl' : (([] : List Int) :: plcL 0 (l.take k)).length + ls.length ≤ 1000000 := by omega
        generalize hn0 : wr.heap.size = n0 at *
        clear hown1 hrow1 hcel hb1 hlse hpd hls
        go_wp2_with fail
        go_loopw [3, 6] (fun q j wr2 => InInv w1 (w.heap.size + 1) u3 ([] :: plcL 0 (l.take k)) k ls q j wr2) (fun q j wr2 => ls.length - (intOf j).toNat)
        case atStart => exact ⟨0, _, Nat.zero_le _, rfl, by simpa using HOUT1.out.here⟩
        case round =>
          obtain ⟨m, xs2, hm, rfl, hout2⟩ := hrel
          have HO2 := hide hout2
          have hsz2 := hout2.2.2.1.size
          clear hout2
          by_cases hlm : m < ls.length
          · obtain ⟨u, hu1, hu2⟩ := HROW1.out.get m hlm
            have e1 : ∀ o, (wr.alloc o).cell? ⟨g1, m, none⟩ = some u := fun o => by
              have h1 := HCEL.out m u hu1
              have h2 := HO2.out.2.2.1.block g1 hg1' (HGN.out g1 hg1)
              have h3 : (wr.alloc o).heap[g1]? = w1.heap[g1]? := by rw [Below.heap_alloc _ _ _ (by omega), h2]
              simpa [World.cell?, h3] using h1
            have hu3 := PV.grownBy hu2 HO2.out.2.2.1 (fun b hb => HGN.out b hb.1)
            obtain ⟨q2, w2, hr2, hq2, hbl2⟩ := ints_cons (hu3.later ((Below.refl _ _).alloc (Nat.le_refl _) (.cells #[.int .i64 (k : Int)] 3))) (k : Int) wr.heap.size (by simpa using heap_alloc_new wr (.cells #[.int .i64 (k : Int)] 3)) (HPD.out _ (List.getElem_mem hlm))
            obtain ⟨aq, cq, rfl, -⟩ : ∃ aq cq, q2 = .slice aq (ls[m].length + 1) cq ∧ True := by obtain ⟨aq, cq, h, _⟩ := hq2; exact ⟨aq, cq, by simpa using h, trivial⟩
            have hbl3 : Below wr.heap.size wr w2 := ((Below.refl _ _).alloc (Nat.le_refl _) _).trans (hbl2.mono (by simp))
            have hnn : ((([] : List Int) :: plcL 0 (l.take k)) ++ (ls.take m).map fun p => (k : Int) :: p).length ≤ 1000000 := by
              rw [List.length_append, List.length_map, List.length_take]; omega
            obtain ⟨q3, w3, hr3, ho3⟩ := OutAt.push HO2.out (Nat.le_trans HN1.out hsz2) hbl3 (hq2.mono fun b hb _ => by simp at hb; omega) hnn w2.heap.size rfl
            have HR2 := hide hr2
            have HR3 := hide hr3
            have HO3 := hide ho3
            have HTM : Hid ((ls.take (m + 1)).map (fun p => (k : Int) :: p) = (ls.take m).map (fun p => (k : Int) :: p) ++ [(k : Int) :: ls[m]]) := by
              unfold Hid; rw [List.take_succ_eq_append_getElem hlm, List.map_append]; rfl
            clear hu2 hu1 hu3 hr2 hr3 ho3 hq2 hbl2 hbl3 hnn
            go_wp2_with first
              | (at_builtin; refine wpList_append_eq rfl _ _ _ _ rfl rfl rfl HR2.out ?_)
              | (at_builtin; refine wpList_append_eq rfl _ _ _ _ rfl rfl rfl HR3.out ?_)
            go_roundw
            case rel => exact ⟨m + 1, _, by omega, by go_num, by rw [HTM.out, ← List.append_assoc]; exact HO3.out⟩
            case measure => simp [intOf]; omega
          · have htk : ls.take m = ls := List.take_of_length_le (by omega)
            have h1 := HO2.out
            rw [htk, List.cons_append, ← HT.out] at h1
            have HF := hide (HOUT1.out.mono h1)
            clear h1
            go_wp2_with fail
            go_roundw
            case rel => exact ⟨k + 1, _, by omega, by go_num, HF.out⟩
            case measure => simp [intOf]; omega
      · have htk : l.take k = l := List.take_of_length_le (by omega)
        have ho := HOUT.out
        rw [htk] at ho
        have HF := hide ho
        clear ho
        go_wp2_with fail
        go_ret
        exact ⟨_, _, rfl, owns_le HF.out.1 (by omega), HF.out.2.1.imp fun u z hp => hp.mono fun b hb _ => ⟨by omega, hb.2⟩, HBW.out⟩
#print axioms OutAt.push
#print axioms ints_cons
#print axioms placesOf_any
end Go.Proofs.Ythlgknglalcggaa
