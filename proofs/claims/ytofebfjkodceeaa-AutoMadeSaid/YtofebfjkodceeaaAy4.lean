import Derived.Test.YtofebfjkodceeaaSq
import Derived.Test.YtofebfjkodceeaaAy3
namespace Go.Proofs.Ytofebfjkodceeaa
open Go.RowKit Go.Shelf
attribute [local go_sem] Oper.semAt_some
set_option linter.unusedSimpArgs false
set_option linter.unusedVariables false
set_option maxRecDepth 8000
def TabK (w : World) (K : Nat) (a : Option Addr) (ms : List Mv) (L : List Sy) : Prop := ∀ (i : Nat) (h : i < L.length), ∃ b o ai ci, a = some ⟨b, o, none⟩ ∧ b ≠ K ∧ w.cell? ⟨b, o + i, none⟩ = some (.slice ai (grp ms L[i]).length ci) ∧ SlV w (fun b => b ≠ K) ai (grp ms L[i])
theorem slV_exK {w w' : World} {K : Nat} {a : Option Addr} {l : List Mv} (h : SlV w (fun b => b ≠ K) a l) (hx : ExQ (fun b => b = K) w w') : SlV w' (fun b => b ≠ K) a l := by
 refine ⟨h.1, h.2.imp id ?_⟩
 rintro ⟨b, o, e, hb, h1⟩
 refine ⟨b, o, e, hb, fun i hi => ?_⟩
 obtain ⟨h0, ⟨a', c', h2, h3⟩, h4⟩ := h1 i hi
 have kc : ∀ q v, w.cell? ⟨b, q, none⟩ = some v → w'.cell? ⟨b, q, none⟩ = some v := fun q v hc => (World.cell?_of_block (a := ⟨b, q, none⟩) (hx.block b (cell_ltA hc) hb)).trans hc
 refine ⟨kc _ _ h0, ⟨a', c', kc _ _ h2, ?_⟩, kc _ _ h4⟩
 exact ((h3.mono (Y := fun b => b ≠ K ∧ b < w.heap.size) fun b h5 h6 => ⟨h5, h6⟩).kept fun b hb => hx.block b hb.2 hb.1).mono fun _ hb _ => hb.1
theorem lv_exK {w w' : World} {K : Nat} {v : Value} {l : List Nat} (h : LV stV w (fun b => b ≠ K) v l) (hx : ExQ (fun b => b = K) w w') : LV stV w' (fun b => b ≠ K ∧ b < w.heap.size) v l :=
 (h.mono (Y := fun b => b ≠ K ∧ b < w.heap.size) fun b h5 h6 => ⟨h5, h6⟩).kept fun b hb => hx.block b hb.2 hb.1
def ClA (g : List Mv) (all : List Nat) (T : Nat → Nat → Bool) (l : List (List Nat)) : Prop := ∀ xs ∈ l, ∀ q, q < xs.length → ClT g all T xs q all
def ClB (ms : List Mv) (L : List Sy) (j : Nat) (all : List Nat) (T : Nat → Nat → Bool) : Prop := ∀ (i : Nat) (h : i < L.length), i < j → ClA (grp ms L[i]) all T (lsN all L[i].2)
structure PjA (ms g : List Mv) (la : Nat) (all : List Nat) (K Nw B : Nat) (ta tb sv : Value) (w W0 : World) (T : Nat → Nat → Bool) (P0 : Prop) (pre : List (List Nat)) (T1 : Nat → Nat → Bool) (z : Bool) (W : World) : Prop where
 kb : Blk W K (kdC ta tb sv T1) 119
 nb : Blk W Nw #[.bool z] 4
 rel : TlR ms la all T T1 z
 did : z = false → P0 ∧ ClA g all T pre
 old : ExQ (fun b => b = K) w W
 fr : ExQ (fun b => b = K ∨ b = Nw ∨ b = B) W0 W
def Pj (ms g : List Mv) (la : Nat) (all : List Nat) (K Nw B : Nat) (ta tb sv : Value) (w W0 : World) (T : Nat → Nat → Bool) (P0 : Prop) (pre : List (List Nat)) (W : World) : Prop := ∃ T1 z, PjA ms g la all K Nw B ta tb sv w W0 T P0 pre T1 z W
theorem Pj.kp {ms g : List Mv} {la : Nat} {all : List Nat} {K Nw B : Nat} {ta tb sv : Value} {w W0 : World} {T : Nat → Nat → Bool} {P0 : Prop} (hKB : K ≠ B) (hNB : Nw ≠ B) (hwB : w.heap.size ≤ B) (hS : LV stV w (fun b => b ≠ K) sv all) : KpL (Pj ms g la all K Nw B ta tb sv w W0 T P0) B sv all := by
 constructor
 ·rintro pre W W' ⟨T1, z, h⟩ hx
  refine ⟨T1, z, h.kb.exq hx hKB, h.nb.exq hx hNB, h.rel, h.did, ?_, h.fr.trans (hx.mono fun b hb _ => Or.inr (Or.inr hb))⟩
  exact h.old.transN hx fun b hb hl => by omega
 ·rintro pre W ⟨T1, z, h⟩
  exact (lv_exK hS h.old).mono fun b hb _ => by omega
def PrI (ms g : List Mv) (la : Nat) (all : List Nat) (K Nw : Nat) (ta tb sv : Value) (T : Nat → Nat → Bool) (P1 : Prop) (x : List Nat) (V : World) (q : Value) (wr : World) : Prop :=
 ∃ (p : Nat) (T1 : Nat → Nat → Bool) (z : Bool), p ≤ x.length ∧ q = .int .i64 (p : Int) ∧ Blk wr K (kdC ta tb sv T1) 119 ∧ Blk wr Nw #[.bool z] 4 ∧ TlR ms la all T T1 z ∧ (z = false → P1 ∧ ∀ p', p' < p → ClT g all T x p' all) ∧ ExQ (fun b => b = K ∨ b = Nw) V wr
structure PsC (w : World) (K P Nw : Nat) (ta tb sv : Value) (ms : List Mv) (la : Nat) (all : List Nat) (T : Nat → Nat → Bool) (L : List Sy) (j : Nat) (Ds : List Nat) (W : World) : Prop where
 ex : ∃ T1 z, Blk W K (kdC ta tb sv T1) 119 ∧ Blk W Nw #[.bool z] 4 ∧ TlR ms la all T T1 z ∧ (z = false → ClB ms L j all T)
 bP : Blk W P #[.pointer (some ⟨K, 0, none⟩)] 97
 old : ExQ (fun b => b = K) w W
 nd : Ds.Nodup
 mks : ∀ D ∈ Ds, Nw < D ∧ W.heap[D]? = some (.deferred (some []))
 lo : w.heap.size ≤ P ∧ P < Nw ∧ K < w.heap.size ∧ Nw < W.heap.size
theorem PsC.later {w : World} {K P Nw : Nat} {ta tb sv : Value} {ms : List Mv} {la : Nat} {all : List Nat} {T : Nat → Nat → Bool} {L : List Sy} {j : Nat} {Ds : List Nat} {W W' : World} (h : PsC w K P Nw ta tb sv ms la all T L j Ds W) (hb : Below W.heap.size W W') : PsC w K P Nw ta tb sv ms la all T L j Ds W' := by
 obtain ⟨T1, z, h1, h2, h3, h4⟩ := h.ex
 refine ⟨⟨T1, z, h1.below hb h1.lt, h2.below hb h2.lt, h3, h4⟩, h.bP.below hb h.bP.lt, h.old.trans (ExQ.ofBelow hb), h.nd, fun D hD => ⟨(h.mks D hD).1, (hb.block D ?_).trans (h.mks D hD).2⟩, h.lo.1, h.lo.2.1, h.lo.2.2.1, Nat.lt_of_lt_of_le h.lo.2.2.2 hb.size⟩
 apply Classical.byContradiction
 intro hn
 have := (h.mks D hD).2
 rw [Array.getElem?_eq_none (by omega)] at this
 cases this
abbrev Sl7 := Nat → Value
def PsI (w : World) (K P Nw : Nat) (ta sv : Value) (a : Option Addr) (c : Nat) (ms : List Mv) (la : Nat) (all : List Nat) (T : Nat → Nat → Bool) (L : List Sy) (a' : Act) (W : World) : Prop :=
 ∃ (j : Nat) (Ds : List Nat) (f : Sl7), a' = { tmps := #[.pointer (some ⟨K, 0, none⟩), .pointer (some ⟨P, 0, none⟩), .bool false, .pointer (some ⟨Nw, 0, none⟩), f 4, f 5, f 6, f 7, .pointer (some ⟨K, 0, none⟩), .pointer (some ⟨K, 0, none⟩), .pointer (some ⟨K, 0, none⟩), .pointer (some ⟨K, 1, none⟩), .slice a L.length c, .int .i64 (L.length : Int), .int .i64 (j : Int), f 15, f 16, f 17, f 18, f 19, f 20, f 21, f 22, f 23, f 24, f 25, f 26, f 27, f 28, f 29, f 30, f 31, f 32, f 33, f 34, f 35, f 36, f 37, f 38, f 39, f 40, f 41, f 42, f 43, f 44], defers := Ds.map mkD } ∧
  PsC w K P Nw ta (.slice a L.length c) sv ms la all T L j Ds W ∧ j ≤ L.length
def PsP (ms : List Mv) (la : Nat) (all : List Nat) (T : Nat → Nat → Bool) (L : List Sy) (K : Nat) (ta tb sv : Value) (w : World) (e : Ending) (w' : World) : Prop :=
 ∃ (z : Bool) (T1 : Nat → Nat → Bool), e = .returned (.bool z) ∧ TlR ms la all T T1 z ∧ (z = false → ClB ms L L.length all T) ∧ Blk w' K (kdC ta tb sv T1) 119 ∧ ExQ (fun b => b = K) w w'
set_option maxHeartbeats 8000000 in
theorem pass_any (ms : List Mv) (la n : Nat) (hn : n ≤ 3) (hms : MvsLs n ms) (all : List Nat) (hcl : ∀ m ∈ ms, ∀ xs : List Nat, xs.length = m.frm.length → (∀ x ∈ xs, x ∈ all) → endM ms m xs ∈ all) (h8 : ∀ x ∈ all, x < 8) (hal : all.length ≤ 64) (T : Nat → Nat → Bool) (K : Nat) (ta : Value) (a sa : Option Addr) (c cs : Nat) (L : List Sy) (hne : NeG ms L) (hLl : L.length ≤ 100000) (w : World)
  (hK : Blk w K (kdC ta (.slice a L.length c) (.slice sa all.length cs) T) 119) (hS : LV stV w (fun b => b ≠ K) (.slice sa all.length cs) all) (hT : TabK w K a ms L) :
  Calls Try.prog 75 #[.pointer (some ⟨K, 0, none⟩)] w fun e w' => PsP ms la all T L K ta (.slice a L.length c) (.slice sa all.length cs) w e w' := by
 have HMS := hide hms
 have HCL := hide hcl
 have H8 := hide h8
 have HNE := hide hne
 have HS := hide hS
 have HTT := hide hT
 have hKl := hK.lt
 have hAF := allocsX_facts [(.cells #[.pointer (some ⟨K, 0, none⟩)] 97 : Obj), (.cells #[.bool false] 4 : Obj)] w
 have eW : allocsX w [(.cells #[.pointer (some ⟨K, 0, none⟩)] 97 : Obj), (.cells #[.bool false] 4 : Obj)] = (w.alloc (.cells #[.pointer (some ⟨K, 0, none⟩)] 97)).alloc (.cells #[.bool false] 4) := rfl
 rw [eW] at hAF
 obtain ⟨hF1, hF2, hF3⟩ := hAF
 have CW : Hid (PsC w K w.heap.size (w.heap.size + 1) ta (.slice a L.length c) (.slice sa all.length cs) ms la all T L 0 [] ((w.alloc (.cells #[.pointer (some ⟨K, 0, none⟩)] 97)).alloc (.cells #[.bool false] 4))) := by
  have e0 : Blk ((w.alloc (.cells #[.pointer (some ⟨K, 0, none⟩)] 97)).alloc (.cells #[.bool false] 4)) w.heap.size #[.pointer (some ⟨K, 0, none⟩)] 97 := hF3 0 _ rfl
  have e1 : Blk ((w.alloc (.cells #[.pointer (some ⟨K, 0, none⟩)] 97)).alloc (.cells #[.bool false] 4)) (w.heap.size + 1) #[.bool false] 4 := hF3 1 _ rfl
  exact ⟨⟨T, false, hK.below hF1 hKl, e1, TlR.refl _ _ _ _, fun _ i hi h => absurd h (by omega)⟩, e0, ExQ.ofBelow hF1, List.nodup_nil, (fun D hD => by cases hD), Nat.le_refl _, by omega, hKl, e1.lt⟩
 have p0 : ((w.alloc (.cells #[.pointer (some ⟨K, 0, none⟩)] 97)).alloc (.cells #[.bool false] 4)).cell? ⟨w.heap.size, 0, none⟩ = some (.pointer (some ⟨K, 0, none⟩)) := CW.out.bP.cell 0
 have k1 : ((w.alloc (.cells #[.pointer (some ⟨K, 0, none⟩)] 97)).alloc (.cells #[.bool false] 4)).cell? ⟨K, 1, none⟩ = some (.slice a L.length c) := (hK.below hF1 hKl).cell 1
 clear hF1 hF2 hF3 eW hK hS hT hms hcl h8 hne
 refine (callsIn_wide (n := 9)).1 ?_
 refine callsIn_of_wp_marks Try.func75 rfl trivial ?_ rfl
 simp only [Try.ntmps75, List.size_toArray, List.length_cons, List.length_nil, Nat.reduceAdd, Nat.reduceSub, Array.replicate_succ, Array.replicate_zero, List.push_toArray, List.append_toArray, List.nil_append, List.cons_append]
 gi_wp2
 generalize (w.alloc (.cells #[.pointer (some ⟨K, 0, none⟩)] 97)).alloc (.cells #[.bool false] 4) = w2 at *
 obtain ⟨P, hP⟩ : ∃ P, P = w.heap.size := ⟨_, rfl⟩
 obtain ⟨Nw, hNw⟩ : ∃ Nw, Nw = w.heap.size + 1 := ⟨_, rfl⟩
 rw [← hNw]
 have C2 : Hid (PsC w K P Nw ta (.slice a L.length c) (.slice sa all.length cs) ms la all T L 0 [] w2) := by rw [hP, hNw]; exact CW.out
 conv =>
  pattern (Value.pointer (some ⟨w.heap.size, 0, none⟩))
  rw [← hP]
 clear hP hNw CW p0 k1
 refine wpIn_loop (PsI w K P Nw ta (.slice sa all.length cs) a c ms la all T L) (fun a' _ => L.length - (intOf (a'.tmps.getD 14 undef)).toNat) ?_ ?_
 ·exact ⟨0, [], fun _ => undef, rfl, C2.out, Nat.zero_le _⟩
 clear C2 w2
 rintro _ wk ⟨j, Ds, f, rfl, hC, hj⟩
 have HC := hide hC
 obtain ⟨T1, z1, hkb, hnb, hrel, hcb⟩ := hC.ex
 have HKB := hide hkb
 have HNB := hide hnb
 have HREL := hide hrel
 have HCB := hide hcb
 have hlo := hC.lo
 clear hkb hnb hrel hcb
 by_cases hjl : j < L.length
 case neg =>
  have hji : ¬ (j : Int) < (L.length : Int) := by omega
  have n0 : wk.cell? ⟨Nw, 0, none⟩ = some (.bool z1) := HNB.out.cell 0
  have ej : j = L.length := by omega
  have HCF : Hid (z1 = false → ClB ms L L.length all T) := fun h => by have h2 := HCB.out h; rw [ej] at h2; exact h2
  clear hC hjl ej
  gi_wp2
  refine leaves_marks Ds wk HC.out.nd (fun D hD => (HC.out.mks D hD).2) fun W' hx => ?_
  refine ⟨_, results_tmp rfl _ _ _, z1, T1, rfl, HREL.out, HCF.out, HKB.out.exq hx (fun hm => ?_), HC.out.old.transN hx (fun D hD hl => ?_)⟩
  ·have := (HC.out.mks K hm).1; omega
  ·have := (HC.out.mks D hD).1; omega
 case pos =>
 have hji : (j : Int) < (L.length : Int) := by omega
 obtain ⟨b, o, ai, ci, hae, hbK, hcell, hslv⟩ := HTT.out j hjl
 subst hae
 obtain ⟨g, hg⟩ : ∃ g, g = grp ms L[j] := ⟨_, rfl⟩
 obtain ⟨n0, hn0⟩ : ∃ n0, n0 = L[j].2 := ⟨_, rfl⟩
 rw [← hg] at hcell hslv
 obtain ⟨m0, hm0, hs0⟩ := HNE.out L[j] (List.getElem_mem hjl)
 have HM0 : Hid (m0 ∈ ms ∧ m0.frm.length = n0 ∧ g = grp ms (m0.name, m0.frm.length)) := ⟨hm0, by rw [hn0, ← hs0]; rfl, by rw [hg, ← hs0]; rfl⟩
 have HGM : Hid (∀ m ∈ g, m ∈ ms ∧ m.frm.length = n0) := fun m hm => by
  rw [hg] at hm
  unfold grp at hm
  obtain ⟨h1, h2⟩ := List.mem_filter.1 hm
  rw [Bool.and_eq_true, decide_eq_true_eq, decide_eq_true_eq] at h2
  exact ⟨h1, by rw [hn0]; exact h2.2⟩
 have hg0 : 0 < g.length := by
  have : m0 ∈ g := by rw [hg, ← hs0]; unfold grp symM; exact List.mem_filter.2 ⟨hm0, by simp⟩
  exact List.length_pos_of_mem this
 have HN0 : Hid (n0 ≤ 4) := by have := (HMS.out m0 hm0).2.2; rw [HM0.out.2.1] at this; exact this
 have HCJ : Hid (ClB ms L j all T → ClA g all T (lsN all n0) → ClB ms L (j + 1) all T) := fun h1 h2 i hi hij => by
  by_cases e : i = j
  ·subst e
   rw [← hg, ← hn0]
   exact h2
  ·exact h1 i hi (by omega)
 clear hg hn0 hm0 hs0
 have hcell2 : wk.cell? ⟨b, o + j, none⟩ = some (.slice ai g.length ci) := (World.cell?_of_block (a := ⟨b, o + j, none⟩) (hC.old.block b (cell_ltA hcell) hbK)).trans hcell
 have HSL := hide hslv
 clear hcell hslv hC
 have BM := hide (one1 wk (.cells #[.slice ai g.length ci] 23))
 have KM : Hid (Blk (wk.alloc (.cells #[.slice ai g.length ci] 23)) wk.heap.size #[.slice ai g.length ci] 23) := Blk.new _ _ _
 refine wpIn_wide.2 ?_
 go_upto_region 5 with fail
 generalize (wk.alloc (.cells #[.slice ai g.length ci] 23)) = wM at *
 obtain ⟨M, hM⟩ : ∃ M, M = wk.heap.size := ⟨_, rfl⟩
 rw [← hM] at KM ⊢
 have HMN : Hid (Nw < M) := by unfold Hid; omega
 clear hcell2
 have CM := hide (HC.out.later BM.out)
 have KBM := hide (HKB.out.below BM.out HKB.out.lt)
 have NBM := hide (HNB.out.below BM.out HNB.out.lt)
 clear hM BM HC HKB HNB
 have SM := hide (slV_exK HSL.out CM.out.old)
 obtain ⟨b1, o1, af, cf, hae, hb1, x0, x1, x2, hpv⟩ := SM.out.get (Below.refl wM.heap.size wM) 0 hg0
 subst hae
 simp only [Nat.zero_mul, Nat.add_zero] at x0 x1 x2
 have hgl : (0 : Int) < (g.length : Int) := by omega
 have hpl := hpv.len.1
 have hfl : g[0].frm.length = n0 := (HGM.out _ (List.getElem_mem hg0)).2
 rw [hfl] at x1 hpv hpl
 have kd : Below wM.heap.size wM wM.drew := (Below.refl _ _).drew
 have KP : Hid (∀ w', Below wM.heap.size wM w' → w'.cell? ⟨P, 0, none⟩ = some (.pointer (some ⟨K, 0, none⟩)) ∧ w'.cell? ⟨K, 2, none⟩ = some (.slice sa all.length cs) ∧ w'.cell? ⟨M, 0, none⟩ = some (.slice (some ⟨b1, o1, none⟩) g.length ci) ∧ w'.cell? ⟨b1, o1 + 1, none⟩ = some (.slice af n0 cf)) := fun w' hb =>
  ⟨(CM.out.bP.below hb CM.out.bP.lt).cell 0, (KBM.out.below hb KBM.out.lt).cell 2, (KM.out.below hb KM.out.lt).cell 0, (hb.cell (p := ⟨b1, o1 + 1, none⟩) (cell_ltA x1)).trans x1⟩
 clear x0 x1 x2 hfl hpv
 refine wp_onlyN ?_
 refine wp_region_held_drew (S := Below wM.heap.size wM) (by kernel_rfl) kd (fun hHeld => ?_)
 have hzd : wM.drew.heap.size = wM.heap.size := rfl
 generalize wM.drew = wd at *
 refine tkq (v := ?_) 0 rfl ?_ ?_
 rotate_left
 ·intro w' hSw
  obtain ⟨x0, x1, x2, x3⟩ := KP.out w' hSw
  go_simp <;> with_reducible rfl
 try simp only [Act.put, sqA, sqB, sqC, sqD, sqE, sqF]
 refine tkq (v := ?_) 1 rfl ?_ ?_
 rotate_left
 ·intro w' hSw
  go_simp <;> with_reducible rfl
 try simp only [Act.put, sqA, sqB, sqC, sqD, sqE, sqF]
 refine tkq (v := ?_) 2 rfl ?_ ?_
 rotate_left
 ·intro w' hSw
  go_simp <;> with_reducible rfl
 try simp only [Act.put, sqA, sqB, sqC, sqD, sqE, sqF]
 refine tkq (v := ?_) 3 rfl ?_ ?_
 rotate_left
 ·intro w' hSw
  obtain ⟨x0, x1, x2, x3⟩ := KP.out w' hSw
  go_simp <;> with_reducible rfl
 try simp only [Act.put, sqA, sqB, sqC, sqD, sqE, sqF]
 refine tkq (v := ?_) 4 rfl ?_ ?_
 rotate_left
 ·intro w' hSw
  obtain ⟨x0, x1, x2, x3⟩ := KP.out w' hSw
  go_simp <;> with_reducible rfl
 try simp only [Act.put, sqA, sqB, sqC, sqD, sqE, sqF]
 refine tkq (v := ?_) 5 rfl ?_ ?_
 rotate_left
 ·intro w' hSw
  go_simp <;> with_reducible rfl
 try simp only [Act.put, sqA, sqB, sqC, sqD, sqE, sqF]
 refine tkq (v := ?_) 6 rfl ?_ ?_
 rotate_left
 ·intro w' hSw
  go_simp <;> with_reducible rfl
 try simp only [Act.put, sqA, sqB, sqC, sqD, sqE, sqF]
 refine tkq (v := ?_) 7 rfl ?_ ?_
 rotate_left
 ·intro w' hSw
  obtain ⟨x0, x1, x2, x3⟩ := KP.out w' hSw
  go_simp <;> with_reducible rfl
 try simp only [Act.put, sqA, sqB, sqC, sqD, sqE, sqF]
 refine tkq (v := ?_) 8 rfl ?_ ?_
 rotate_left
 ·intro w' hSw
  go_simp <;> with_reducible rfl
 try simp only [Act.put, sqA, sqB, sqC, sqD, sqE, sqF]
 refine rdq 9 rfl fun K hK => ?_
 go_simp
 go_at_call 74
 refine (lists_any _ _ _ ⟨_, _, _, rfl⟩ n0 rfl).mono ?_
 rintro e wl ⟨rfl, hwl⟩
 have HWL := hide hwl
 clear hwl
 have kl : Below wM.heap.size wM wl := by rw [HWL.out]; exact kd.trans (((one1 wd _).trans ((one1 _ _).mono (by simp))).mono (by omega))
 go_simp
 refine hK.out _ _ (by exact kl) (fun hHeld => ?_)
 clear hK K
 try simp only [Act.put, sqA, sqB, sqC, sqD, sqE, sqF]
 refine wpAnyH_done (by kernel_rfl) ?_ _
 simp only [OnlyN]
 obtain ⟨B1, hB1⟩ : ∃ B1, B1 = wd.heap.size := ⟨_, rfl⟩
 have X1 : Hid (Blk wl B1 #[.slice sa all.length cs] 95) := by rw [HWL.out, hB1]; exact (Blk.new wd _ _).alloc _
 have X2 : Hid (Blk wl (B1 + 1) #[.int .i64 (n0 : Int)] 3) := by
  rw [HWL.out, hB1]
  have := Blk.new (wd.alloc (.cells #[.slice sa all.length cs] 95)) #[.int .i64 (n0 : Int)] 3
  rw [World.size_alloc] at this
  exact this
 rw [hzd] at hB1
 rw [← hB1]
 have CL := hide (CM.out.later kl)
 have KBL := hide (KBM.out.below kl KBM.out.lt)
 have NBL := hide (NBM.out.below kl NBM.out.lt)
 have KML := hide (KM.out.below kl KM.out.lt)
 have HBN : Hid (Nw < B1) := by have := CM.out.lo; unfold Hid; omega
 clear HWL kd kl KM CM hB1 KP SM hzd KBM NBM
 go_step
 go_step
 refine (wpIn_wide (n := 9)).1 ?_
 gi_wp2
 refine wp_range (gf := 86) (lb := #[.pointer (some ⟨B1, 0, none⟩), .pointer (some ⟨B1 + 1, 0, none⟩)]) rfl (enters_of Try.func86 (by kernel_rfl) rfl) ?_
 intro r' hr1 hr2 hr3 hr4 hr5 hr6
 have hAF := allocsX_facts [(.deferred (some []) : Obj), (.loop r' : Obj)] wl
 have eW : allocsX wl [(.deferred (some []) : Obj), (.loop r' : Obj)] = (wl.alloc (.deferred (some []))).alloc (.loop r') := rfl
 rw [eW] at hAF
 obtain ⟨W0, hW0⟩ : ∃ W0, W0 = (wl.alloc (.deferred (some []))).alloc (.loop r') := ⟨_, rfl⟩
 rw [← hW0] at hAF ⊢
 clear eW hW0
 obtain ⟨hF1, hF2, hF3⟩ := hAF
 have hz0 : W0.heap.size = wl.heap.size + 2 := hF2
 have hD0 : W0.heap[wl.heap.size]? = some (.deferred (some [])) := hF3 0 _ rfl
 have hL0 : W0.heap[wl.heap.size + 1]? = some (.loop r') := hF3 1 _ rfl
 obtain ⟨D, hD⟩ : ∃ D, D = wl.heap.size := ⟨_, rfl⟩
 obtain ⟨lp, hlp⟩ : ∃ lp, lp = wl.heap.size + 1 := ⟨_, rfl⟩
 rw [← hlp] at hL0 ⊢
 rw [← hD] at hD0 ⊢
 have C0 := hide (CL.out.later hF1)
 have hlo := CL.out.lo
 have hMB : M < wl.heap.size := KML.out.lt
 have hMN := HMN.out
 have hB1l := X1.out.lt
 have hB2l := X2.out.lt
 have hBN := HBN.out
 have LW : Hid (∀ pre W, Pj ms g la all K Nw W0.heap.size ta (.slice (some ⟨b, o, none⟩) L.length c) (.slice sa all.length cs) w W0 T (ClB ms L j all T) pre W → W.heap[lp]? = some (.loop r')) := fun pre W ⟨T2, z2, h⟩ => (h.fr.block lp (by omega) (by omega)).trans hL0
 have XK : Hid (∀ pre W, Pj ms g la all K Nw W0.heap.size ta (.slice (some ⟨b, o, none⟩) L.length c) (.slice sa all.length cs) w W0 T (ClB ms L j all T) pre W → ∀ b cs T, b < wl.heap.size → b ≠ K → b ≠ Nw → Blk wl b cs T → Blk W b cs T) := fun pre W ⟨T2, z2, h⟩ b cs T hb hbA hbS hB => (h.fr.block b (by omega) (by
  rintro (e | e | e)
  ·exact hbA e
  ·exact hbS e
  ·omega)).trans ((hF1.block b hb).trans hB)
 have RH : RndL lp W0.heap.size n0 (Pj ms g la all K Nw W0.heap.size ta (.slice (some ⟨b, o, none⟩) L.length c) (.slice sa all.length cs) w W0 T (ClB ms L j all T)) (lsN all n0) := by
  have HR1 := hide hr1
  have HR2 := hide hr2
  have HR3 := hide hr3
  have HR4 := hide hr4
  have HR5 := hide hr5
  have HR6 := hide hr6
  clear hr1 hr2 hr3 hr4 hr5 hr6
  obtain ⟨rb, hrb⟩ : ∃ rb : Loop, rb = { r' with state := .busy } := ⟨_, rfl⟩
  intro m pre x W hpx hxl hJW hBx
  have hlW := LW.out _ _ hJW
  have hMW := XK.out _ _ hJW M _ _ hMB (by omega) (by omega) KML.out
  have hPW := XK.out _ _ hJW P _ _ (by omega) (by omega) (by omega) CL.out.bP
  obtain ⟨T2, z2, hR⟩ := hJW
  have hxm : x ∈ lsN all n0 := hpx.subset (by simp)
  have hxa := (lsN_mem.1 hxm).2
  have hBW := hBx.lt
  have hll : lp < W.heap.size := (Array.getElem?_eq_some_iff.1 hlW).1
  have hzV : (W.putObj lp (.loop rb)).heap.size = W.heap.size := by simp
  have kV : ∀ b, b ≠ lp → (W.putObj lp (.loop rb)).heap[b]? = W.heap[b]? := fun b hb => World.putObj_heap_other hb
  have HVO : Hid (ExQ (fun b => b = K) w (W.putObj lp (.loop rb))) := ⟨hR.old.os, hR.old.tape, hR.old.output, by have := hR.old.size; omega, fun b hb hne => (kV b (by have := C0.out.old.size; omega)).trans (hR.old.block b hb hne)⟩
  have HVI : Hid (PrI ms g la all K Nw ta (.slice (some ⟨b, o, none⟩) L.length c) (.slice sa all.length cs) T (ClB ms L j all T ∧ ClA g all T pre) x (W.putObj lp (.loop rb)) (.int .i64 0) (W.putObj lp (.loop rb))) := ⟨0, T2, z2, Nat.zero_le _, rfl, (kV K (by omega)).trans hR.kb, (kV Nw (by omega)).trans hR.nb, hR.rel, fun h => ⟨hR.did h, fun p' hp' => absurd hp' (by omega)⟩, ExQ.refl _ _⟩
  have HMV : Hid (Blk (W.putObj lp (.loop rb)) M #[.slice (some ⟨b1, o1, none⟩) g.length ci] 23) := (kV M (by omega)).trans hMW
  have HPV : Hid (Blk (W.putObj lp (.loop rb)) P #[.pointer (some ⟨K, 0, none⟩)] 97) := (kV P (by omega)).trans hPW
  have HBV : Hid (Blk (W.putObj lp (.loop rb)) W0.heap.size (x.map stV).toArray 71) := (kV _ (by omega)).trans hBx
  have HFIN : Hid (∀ w9 q, PrI ms g la all K Nw ta (.slice (some ⟨b, o, none⟩) L.length c) (.slice sa all.length cs) T (ClB ms L j all T ∧ ClA g all T pre) x (W.putObj lp (.loop rb)) q w9 → q = .int .i64 (x.length : Int) → w9.heap[lp]? = some (.loop rb) ∧ Pj ms g la all K Nw W0.heap.size ta (.slice (some ⟨b, o, none⟩) L.length c) (.slice sa all.length cs) w W0 T (ClB ms L j all T) (pre ++ [x]) (w9.putObj lp (.loop r')) ∧ (w9.putObj lp (.loop r')).heap[W0.heap.size]? = W.heap[W0.heap.size]? ∧ W.heap.size ≤ (w9.putObj lp (.loop r')).heap.size) := by
   rintro w9 q ⟨p, T3, z3, hp, rfl, q1, q2, q3, q4, q5⟩ hq
   have ep : p = x.length := by simp at hq; omega
   have k9 : ∀ b, b ≠ lp → (w9.putObj lp (.loop r')).heap[b]? = w9.heap[b]? := fun b hb => World.putObj_heap_other hb
   have hz9 := q5.size
   have all9 : ∀ b, b < W.heap.size → b ≠ K → b ≠ Nw → (w9.putObj lp (.loop r')).heap[b]? = W.heap[b]? := fun b hb h1 h2 => by
    by_cases e : b = lp
    ·subst e
     rw [World.putObj_heap_same (by omega), hlW]
    ·rw [k9 b e, q5.block b (by omega) (by omega), kV b e]
   refine ⟨(q5.block lp (by omega) (by omega)).trans (World.putObj_heap_same hll), ⟨T3, z3, (k9 K (by omega)).trans q1, (k9 Nw (by omega)).trans q2, q3, fun h => ⟨((q4 h).1).1, fun xs hxs t ht => ?_⟩, ?_, ?_⟩, all9 _ hBW (by omega) (by omega), by simp; omega⟩
   ·rcases List.mem_append.1 hxs with hm | hm
    ·exact ((q4 h).1).2 xs hm t ht
    ·simp at hm
     subst hm
     exact (q4 h).2 t (by omega)
   ·exact ⟨q5.os.trans hR.old.os, q5.tape.trans hR.old.tape, q5.output.trans hR.old.output, by have := hR.old.size; simp; omega, fun b hb hne => (all9 b (by have := hR.old.size; omega) hne (by omega)).trans (hR.old.block b hb hne)⟩
   ·exact ⟨q5.os.trans hR.fr.os, q5.tape.trans hR.fr.tape, q5.output.trans hR.fr.output, by have := hR.fr.size; simp; omega, fun b hb hne => (all9 b (by have := hR.fr.size; omega) (fun e => hne (Or.inl e)) (fun e => hne (Or.inr (Or.inl e)))).trans (hR.fr.block b hb hne)⟩
  have HLW := hide hlW
  have HXL := hide hxl
  have HXA := hide hxa
  have HKN : Hid (K ≠ Nw ∧ P ≠ K ∧ P ≠ Nw ∧ M ≠ K ∧ M ≠ Nw ∧ W0.heap.size ≠ K ∧ W0.heap.size ≠ Nw) := by unfold Hid; omega
  have HWN : Hid (w.heap.size ≤ Nw) := by unfold Hid; omega
  refine yield_on hrb HR5.out HR6.out HR4.out HR3.out HLW.out HR1.out HR2.out rfl ?_
  clear hrb hxa hxm hR hMW hPW hBx hpx hxl hBW hll hlp hD hz0 hF1 hF2 hF3 hD0 hL0 hlo LW XK hMB hMN hB1l hB2l hBN hzV kV
  have hf3 : (Fence.wide.inRound lp).fn 88 := trivial
  gi_wp2
  generalize (W.putObj lp (.loop rb)) = V at *
  gi_loopw [31] (fun q wr => PrI ms g la all K Nw ta (.slice (some ⟨b, o, none⟩) L.length c) (.slice sa all.length cs) T (ClB ms L j all T ∧ ClA g all T pre) x V q wr) (fun q wr => n0 - (intOf q).toNat)
  case atStart => exact HVI.out
  case round =>
   obtain ⟨p, T3, z3, hp, hq, q1, q2, q3, q4, q5⟩ := id hrel
   have HREL3 := hide hrel
   clear hrel
   subst hq
   have Q1 := hide q1
   have Q2 := hide q2
   have Q3 := hide q3
   have Q4 := hide q4
   have Q5 := hide q5
   have eP : wr.cell? ⟨P, 0, none⟩ = some (.pointer (some ⟨K, 0, none⟩)) := (HPV.out.exq q5 (by have := HKN.out; omega)).cell 0
   have eM : wr.cell? ⟨M, 0, none⟩ = some (.slice (some ⟨b1, o1, none⟩) g.length ci) := (HMV.out.exq q5 (by have := HKN.out; omega)).cell 0
   have HBR := hide (HBV.out.exq q5 (by have := HKN.out; omega))
   have HOR : Hid (ExQ (fun b => b = K) w wr) := HVO.out.transN q5 fun b hb hl => by have := HWN.out; omega
   clear q1 q2 q3 q4 q5
   by_cases hpl2 : p < n0
   ·have hpi : (p : Int) < (n0 : Int) := by omega
    have CT := tell_any ms g la n hn HMS.out all HCL.out H8.out hal m0 HM0.out.1 HM0.out.2.2 T3 x (by rw [HXL.out, HM0.out.2.1]) HXA.out p (by rw [HXL.out]; exact hpl2) K W0.heap.size ta (.slice (some ⟨b, o, none⟩) L.length c) sa (some ⟨b1, o1, none⟩) cs ci n0 HXL.out.symm wr Q1.out ((lv_exK HS.out HOR.out).mono fun b hb _ => hb.1) (slV_exK HSL.out HOR.out) (by have := HKN.out; omega) HBR.out
    have HCT := hide CT
    clear CT
    gi_wp2
    refine ⟨trivial, (fun h => by simp [Fence.wide] at h), ?_⟩
    refine (CallsIn.inRound lp (callsIn_wide.2 HCT.out)).mono ?_
    rintro e w4 ⟨bb, T4, rfl, hr4, hc4, hk4, hx4⟩
    have N4 : Hid (Blk w4 Nw #[.bool z3] 4) := Q2.out.exq hx4 (by have := HKN.out; omega)
    have n4 : w4.cell? ⟨Nw, 0, none⟩ = some (.bool z3) := N4.out.cell 0
    have nf : w4.frozen? ⟨Nw, 0, none⟩ = false := N4.out.frozen 0
    have nl := N4.out.lt
    have HNX : Hid (PrI ms g la all K Nw ta (.slice (some ⟨b, o, none⟩) L.length c) (.slice sa all.length cs) T (ClB ms L j all T ∧ ClA g all T pre) x V (.int .i64 ((p + 1 : Nat) : Int)) (w4.setCell ⟨Nw, 0, none⟩ (.bool (bb || z3)))) := by
     refine ⟨p + 1, T4, bb || z3, by have := HXL.out; omega, rfl, hk4.setOther _ _ (by have := HKN.out; omega), ?_, Q3.out.trans hr4, fun h => ?_, ?_⟩
     ·have := N4.out.set 0 (.bool (bb || z3))
      simpa using this
     ·rw [Bool.or_eq_false_iff] at h
      have e3 := Q3.out.no h.2
      refine ⟨(Q4.out h.2).1, fun p' hp' => ?_⟩
      by_cases e : p' = p
      ·subst e
       have := hc4 h.1
       rw [e3] at this
       exact this
      ·exact (Q4.out h.2).2 p' (by omega)
     ·exact (Q5.out.trans (hx4.mono fun b hb _ => Or.inl hb)).set (B := Nw) (Or.inr rfl) _ _
    clear hr4 hc4 hk4 hx4 HCT
    cases bb with
    | true =>
     gi_wp2
     go_roundw
     case rel => simpa using HNX.out
     case measure => simp [intOf]; omega
    | false =>
     gi_wp2
     go_roundw
     case rel => simpa using HNX.out
     case measure => simp [intOf]; omega
   ·have hpi : ¬ (p : Int) < (n0 : Int) := by omega
    obtain ⟨k1, k2, k3, k4⟩ := HFIN.out wr _ HREL3.out (by have := HXL.out; congr 1; omega)
    have HK1 := hide k1
    have HK2 := hide k2
    have HK3 := hide k3
    have HK4 := hide k4
    clear k1 k2 k3 k4
    gi_wp2
    exact ⟨HK1.out, HK2.out, HK3.out, by simpa using HK4.out⟩
 have HBX : Hid (∀ {pre W'}, Pj ms g la all K Nw W0.heap.size ta (.slice (some ⟨b, o, none⟩) L.length c) (.slice sa all.length cs) w W0 T (ClB ms L j all T) pre W' → Blk W' B1 #[.slice sa all.length cs] 95 ∧ Blk W' (B1 + 1) #[.int .i64 (n0 : Int)] 3) := fun {pre W'} h =>
  ⟨XK.out pre W' h B1 _ _ hB1l (by omega) (by omega) X1.out, XK.out pre W' h (B1 + 1) _ _ hB2l (by omega) (by omega) X2.out⟩
 refine (lists1_any (J := Pj ms g la all K Nw W0.heap.size ta (.slice (some ⟨b, o, none⟩) L.length c) (.slice sa all.length cs) w W0 T (ClB ms L j all T)) (lp := lp) (B := W0.heap.size) (n0 := n0) (ov := .slice sa all.length cs) (L := all) (by have := HN0.out; omega) (Pj.kp (by omega) (by omega) (by have := C0.out.old.size; omega) HS.out) RH B1 (B1 + 1) W0 rfl ⟨T1, z1, KBL.out.below hF1 KBL.out.lt, NBL.out.below hF1 NBL.out.lt, HREL.out, (fun h => ⟨HCB.out h, fun xs hx => by cases hx⟩), C0.out.old, ExQ.refl _ _⟩ HBX.out).mono ?_
 rintro e W ⟨⟨ve, rfl⟩, T2, z2, hR⟩
 have hlW := LW.out _ _ ⟨T2, z2, hR⟩
 refine ⟨⟨_, rfl⟩, hlW, ?_⟩
 have CX : Hid (PsC w K P Nw ta (.slice (some ⟨b, o, none⟩) L.length c) (.slice sa all.length cs) ms la all T L (j + 1) (D :: Ds) (W.putObj lp (.loop { r' with state := .exhausted }))) := by
  have hkp : ∀ b, b ≠ lp → (W.putObj lp (.loop { r' with state := .exhausted })).heap[b]? = W.heap[b]? := fun b hb => World.putObj_heap_other hb
  have hfr := hR.fr
  have hDl : ∀ E ∈ Ds, E < wl.heap.size := fun E hE => by
   apply Classical.byContradiction
   intro hn
   have := (CL.out.mks E hE).2
   rw [Array.getElem?_eq_none (by omega)] at this
   cases this
  refine ⟨⟨T2, z2, (hkp K (by omega)).trans hR.kb, (hkp Nw (by omega)).trans hR.nb, hR.rel, fun h => HCJ.out (hR.did h).1 (hR.did h).2⟩, (hkp P (by omega)).trans ((hfr.block P (by have := C0.out.bP.lt; omega) (by omega)).trans C0.out.bP), ⟨hR.old.os, hR.old.tape, hR.old.output, by have := hR.old.size; simpa using this, fun b hb hne => (hkp b (by have := C0.out.old.size; omega)).trans (hR.old.block b hb hne)⟩, List.nodup_cons.2 ⟨fun hm => by have := hDl D hm; omega, C0.out.nd⟩, fun E hE => ?_, hlo.1, hlo.2.1, hlo.2.2.1, by have := hfr.size; simp; omega⟩
  rcases List.mem_cons.1 hE with rfl | hE
  ·exact ⟨by omega, (hkp E (by omega)).trans ((hfr.block E (by omega) (by omega)).trans hD0)⟩
  ·have h1 := CL.out.mks E hE
   have h2 := hDl E hE
   exact ⟨h1.1, (hkp E (by omega)).trans ((hfr.block E (by omega) (by omega)).trans (C0.out.mks E hE).2)⟩
 generalize W.putObj lp (.loop { r' with state := .exhausted }) = Wx at *
 clear hR hlW LW XK HBX RH X1 X2 KML
 gi_wp2
 go_wp2_with fail
 refine ⟨⟨j + 1, D :: Ds, fun i => ([f 0, f 1, f 2, f 3, f 4, .pointer (some ⟨M, 0, none⟩), f 6, f 7, f 8, f 9, f 10, f 11, f 12, f 13, f 14, .bool true, .pointer (some ⟨b, o + j, none⟩), .slice (some ⟨b1, o1, none⟩) g.length ci, .pointer (some ⟨K, 0, none⟩), .pointer (some ⟨K, 0, none⟩), .pointer (some ⟨K, 2, none⟩), .slice sa all.length cs, .slice (some ⟨b1, o1, none⟩) g.length ci, .pointer (some ⟨b1, o1, none⟩), .pointer (some ⟨b1, o1 + 1, none⟩), .slice af n0 cf, .int .i64 (n0 : Int), .func (.func 86) #[] #[.pointer (some ⟨B1, 0, none⟩), .pointer (some ⟨B1 + 1, 0, none⟩)], f 28, f 29, f 30, f 31, f 32, f 33, f 34, f 35, f 36, f 37, f 38, f 39, f 40, f 41, f 42, .int .i64 ((j : Int) + 1), f 44]).getD i undef, ?_, CX.out, by omega⟩, ?_⟩
 ·simp [mkD, hD]
 ·simp [intOf]; omega
end Go.Proofs.Ytofebfjkodceeaa
