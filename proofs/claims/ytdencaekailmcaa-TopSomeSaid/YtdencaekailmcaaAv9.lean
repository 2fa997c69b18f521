/- Walks: the first term by a move (auto.firstBy). -/
import Derived.Test.YtdencaekailmcaaAv8
namespace Go.Proofs.Ytdencaekailmcaa
open Go.RowKit
set_option linter.unusedSimpArgs false
set_option linter.unusedVariables false
set_option maxRecDepth 8000

theorem cell_two_newF (w : World) (a b : Value) (T : Nat) : ∀ j u, ([a, b] : List Value)[j]? = some u → (w.alloc (.cells #[a, b] T)).cell? ((⟨w.heap.size, 0, none⟩ : Addr).add j) = some u :=
  World.news_of_block (cs := #[a, b]) (heap_alloc_new w _)
theorem argO_size {st : Fs} (h : OkF st) : ∀ {f : List Int} {l : List Tm}, argO st f = some l → f.length ≤ 4 → sizeL l ≤ 8000 := by
  have key : ∀ {f : List Int} {l : List Tm}, argO st f = some l → sizeL l ≤ 2000 * f.length := by
    intro f
    induction f with
    | nil => intro l e; simp [argO] at e; subst e; simp [sizeL]
    | cons s r ih =>
      intro l e
      rw [argO] at e
      cases h1 : atF st s with
      | none => rw [h1] at e; simp at e
      | some t =>
        cases h2 : argO st r with
        | none => rw [h1, h2] at e; simp at e
        | some q =>
          rw [h1, h2] at e
          simp at e
          subst e
          have h3 := ih h2
          have h4 := (h s t h1).sz
          have h5 := sizeL_append [t] q
          simp only [List.singleton_append] at h5
          rw [h5, List.length_cons]
          omega
  intro f l e hf
  have := key e
  omega
structure FbI (w : World) (G A : Nat) (mc : Array Value) (nm : ByteArray) (uv : Value) (l : List Tm) (xs : List Value) (wr : World) : Prop where
  row : Row wr (A + 3) 28 (fun b => b ≠ G ∧ b < w.heap.size) uv l xs
  bl : Below w.heap.size w wr
  ka : Blk wr A mc 50
  kr : Blk wr (A + 1) #[.string ⟨#[]⟩, .slice none 0 0, .int .i64 0, .string ⟨#[]⟩] 73
  out : Blk wr (A + 2) #[.string nm, uv] 28
theorem FbI.later {w w1 w2 : World} {G A : Nat} {mc : Array Value} {nm : ByteArray} {uv : Value} {l : List Tm} {xs : List Value} (h : FbI w G A mc nm uv l xs w1) (hb : Below w1.heap.size w1 w2) : FbI w G A mc nm uv l xs w2 :=
  ⟨h.row.below hb, h.bl.trans (hb.mono h.bl.size), h.ka.below hb h.ka.lt, h.kr.below hb h.kr.lt, h.out.below hb h.out.lt⟩
theorem fb_round {w wr : World} {G A : Nat} {mc : Array Value} {nm : ByteArray} {uv : Value} {l : List Tm} {xs : List Value} (h : FbI w G A mc nm uv l xs wr) (hA : A = w.heap.size) (hl : l.length ≤ 100000) {t : Tm} {a5 : Option Addr} {c5 : Nat} (hs5 : Sl wr (fun b => b ≠ G ∧ b < w.heap.size) a5 t.args) :
    ∃ g cap w3, (Builtin.append_ #[26, 26] 26 #[uv, .slice (some ⟨wr.heap.size, 0, none⟩) 1 1]).run Try.prog (wr.alloc (.cells #[.string t.name, .slice a5 t.args.length c5] 28)) = .ok (.slice (some ⟨g, 0, none⟩) (l.length + 1) cap) w3 ∧
      (w3.cell? ⟨A + 2, 1, none⟩ = some uv ∧ w3.frozen? ⟨A + 2, 1, none⟩ = false ∧ A + 2 < w3.heap.size) ∧ (∀ b, b < w.heap.size → w3.heap[b]? = wr.heap[b]? ∧ (w3.setCell ⟨A + 2, 1, none⟩ (.slice (some ⟨g, 0, none⟩) (l.length + 1) cap)).heap[b]? = wr.heap[b]?) ∧
      FbI w G A mc nm (.slice (some ⟨g, 0, none⟩) (l.length + 1) cap) (l ++ [t]) (xs ++ [.string t.name, .slice a5 t.args.length c5]) (w3.setCell ⟨A + 2, 1, none⟩ (.slice (some ⟨g, 0, none⟩) (l.length + 1) cap)) := by
  obtain ⟨i0, hi, hz0, hz1, hz2⟩ := info_parts Try.infoTerm
  have hlt := h.row.own.lt
  have hol := h.out.lt
  obtain ⟨g, cap, w3, hr3, ho, hg, hat, hgl⟩ := run_append_lies (P := Try.prog) (w := wr.alloc (.cells #[.string t.name, .slice a5 t.args.length c5] 28)) 26 26 (A + 3) 28 i0 _ 2 40 Try.underlying26 hi hz0 hz1 hz2 rfl (by decide) uv l.length xs (h.row.own.alloc _)
    ⟨wr.heap.size, 0, none⟩ 1 1 [.string t.name, .slice a5 t.args.length c5] rfl (cell_two_newF _ _ _ _) (fun y hy => by simp at hy; rcases hy with rfl | rfl <;> rfl) (by decide) (by unfold maxLen; omega) (by omega) (by simp; omega) _ rfl
  have hp := h.row.push (w1 := wr) (w3 := w3) (t := t) (by omega) (fun b h => by omega) (Below.refl _ _) ⟨a5, c5, rfl, hs5.mono fun b h _ => Or.inl h⟩ _ rfl ho hg hat
  have hne : ∀ j, j < A + 3 → some j ≠ uv.ownBlock := fun j hj e => by have := (hlt j e.symm).1; omega
  have hs3 := hg.size
  simp at hs3
  have k3 : ∀ b, b < A + 3 → w3.heap[b]? = wr.heap[b]? := fun b hb => by
    rw [hg.block b (by simp; omega) (hne b hb), Below.heap_alloc _ _ _ (by omega)]
  have o3 : Blk w3 (A + 2) #[.string nm, uv] 28 := (k3 _ (by omega)).trans h.out
  have k4 : ∀ b, b < A + 2 → (w3.setCell ⟨A + 2, 1, none⟩ (.slice (some ⟨g, 0, none⟩) (l.length + 1) cap)).heap[b]? = wr.heap[b]? := fun b hb => by
    rw [Below.heap_setCell _ _ _ _ (by simp; omega), k3 b (by omega)]
  refine ⟨g, cap, w3, hr3, ⟨o3.cell 1, o3.frozen 1, by omega⟩, fun b hb => ⟨k3 b (by omega), k4 b (by omega)⟩, ⟨hp.setCell (by omega) (fun h => by omega) _, ?_, (k4 _ (by omega)).trans h.ka, (k4 _ (by omega)).trans h.kr, o3.set 1 _⟩⟩
  have b3 : Below w.heap.size wr w3 := ((Below.refl _ wr).alloc (by have := h.bl.size; omega) _).grown hg (by have := h.bl.size; simp; omega) (fun j hj => by have := (hlt j hj).1; omega)
  exact (h.bl.trans b3).setCell (p := ⟨A + 2, 1, none⟩) (by simp; omega) _
/-- What firstBy tells. -/
def FbP (G : Nat) (x : Option Tm) (w : World) (e : Ending) (w' : World) : Prop := ∃ s a n c z u, e = .returned (fdA s a n c z u) ∧ FdIs w' (fun b => b ≠ G) x s a n c z u ∧ Below w.heap.size w w'
theorem byM_of {st : Fs} {m : Mv} {l : List Tm} (h : argO st m.frm = some l) : byM st m = if 2000 < 1 + sizeL l then none else some ⟨m.name, l⟩ := by unfold byM; rw [h]
theorem byM_no {st : Fs} {m : Mv} (h : argO st m.frm = none) : byM st m = none := by unfold byM; rw [h]
theorem sizeL_snoc (l : List Tm) (t : Tm) : sizeL (l ++ [t]) = sizeL l + sizeL [t] := sizeL_append l [t]

set_option maxHeartbeats 4000000 in
theorem firstBy_any (st : Fs) (n : Nat) (hn : st.length = n) (hok : OkF st) (m : Mv) (hm : OkMv (n : Int) m) (hn64 : n ≤ 64) (af : Option Addr) (cf : Nat) (G : Nat) (w : World) (X : Nat → Prop) (hp : PV w X (.slice af m.frm.length cf) m.frm) (hf : FsV w G st) :
    Calls Try.prog 49 #[.agg #[.string m.name, .slice af m.frm.length cf, .int .i64 m.to], .slice (some ⟨G, 0, none⟩) n n] w fun e w' => FbP G (byM st m) w e w' := by
  have hpl := hp.len.1
  have HF := hide hf
  have HP := hide hp
  have HM := hide hm
  have HOK := hide hok
  have HN := hide hn
  have hGl := hf.lt
  have W3 : Hid (FbI w G w.heap.size #[.string m.name, .slice af m.frm.length cf, .int .i64 m.to] m.name (.slice none 0 0) [] [] (((w.alloc (.cells #[.string m.name, .slice af m.frm.length cf, .int .i64 m.to] 50)).alloc (.cells #[.string ⟨#[]⟩, .slice none 0 0, .int .i64 0, .string ⟨#[]⟩] 73)).alloc (.cells #[.string m.name, .slice none 0 0] 28))) := by
    refine ⟨Row.start _ _ _ _, (((Below.refl _ _).alloc (Nat.le_refl _) _).alloc (by simp) _).alloc (by simp; omega) _, ((Blk.new w _ _).alloc _).alloc _, ?_, ?_⟩
    · have h := (Blk.new (w.alloc (.cells #[.string m.name, .slice af m.frm.length cf, .int .i64 m.to] 50)) #[.string ⟨#[]⟩, .slice none 0 0, .int .i64 0, .string ⟨#[]⟩] 73).alloc (.cells #[.string m.name, .slice none 0 0] 28)
      rw [World.size_alloc] at h
      exact h
    · have h := Blk.new ((w.alloc (.cells #[.string m.name, .slice af m.frm.length cf, .int .i64 m.to] 50)).alloc (.cells #[.string ⟨#[]⟩, .slice none 0 0, .int .i64 0, .string ⟨#[]⟩] 73)) #[.string m.name, .slice none 0 0] 28
      rw [World.size_alloc, World.size_alloc] at h
      exact h
  have c0 := ((Blk.new w #[.string m.name, .slice af m.frm.length cf, .int .i64 m.to] 50).alloc (.cells #[.string ⟨#[]⟩, .slice none 0 0, .int .i64 0, .string ⟨#[]⟩] 73)).cell 0
  have c1 := W3.out.ka.cell 1
  clear hf hp hm hok hn
  go_enter Try.func49, Try.ntmps49
  go_wp2_with fail
  generalize (((w.alloc (.cells #[.string m.name, .slice af m.frm.length cf, .int .i64 m.to] 50)).alloc (.cells #[.string ⟨#[]⟩, .slice none 0 0, .int .i64 0, .string ⟨#[]⟩] 73)).alloc (.cells #[.string m.name, .slice none 0 0] 28)) = w3 at *
  clear c0 c1
  have e2 : w.heap.size + 1 + 1 = w.heap.size + 2 := by omega
  try rw [e2]
  clear e2
  go_loopw [5, 15] (fun z i wr => ∃ (k : Nat) (l : List Tm) (uv : Value) (xs : List Value), k ≤ m.frm.length ∧ i = .int .i64 (k : Int) ∧ z = .int .i64 ((1 + sizeL l : Nat) : Int) ∧ argO st (m.frm.take k) = some l ∧ FbI w G w.heap.size #[.string m.name, .slice af m.frm.length cf, .int .i64 m.to] m.name uv l xs wr) (fun z i wr => m.frm.length - (intOf i).toNat)
  case atStart => exact ⟨0, [], .slice none 0 0, [], Nat.zero_le _, rfl, by simp [sizeL], rfl, W3.out⟩
  case round =>
    obtain ⟨k, l, uv, xs, hk, rfl, rfl, harg, hin⟩ := hrel
    have SET := hide hin
    have HARG := hide harg
    have HLL : Hid (l.length ≤ 4 ∧ sizeL l ≤ 8000) := by
      have h1 := (argO_ok HOK.out harg).1
      have h2 := HM.out.len
      simp at h1
      exact ⟨by omega, argO_size HOK.out harg (by simp; omega)⟩
    clear hin harg
    by_cases hlt : k < m.frm.length
    · have hki : (k : Int) < (m.frm.length : Int) := by omega
      obtain ⟨b, o, rfl, hb, hc⟩ := HP.out.at SET.out.bl k hlt
      have h9 := HM.out.frm m.frm[k] (List.getElem_mem hlt)
      obtain ⟨s, hs⟩ : ∃ s : Nat, m.frm[k] = (s : Int) := ⟨m.frm[k].toNat, by omega⟩
      have hsn : s < n := by omega
      have hsi : (s : Int) < (n : Int) := by omega
      have hsl : s < st.length := by rw [HN.out]; exact hsn
      obtain ⟨s1, a1, n1, c1, z1, u1, ⟨g0, g1, g2, g3⟩, gf, gis⟩ := ((HF.out.later SET.out.bl).get s hsl)
      have hat : atF st m.frm[k] = st[s] := by unfold atF; rw [hs, Int.toNat_natCast, List.getElem?_eq_getElem hsl]; rfl
      have HAT := hide hat
      have HTK := hide (argO_take (st := st) hlt)
      have HNO := hide (argO_none (st := st) hlt)
      rw [hs] at hc
      clear h9 hs hat
      have GIS := hide gis
      cases hst : st[s] with
      | none =>
        rw [hst] at gis
        obtain ⟨rfl, rfl, rfl, rfl, rfl, rfl⟩ := gis
        have HR : Hid (byM st m = none) := byM_no (HNO.out (by rw [HAT.out, hst]))
        clear hst
        have r0 := SET.out.kr.cell 0
        have r1 := SET.out.kr.cell 1
        have r2 := SET.out.kr.cell 2
        have r3 := SET.out.kr.cell 3
        have rf := SET.out.kr.frozen
        have rl := SET.out.kr.lt
        go_wp2_with fail
        refine bodyPost_ret (v := fdA ⟨#[]⟩ none 0 0 0 ⟨#[]⟩) (by simp [results, Try.results49, go_sem, World.cell?_setCell_same, World.cell?_setCell_other, r0, r1, r2, r3, rl, fdA]) rfl ?_
        rw [HR.out]
        exact ⟨_, _, _, _, _, _, rfl, ⟨rfl, rfl, rfl, rfl, rfl, rfl⟩, (((SET.out.bl.setCell (p := ⟨w.heap.size + 1, 0, none⟩) (by simp) _).setCell (p := ⟨w.heap.size + 1, 1, none⟩) (by simp) _).setCell (p := ⟨w.heap.size + 1, 2, none⟩) (by simp) _).setCell (p := ⟨w.heap.size + 1, 3, none⟩) (by simp) _⟩
      | some t =>
        rw [hst] at gis
        obtain ⟨rfl, rfl, rfl, rfl, hsl5⟩ := gis
        have hz0 : ((sizeL [t] : Int) == 0) = false := by have := size_posF t; simpa using (by omega : ¬ (sizeL [t] : Int) = 0)
        have hzt : sizeL [t] ≤ 2000 := (HOK.out m.frm[k] t (by rw [HAT.out, hst])).sz
        have HT1 : Hid (argO st (m.frm.take (k + 1)) = some (l ++ [t])) := by unfold Hid; rw [HTK.out, HARG.out, HAT.out, hst]
        have hsum : ((1 + sizeL l : Nat) : Int) + (sizeL [t] : Int) = ((1 + sizeL (l ++ [t]) : Nat) : Int) := by rw [sizeL_snoc]; omega
        have kd : Below wr.heap.size wr wr.drew := (Below.refl _ _).drew
        have GS : Hid (Sl w (fun b => b ≠ G ∧ b < w.heap.size) a1 t.args) := by
          obtain ⟨s2, a2, n2, c2, z2, u2, ⟨f0, f1, f2, f3⟩, _, fis⟩ := HF.out.get s hsl
          rw [hst] at fis
          obtain ⟨rfl, rfl, rfl, rfl, hsl6⟩ := fis
          have e1 := cell_below3 SET.out.bl f1
          rw [g1] at e1
          simp at e1
          obtain ⟨rfl, -⟩ := e1
          exact hsl6.mono fun b h1 h2 => ⟨h1, h2⟩
        obtain ⟨g, cap, w5, hap, ⟨hc5, hf5, hl5⟩, hk5, hset⟩ := fb_round (t := t) (c5 := c1) (SET.out.later kd) rfl (by have := HLL.out.1; omega) (GS.out.later (SET.out.bl.trans (kd.mono SET.out.bl.size)))
        have HAP := hide hap
        have HSET := hide hset
        have HK5 := hide hk5
        have ob : wr.drew.cell? ⟨w.heap.size + 2, 1, none⟩ = some uv := SET.out.out.cell 1
        have ob2 : (wr.drew.alloc (.cells #[.string t.name, .slice a1 t.args.length c1] 28)).cell? ⟨w.heap.size + 2, 1, none⟩ = some uv := (SET.out.later kd).out.alloc _ |>.cell 1
        have S0 : Hid (wr.drew.cell? ⟨G, s * 4, none⟩ = some (.string t.name) ∧ wr.drew.cell? ⟨G, s * 4 + 1, none⟩ = some (.slice a1 t.args.length c1)) := ⟨g0, g1⟩
        have KPS : Hid (∀ w' : World, w'.heap[G]? = wr.heap[G]? → w'.cell? ⟨G, s * 4, none⟩ = some (.string t.name) ∧ w'.cell? ⟨G, s * 4 + 1, none⟩ = some (.slice a1 t.args.length c1)) := fun w' h1 => ⟨(World.cell?_of_block (a := ⟨G, s * 4, none⟩) h1).trans S0.out.1, (World.cell?_of_block (a := ⟨G, s * 4 + 1, none⟩) h1).trans S0.out.2⟩
        have hGw : G < wr.heap.size := Nat.lt_of_lt_of_le hGl SET.out.bl.size
        have SA := hide (KPS.out (wr.drew.alloc (.cells #[.string t.name, .slice a1 t.args.length c1] 28)) (Below.heap_alloc wr.drew _ _ hGw))
        have SB := hide (KPS.out _ (HK5.out G hGl).1)
        have SC := hide (KPS.out _ (HK5.out G hGl).2)
        have HZT := hide hzt
        obtain ⟨zz, hzz⟩ : ∃ zz : Nat, zz = 1 + sizeL l := ⟨_, rfl⟩
        rw [← hzz] at hsum ⊢
        have HSUM := hide hsum
        have hzb : (zz : Int) + (sizeL [t] : Int) < 9000000000 := by have := HLL.out.2; omega
        clear hst hsum hap hset hk5 KPS HK5 hsl5 hzt hzz
        go_upto_region 9 with fail
        refine wp_region_held_drew (S := fun w' => w'.cell? ⟨G, s * 4, none⟩ = some (.string t.name) ∧ w'.cell? ⟨G, s * 4 + 1, none⟩ = some (.slice a1 t.args.length c1)) (by kernel_rfl) S0.out (fun hHeld => ?_)
        generalize wr.drew = wd at *
        refine wpAnyH_take (i := 0) (v := ?_) rfl (by kernel_rfl) (by kernel_rfl) (by kernel_rfl) (fun _ _ _ h => h) (Or.inl ⟨by rfl, ?_⟩) (by assumption) ?_
        rotate_left
        · intro w' hSw
          go_simp <;> with_reducible rfl
        try simp only [Act.put, List.setIfInBounds_toArray, List.set_cons_zero, List.set_cons_succ, List.getElem_toArray, List.getElem_cons_succ, List.getElem_cons_zero]
        refine wpAnyH_take (i := 2) (v := ?_) rfl (by kernel_rfl) (by kernel_rfl) (by kernel_rfl) (fun _ _ _ h => h) (Or.inl ⟨by rfl, ?_⟩) (by assumption) ?_
        rotate_left
        · intro w' hSw
          go_simp <;> with_reducible rfl
        try simp only [Act.put, List.setIfInBounds_toArray, List.set_cons_zero, List.set_cons_succ, List.getElem_toArray, List.getElem_cons_succ, List.getElem_cons_zero]
        refine wpAnyH_take (i := 3) (v := ?_) rfl (by kernel_rfl) (by kernel_rfl) (by kernel_rfl) (fun _ _ _ h => h) (Or.inl ⟨by rfl, ?_⟩) (by assumption) ?_
        rotate_left
        · intro w' hSw
          go_simp <;> with_reducible rfl
        try simp only [Act.put, List.setIfInBounds_toArray, List.set_cons_zero, List.set_cons_succ, List.getElem_toArray, List.getElem_cons_succ, List.getElem_cons_zero]
        refine wpAnyH_take (i := 4) (v := ?_) rfl (by kernel_rfl) (by kernel_rfl) (by kernel_rfl) (fun _ _ _ h => h) (Or.inl ⟨by rfl, ?_⟩) (by assumption) ?_
        rotate_left
        · intro w' hSw
          go_simp <;> with_reducible rfl
        try simp only [Act.put, List.setIfInBounds_toArray, List.set_cons_zero, List.set_cons_succ, List.getElem_toArray, List.getElem_cons_succ, List.getElem_cons_zero]
        refine wpAnyH_take (i := 5) (v := ?_) rfl (by kernel_rfl) (by kernel_rfl) (by kernel_rfl) (fun _ _ _ h => h) (Or.inl ⟨by rfl, ?_⟩) (by assumption) ?_
        rotate_left
        · intro w' hSw
          go_simp <;> with_reducible rfl
        try simp only [Act.put, List.setIfInBounds_toArray, List.set_cons_zero, List.set_cons_succ, List.getElem_toArray, List.getElem_cons_succ, List.getElem_cons_zero]
        refine wpAnyH_take (i := 6) (v := ?_) rfl (by kernel_rfl) (by kernel_rfl) (by kernel_rfl) (fun _ _ _ h => h) (Or.inl ⟨by rfl, ?_⟩) (by assumption) ?_
        rotate_left
        · intro w' hSw
          obtain ⟨x0, x1⟩ := hSw
          go_simp <;> with_reducible rfl
        try simp only [Act.put, List.setIfInBounds_toArray, List.set_cons_zero, List.set_cons_succ, List.getElem_toArray, List.getElem_cons_succ, List.getElem_cons_zero]
        refine wpAnyH_ready (rs := [1, 7]) (by kernel_rfl) (by simp) ?_
        refine AllReadyH.cons rfl (fun K hK => ?_) (AllReadyH.cons rfl (fun K hK => ?_) AllReadyH.nil)
        · go_simp
          refine hK.out _ _ (by exact S0.out) (fun hHeld => ?_)
          clear hK K
          try simp only [Act.put, List.setIfInBounds_toArray, List.set_cons_zero, List.set_cons_succ, List.getElem_toArray, List.getElem_cons_succ, List.getElem_cons_zero]
          refine wpAnyH_ready (rs := [7]) (by kernel_rfl) (by simp) ?_
          refine AllReadyH.cons rfl (fun K hK => ?_) AllReadyH.nil
          go_simp
          refine hK.out _ _ (by exact SA.out) (fun hHeld => ?_)
          clear hK K
          try simp only [Act.put, List.setIfInBounds_toArray, List.set_cons_zero, List.set_cons_succ, List.getElem_toArray, List.getElem_cons_succ, List.getElem_cons_zero]
          refine wpAnyH_ready (rs := [8]) (by kernel_rfl) (by simp) ?_
          refine AllReadyH.cons rfl (fun K hK => ?_) AllReadyH.nil
          refine step_append_eqM rfl _ _ _ _ rfl rfl rfl HAP.out ?_
          refine hK.out _ _ (by exact SB.out) (fun hHeld => ?_)
          clear hK K
          try simp only [Act.put, List.setIfInBounds_toArray, List.set_cons_zero, List.set_cons_succ, List.getElem_toArray, List.getElem_cons_succ, List.getElem_cons_zero]
          refine wpAnyH_take (i := 9) (v := ?_) rfl (by kernel_rfl) (by kernel_rfl) (by kernel_rfl) (fun _ _ _ h => h) (Or.inl ⟨by rfl, ?_⟩) (by assumption) ?_
          rotate_left
          · intro w' hSw
            go_simp <;> with_reducible rfl
          try simp only [Act.put, List.setIfInBounds_toArray, List.set_cons_zero, List.set_cons_succ, List.getElem_toArray, List.getElem_cons_succ, List.getElem_cons_zero]
          refine wpAnyH_ready (rs := [10]) (by kernel_rfl) (by simp) ?_
          refine AllReadyH.cons rfl (fun K hK => ?_) AllReadyH.nil
          go_simp
          refine hK.out _ _ (by exact SC.out) (fun hHeld => ?_)
          clear hK K
          try simp only [Act.put, List.setIfInBounds_toArray, List.set_cons_zero, List.set_cons_succ, List.getElem_toArray, List.getElem_cons_succ, List.getElem_cons_zero]
          refine wpAnyH_done (by kernel_rfl) ?_ _
          clear ob ob2 hc5 hf5 hl5
          go_wp2_with fail
          go_roundw
          case rel => exact ⟨k + 1, l ++ [t], _, _, by omega, by go_num, by rw [← HSUM.out]; first | done | rfl | go_num, HT1.out, HSET.out⟩
          case measure => simp [intOf]; omega
        · go_simp
          refine hK.out _ _ (by exact SA.out) (fun hHeld => ?_)
          clear hK K
          try simp only [Act.put, List.setIfInBounds_toArray, List.set_cons_zero, List.set_cons_succ, List.getElem_toArray, List.getElem_cons_succ, List.getElem_cons_zero]
          refine wpAnyH_ready (rs := [1]) (by kernel_rfl) (by simp) ?_
          refine AllReadyH.cons rfl (fun K hK => ?_) AllReadyH.nil
          go_simp
          refine hK.out _ _ (by exact SA.out) (fun hHeld => ?_)
          clear hK K
          try simp only [Act.put, List.setIfInBounds_toArray, List.set_cons_zero, List.set_cons_succ, List.getElem_toArray, List.getElem_cons_succ, List.getElem_cons_zero]
          refine wpAnyH_ready (rs := [8]) (by kernel_rfl) (by simp) ?_
          refine AllReadyH.cons rfl (fun K hK => ?_) AllReadyH.nil
          refine step_append_eqM rfl _ _ _ _ rfl rfl rfl HAP.out ?_
          refine hK.out _ _ (by exact SB.out) (fun hHeld => ?_)
          clear hK K
          try simp only [Act.put, List.setIfInBounds_toArray, List.set_cons_zero, List.set_cons_succ, List.getElem_toArray, List.getElem_cons_succ, List.getElem_cons_zero]
          refine wpAnyH_take (i := 9) (v := ?_) rfl (by kernel_rfl) (by kernel_rfl) (by kernel_rfl) (fun _ _ _ h => h) (Or.inl ⟨by rfl, ?_⟩) (by assumption) ?_
          rotate_left
          · intro w' hSw
            go_simp <;> with_reducible rfl
          try simp only [Act.put, List.setIfInBounds_toArray, List.set_cons_zero, List.set_cons_succ, List.getElem_toArray, List.getElem_cons_succ, List.getElem_cons_zero]
          refine wpAnyH_ready (rs := [10]) (by kernel_rfl) (by simp) ?_
          refine AllReadyH.cons rfl (fun K hK => ?_) AllReadyH.nil
          go_simp
          refine hK.out _ _ (by exact SC.out) (fun hHeld => ?_)
          clear hK K
          try simp only [Act.put, List.setIfInBounds_toArray, List.set_cons_zero, List.set_cons_succ, List.getElem_toArray, List.getElem_cons_succ, List.getElem_cons_zero]
          refine wpAnyH_done (by kernel_rfl) ?_ _
          clear ob ob2 hc5 hf5 hl5
          go_wp2_with fail
          go_roundw
          case rel => exact ⟨k + 1, l ++ [t], _, _, by omega, by go_num, by rw [← HSUM.out]; first | done | rfl | go_num, HT1.out, HSET.out⟩
          case measure => simp [intOf]; omega
    · have hki : ¬ (k : Int) < (m.frm.length : Int) := by omega
      have HAR : Hid (argO st m.frm = some l) := by have h := HARG.out; rw [List.take_of_length_le (by omega)] at h; exact h
      have HBY := hide (byM_of HAR.out)
      have r0 := SET.out.kr.cell 0
      have r1 := SET.out.kr.cell 1
      have r2 := SET.out.kr.cell 2
      have r3 := SET.out.kr.cell 3
      have rf := SET.out.kr.frozen
      have rl := SET.out.kr.lt
      by_cases hgt : 2000 < 1 + sizeL l
      · have hgi : (2000 : Int) < ((1 + sizeL l : Nat) : Int) := by omega
        have HR : Hid (byM st m = none) := by unfold Hid; rw [HBY.out, if_pos hgt]
        clear hgt
        generalize ((1 + sizeL l : Nat) : Int) = zz at *
        go_wp2_with fail
        refine bodyPost_ret (v := fdA ⟨#[]⟩ none 0 0 0 ⟨#[]⟩) (by simp [results, Try.results49, go_sem, World.cell?_setCell_same, World.cell?_setCell_other, r0, r1, r2, r3, rl, fdA]) rfl ?_
        rw [HR.out]
        exact ⟨_, _, _, _, _, _, rfl, ⟨rfl, rfl, rfl, rfl, rfl, rfl⟩, (((SET.out.bl.setCell (p := ⟨w.heap.size + 1, 0, none⟩) (by simp) _).setCell (p := ⟨w.heap.size + 1, 1, none⟩) (by simp) _).setCell (p := ⟨w.heap.size + 1, 2, none⟩) (by simp) _).setCell (p := ⟨w.heap.size + 1, 3, none⟩) (by simp) _⟩
      · have hgi : ¬ (2000 : Int) < ((1 + sizeL l : Nat) : Int) := by omega
        have HR : Hid (byM st m = some ⟨m.name, l⟩) := by unfold Hid; rw [HBY.out, if_neg hgt]
        have hok2 := byM_ok HOK.out HM.out HR.out
        have HLN : Hid ((txtL [(⟨m.name, l⟩ : Tm)]).length ≤ 1000000) := by have := txt_len2 hok2.err hok2.sz; unfold Hid; omega
        have HSZ : Hid (((1 + sizeL l : Nat) : Int) = ((sizeL [(⟨m.name, l⟩ : Tm)] : Nat) : Int)) := by unfold Hid; simp [sizeL]
        obtain ⟨ae, ce, rfl, hse⟩ := SET.out.row.sl
        have HSE := hide hse
        have kd : Below wr.heap.size wr wr.drew := (Below.refl _ _).drew
        have KO := SET.out.out
        have S0 : Hid (wr.drew.cell? ⟨w.heap.size + 2, 0, none⟩ = some (.string m.name) ∧ wr.drew.cell? ⟨w.heap.size + 2, 1, none⟩ = some (.slice ae l.length ce)) := ⟨KO.cell 0, KO.cell 1⟩
        have KPS : Hid (∀ w' : World, w'.heap[w.heap.size + 2]? = wr.heap[w.heap.size + 2]? → w'.cell? ⟨w.heap.size + 2, 0, none⟩ = some (.string m.name) ∧ w'.cell? ⟨w.heap.size + 2, 1, none⟩ = some (.slice ae l.length ce)) := fun w' h1 => ⟨(World.cell?_of_block (a := ⟨w.heap.size + 2, 0, none⟩) h1).trans S0.out.1, (World.cell?_of_block (a := ⟨w.heap.size + 2, 1, none⟩) h1).trans S0.out.2⟩
        have HKO : Hid (w.heap.size + 2 < wr.heap.size) := KO.lt
        clear hgt hok2 hse KO r0 r1 r2 r3 rf rl
        rw [HSZ.out] at hgi ⊢
        obtain ⟨zz, hzz⟩ : ∃ zz : Int, zz = ((sizeL [(⟨m.name, l⟩ : Tm)] : Nat) : Int) := ⟨_, rfl⟩
        rw [← hzz] at hgi ⊢
        have HZZ := hide hzz
        clear hzz HSZ
        go_upto_region 13 with fail
        refine wp_region_held_drew (S := fun w' => w'.cell? ⟨w.heap.size + 2, 0, none⟩ = some (.string m.name) ∧ w'.cell? ⟨w.heap.size + 2, 1, none⟩ = some (.slice ae l.length ce)) (by kernel_rfl) S0.out (fun hHeld => ?_)
        refine wpAnyH_take (i := 0) (v := ?_) rfl (by kernel_rfl) (by kernel_rfl) (by kernel_rfl) (fun _ _ _ h => h) (Or.inl ⟨by rfl, ?_⟩) (by assumption) ?_
        rotate_left
        · intro w' hSw
          obtain ⟨x0, x1⟩ := hSw
          go_simp <;> with_reducible rfl
        try simp only [Act.put, List.setIfInBounds_toArray, List.set_cons_zero, List.set_cons_succ, List.getElem_toArray, List.getElem_cons_succ, List.getElem_cons_zero]
        refine wpAnyH_take (i := 1) (v := ?_) rfl (by kernel_rfl) (by kernel_rfl) (by kernel_rfl) (fun _ _ _ h => h) (Or.inl ⟨by rfl, ?_⟩) (by assumption) ?_
        rotate_left
        · intro w' hSw
          go_simp <;> with_reducible rfl
        try simp only [Act.put, List.setIfInBounds_toArray, List.set_cons_zero, List.set_cons_succ, List.getElem_toArray, List.getElem_cons_succ, List.getElem_cons_zero]
        refine wpAnyH_take (i := 2) (v := ?_) rfl (by kernel_rfl) (by kernel_rfl) (by kernel_rfl) (fun _ _ _ h => h) (Or.inl ⟨by rfl, ?_⟩) (by assumption) ?_
        rotate_left
        · intro w' hSw
          obtain ⟨x0, x1⟩ := hSw
          go_simp <;> with_reducible rfl
        try simp only [Act.put, List.setIfInBounds_toArray, List.set_cons_zero, List.set_cons_succ, List.getElem_toArray, List.getElem_cons_succ, List.getElem_cons_zero]
        refine wpAnyH_ready (rs := [3]) (by kernel_rfl) (by simp) ?_
        refine AllReadyH.cons rfl (fun K hK => ?_) AllReadyH.nil
        go_simp
        go_at_call 57
        refine (ktext_any ⟨m.name, l⟩ _ _ (fun b => (b ≠ G ∧ b < w.heap.size) ∨ w.heap.size + 3 ≤ b) ⟨ae, ce, rfl, HSE.out.later kd⟩ HLN.out).mono ?_
        rintro e w6 ⟨rfl, hb6⟩
        have k6 : Below wr.heap.size wr w6 := kd.trans (hb6.mono kd.size)
        have SET6 := hide (SET.out.later k6)
        have SE6 := hide (HSE.out.later k6)
        clear hb6
        go_simp
        refine hK.out _ _ (by exact KPS.out _ (k6.block _ HKO.out)) (fun hHeld => ?_)
        clear hK K
        try simp only [Act.put, List.setIfInBounds_toArray, List.set_cons_zero, List.set_cons_succ, List.getElem_toArray, List.getElem_cons_succ, List.getElem_cons_zero]
        refine wpAnyH_take (i := 4) (v := ?_) rfl (by kernel_rfl) (by kernel_rfl) (by kernel_rfl) (fun _ _ _ h => h) (Or.inl ⟨by rfl, ?_⟩) (by assumption) ?_
        rotate_left
        · intro w' hSw
          go_simp <;> with_reducible rfl
        try simp only [Act.put, List.setIfInBounds_toArray, List.set_cons_zero, List.set_cons_succ, List.getElem_toArray, List.getElem_cons_succ, List.getElem_cons_zero]
        have r0 := SET6.out.kr.cell 0
        have r1 := SET6.out.kr.cell 1
        have r2 := SET6.out.kr.cell 2
        have r3 := SET6.out.kr.cell 3
        have rf := SET6.out.kr.frozen
        have rl := SET6.out.kr.lt
        have KS : Hid (∀ b, b ≠ w.heap.size + 1 → ((((w6.setCell ⟨w.heap.size + 1, 0, none⟩ (.string m.name)).setCell ⟨w.heap.size + 1, 1, none⟩ (.slice ae l.length ce)).setCell ⟨w.heap.size + 1, 2, none⟩ (.int .i64 zz)).setCell ⟨w.heap.size + 1, 3, none⟩ (.string ⟨(txtL [(⟨m.name, l⟩ : Tm)]).toArray⟩)).heap[b]? = w6.heap[b]?) := fun b hb => by rw [Below.heap_setCell _ _ _ _ (by simpa using hb), Below.heap_setCell _ _ _ _ (by simpa using hb), Below.heap_setCell _ _ _ _ (by simpa using hb), Below.heap_setCell _ _ _ _ (by simpa using hb)]
        refine wpAnyH_ready (rs := [5]) (by kernel_rfl) (by simp) ?_
        refine AllReadyH.cons rfl (fun K hK => ?_) AllReadyH.nil
        go_simp
        refine hK.out _ _ (by exact KPS.out _ ((KS.out _ (by omega)).trans (k6.block _ HKO.out))) (fun hHeld => ?_)
        clear hK K
        try simp only [Act.put, List.setIfInBounds_toArray, List.set_cons_zero, List.set_cons_succ, List.getElem_toArray, List.getElem_cons_succ, List.getElem_cons_zero]
        refine wpAnyH_done (by kernel_rfl) ?_ _
        go_wp2_with fail
        refine bodyPost_ret (v := fdA m.name ae l.length ce zz (txB ⟨m.name, l⟩)) (by simp [results, Try.results49, go_sem, World.cell?_setCell_same, World.cell?_setCell_other, r0, r1, r2, r3, rl, fdA, txB]) rfl ?_
        rw [HR.out]
        refine ⟨_, _, _, _, _, _, rfl, ⟨rfl, rfl, HZZ.out, rfl, (SE6.out.kept fun b hb => KS.out b (by omega)).mono fun b hb _ => by omega⟩, (((SET6.out.bl.setCell (p := ⟨w.heap.size + 1, 0, none⟩) (by simp) _).setCell (p := ⟨w.heap.size + 1, 1, none⟩) (by simp) _).setCell (p := ⟨w.heap.size + 1, 2, none⟩) (by simp) _).setCell (p := ⟨w.heap.size + 1, 3, none⟩) (by simp) _⟩
end Go.Proofs.Ytdencaekailmcaa
