import Derived.Test.YtdebiiodhkcnkaaGreatW82
import Derived.Test.YtdebiiodhkcnkaaGreatW54
namespace Go.Proofs.YtdebiiodhkcnkaaGreat
open Go.RowKit
set_option linter.unusedSimpArgs false
set_option linter.unusedVariables false
set_option maxRecDepth 8000
theorem flat3_set (y : Bc) : ∀ (cs : List Bc) (i : Nat), i < cs.length → flat3 (cs.set i y) = (((flat3 cs).set (i * 3) (.string y.1.nm)).set (i * 3 + 1) (.string y.1.t.name)).set (i * 3 + 2) (.slice y.2.1 y.1.t.args.length y.2.2)
 | [], i, h => by simp at h
 | x :: r, 0, h => by simp [flat3, enc3]
 | x :: r, i + 1, h => by
  have ih := flat3_set y r i (by simpa using h)
  rw [List.set_cons_succ, flat3, flat3, ih]
  rw [show (i + 1) * 3 = i * 3 + 3 by omega, show i * 3 + 3 + 1 = (i * 3 + 1) + 3 by omega, show i * 3 + 3 + 2 = (i * 3 + 2) + 3 by omega]
  simp [enc3]
def put3 (w : World) (g i : Nat) (y : Bc) : World := (((w.setCell ⟨g, i * 3, none⟩ (.string y.1.nm)).setCell ⟨g, i * 3 + 1, none⟩ (.string y.1.t.name)).setCell ⟨g, i * 3 + 2, none⟩ (.slice y.2.1 y.1.t.args.length y.2.2))
theorem put3_block {w : World} {g i b : Nat} {y : Bc} (h : b ≠ g) : (put3 w g i y).heap[b]? = w.heap[b]? := by
 unfold put3
 rw [Below.heap_setCell _ _ _ _ (by simpa using h), Below.heap_setCell _ _ _ _ (by simpa using h), Below.heap_setCell _ _ _ _ (by simpa using h)]
theorem put3_size {w : World} {g i : Nat} {y : Bc} : (put3 w g i y).heap.size = w.heap.size := by simp [put3, World.setCell]
theorem put3_below {w0 w : World} {B g i : Nat} {y : Bc} (h : Below B w0 w) (hg : B ≤ g) : Below B w0 (put3 w g i y) := ((h.setCell (by exact hg) _).setCell (by exact hg) _).setCell (by exact hg) _
theorem Sl.put3 {w : World} {N g n cap i : Nat} {Y : Nat → Prop} {a : Option Addr} {l : List Tm} {y : Bc} (h : Sl w (fun b => Y b ∨ (N ≤ b ∧ some b ≠ (Value.slice (some ⟨g, 0, none⟩) n cap).ownBlock)) a l) (hY : ∀ b, Y b → b < N) (hg : N ≤ g) : Sl (put3 w g i y) (fun b => Y b ∨ (N ≤ b ∧ some b ≠ (Value.slice (some ⟨g, 0, none⟩) n cap).ownBlock)) a l :=
 h.kept fun b hb => put3_block (by
  rcases hb with hb | hb
  ·have := hY b hb; omega
  ·intro e; exact hb.2 (by simp [Value.ownBlock, e]))
theorem BRow.put {w : World} {N : Nat} {Y : Nat → Prop} {cs : List Bc} {g n cap : Nat} (h : BRow w N Y (.slice (some ⟨g, 0, none⟩) n cap) cs) (hY : ∀ b, Y b → b < N) (i : Nat) (hi : i < cs.length) (y : Bc) (hy : Sl w (fun b => Y b ∨ (N ≤ b ∧ some b ≠ (Value.slice (some ⟨g, 0, none⟩) n cap).ownBlock)) y.2.1 y.1.t.args) : BRow (put3 w g i y) N Y (.slice (some ⟨g, 0, none⟩) n cap) (cs.set i y) := by
 have hNg : N ≤ g := (h.own.lt g rfl).1
 refine ⟨?_, fun x hx => ?_⟩
 ·rcases h.own.2 with ⟨e, _⟩ | ⟨g', cap', cur, e, hbase, hb, h1, h2, h3, h4⟩
  ·cases e
  ·simp at e
   obtain ⟨rfl, rfl, rfl⟩ := e
   have hB : Blk w g cur 82 := hb
   have hB' := ((hB.set (i * 3) (.string y.1.nm)).set (i * 3 + 1) (.string y.1.t.name)).set (i * 3 + 2) (.slice y.2.1 y.1.t.args.length y.2.2)
   refine ⟨flat3_length _, Or.inr ⟨g, cap, _, by simp, hbase, hB', by simpa using h1, h2, by simpa using h3, ?_⟩⟩
   rw [flat3_set y cs i hi, ← h4]
   simp [List.take_set]
 ·rcases List.mem_or_eq_of_mem_set hx with h1 | h1
  ·exact (h.row x h1).put3 hY hNg
  ·rw [h1]; exact hy.put3 hY hNg
theorem BRow.swap {w : World} {N : Nat} {Y : Nat → Prop} {A B : List Bc} {x y : Bc} {g n cap : Nat} (h : BRow w N Y (.slice (some ⟨g, 0, none⟩) n cap) ((A ++ [y]) ++ x :: B)) (hY : ∀ b, Y b → b < N) : BRow (put3 (put3 w g (A.length + 1) y) g A.length x) N Y (.slice (some ⟨g, 0, none⟩) n cap) (A ++ x :: y :: B) := by
 have hNg : N ≤ g := (h.own.lt g rfl).1
 have h1 := h.put hY (A.length + 1) (by simp) y (h.row y (by simp))
 have h2 := h1.put hY A.length (by simp) x ((h.row x (by simp)).put3 hY hNg)
 have e : (((A ++ [y]) ++ x :: B).set (A.length + 1) y).set A.length x = A ++ x :: y :: B := by
  rw [List.set_append_right _ _ (by simp)]
  simp [List.set_append_right]
 rw [e] at h2
 exact h2
def Weak (l : List Bc) : Prop := l.Pairwise fun a b => ltB b.1.nm a.1.nm = false
theorem weak_ins {A B : List Bc} {x : Bc} (hw : Weak (A ++ B)) (hB : ∀ b ∈ B, ltB x.1.nm b.1.nm = true) (hA : ∀ a ∈ A, ltB x.1.nm a.1.nm = false) : Weak (A ++ x :: B) := by
 obtain ⟨h1, h2, h3⟩ := List.pairwise_append.1 hw
 refine List.pairwise_append.2 ⟨h1, List.pairwise_cons.2 ⟨fun b hb => ltB_asymm (hB b hb), h2⟩, fun a ha b hb => ?_⟩
 rcases List.mem_cons.1 hb with rfl | hb
 ·exact hA a ha
 ·exact h3 a ha b hb
theorem weak_last {A B : List Bc} {a x : Bc} (hw : Weak (A ++ [a] ++ B)) (h : ltB x.1.nm a.1.nm = false) : ∀ y ∈ A ++ [a], ltB x.1.nm y.1.nm = false := fun y hy => by
 rcases List.mem_append.1 hy with hy | hy
 ·obtain ⟨h1, _⟩ := List.pairwise_append.1 hw
  exact ltB_ntrans h ((List.pairwise_append.1 h1).2.2 y hy a (by simp))
 ·have e : y = a := by simpa using hy
  rw [e]; exact h
theorem BRow.atk {w : World} {N : Nat} {Y : Nat → Prop} {P Q : List Bc} {z : Bc} {g n cap : Nat} (h : BRow w N Y (.slice (some ⟨g, 0, none⟩) n cap) (P ++ z :: Q)) :
  w.cell? ⟨g, P.length * 3, none⟩ = some (.string z.1.nm) ∧ w.cell? ⟨g, P.length * 3 + 1, none⟩ = some (.string z.1.t.name) ∧ w.cell? ⟨g, P.length * 3 + 2, none⟩ = some (.slice z.2.1 z.1.t.args.length z.2.2) ∧ ∀ j, w.frozen? ⟨g, j, none⟩ = false := by
 obtain ⟨g', cap', e, _, _, hc⟩ := owned_val h.own (by simp only [List.length_append, List.length_cons]; omega)
 simp at e
 obtain ⟨rfl, _, rfl⟩ := e
 have hf : ∀ j, w.frozen? ⟨g, j, none⟩ = false := by
  rcases h.own.2 with ⟨e, _⟩ | ⟨g', cap', cur, e, _, hb, _⟩
  ·cases e
  ·simp at e
   obtain ⟨rfl, _, rfl⟩ := e
   intro j
   simp [World.frozen?, hb]
 have hg : ∀ j, j < 3 → (flat3 (P ++ z :: Q))[P.length * 3 + j]? = (enc3 z)[j]? := fun j hj => by
  rw [flat3_get _ P.length (by simp) j hj]
  simp
 exact ⟨hc _ _ (by have h0 := hg 0 (by decide); rw [Nat.add_zero] at h0; rw [h0]; rfl), hc _ _ (by rw [hg 1 (by decide)]; rfl), hc _ _ (by rw [hg 2 (by decide)]; rfl), hf⟩
theorem ins_perm {A B cs : List Bc} {x : Bc} {l : List Bd} (h : A ++ B = cs) (hp : (cs.map (·.1) ++ [x.1]).Perm l) : ((A ++ x :: B).map (·.1)).Perm l := by
 refine List.Perm.trans ?_ hp
 have h1 : (A ++ x :: B).Perm (cs ++ [x]) := by
  rw [← h]
  exact List.perm_middle.trans (List.perm_append_singleton x (A ++ B)).symm
 simpa using h1.map (·.1)
def SoInv (w : World) (Y : Nat → Prop) (ls : List Bd) (u v : Value) (wr : World) : Prop :=
 ∃ (k : Nat) (cs : List Bc), v = .int .i64 (k : Int) ∧ k ≤ ls.length ∧ BRow wr w.heap.size Y u cs ∧ (cs.map (·.1)).Perm (ls.take k) ∧ Weak cs ∧ Below w.heap.size w wr
def SiInv (w : World) (Y : Nat → Prop) (cs : List Bc) (x : Bc) (g cap : Nat) (v : Value) (wr : World) : Prop :=
 ∃ (A B : List Bc), v = .int .i64 (A.length : Int) ∧ A ++ B = cs ∧ (∀ b ∈ B, ltB x.1.nm b.1.nm = true) ∧ BRow wr w.heap.size Y (.slice (some ⟨g, 0, none⟩) (cs.length + 1) cap) (A ++ x :: B) ∧ Below w.heap.size w wr
set_option maxHeartbeats 2000000 in
theorem sorted_any (ls : List Bd) (u : Value) (w : World) (X : Nat → Prop) (hu : BV w X u ls) (hn : ls.length ≤ 1000000) :
  Calls Tryz.prog 38 #[u] w fun e w' => ∃ (v : Value) (cs : List Bc), e = .returned v ∧ BRow w' w.heap.size (fun b => X b ∧ b < w.heap.size) v cs ∧ (cs.map (·.1)).Perm ls ∧ Weak cs ∧ Below w.heap.size w w' := by
 have HU := hide (hu.mono (Y := fun b => X b ∧ b < w.heap.size) fun b h1 h2 => ⟨h1, h2⟩)
 obtain ⟨a, c, rfl, hl, hu2⟩ := hu
 clear hu2
 go_enter Tryz.func38, Tryz.ntmps38
 go_wp2_with fail
 go_loopw [3, 4] (fun u v wr => SoInv w (fun b => X b ∧ b < w.heap.size) ls u v wr) (fun u v wr => ls.length - (intOf v).toNat)
 case atStart => exact ⟨0, [], rfl, Nat.zero_le _, BRow.start _ _ _, by simp, List.Pairwise.nil, Below.refl _ _⟩
 case round =>
  obtain ⟨k, cs, rfl, hk, hrow, hperm, hweak, hb⟩ := hrel
  have HROW := hide hrow
  have HP := hide hperm
  have HW := hide hweak
  have HB := hide hb
  clear hrow hperm hweak
  by_cases hlt : k < ls.length
  ·obtain ⟨b, o, a', c', rfl, d0, d1, d2, hs⟩ := (HU.out.later hb).get k hlt
   have hlt2 : (k : Int) < (ls.length : Int) := by omega
   have HS := hide hs
   have HP1 : Hid ((cs.map (·.1) ++ [ls[k]]).Perm (ls.take (k + 1))) := by
    unfold Hid
    rw [List.take_succ_eq_append_getElem hlt]
    exact HP.out.append_right _
   have hLC : cs.length ≤ 1000000 := by have := HP.out.length_eq; simp at this; omega
   clear hb hs
   generalize ls[k] = d at *
   obtain ⟨v2, w2, hrun, hB2, hg2⟩ := binds_append HROW.out HB.out.size (fun b h => h.2) (Below.refl wr.heap.size wr) (d, a', c') (HS.out.mono fun b h _ => Or.inl h) hLC wr.heap.size rfl
   obtain ⟨g, cap, rfl, hNg, hgl⟩ := hB2.own.form (by simp)
   have HRUN := hide hrun
   have HB2 := hide hB2
   have HBW : Hid (Below w.heap.size w w2) := (HB.out.alloc HB.out.size _).grown hg2 (by have := HB.out.size; simp; omega) (fun j hj => by have := (HROW.out.own.lt j hj).1; omega)
   have hlen2 : (cs ++ [(d, a', c')]).length = cs.length + 1 := by simp
   rw [hlen2] at HB2 HRUN
   clear hrun hB2 hg2
   have hgw : w.heap.size ≤ g := hNg
   go_wp2_with (at_builtin; refine wpList_append_eq rfl _ _ _ _ rfl rfl rfl HRUN.out ?_)
   go_loopw [5] (fun v wr => SiInv w (fun b => X b ∧ b < w.heap.size) cs (d, a', c') g cap v wr) (fun v wr => (intOf v).toNat)
   case atStart =>
    exact ⟨cs, [], by go_num, by simp, by simp, HB2.out, HBW.out⟩
   case round =>
    obtain ⟨A, B, rfl, hAB, hBx, hrow, hb⟩ := hrel
    have HROW3 := hide hrow
    have HB3 := hide hb
    have HBX := hide hBx
    have HAB := hide hAB
    have HLA : Hid (A.length + B.length = cs.length) := by have := congrArg List.length hAB; unfold Hid; simpa using this
    clear hBx hAB
    rcases List.eq_nil_or_concat A with rfl | ⟨A', y, hAe⟩
    ·clear hrow hb
     go_wp2_with fail
     go_quiet (fail)
     go_wp2_with fail
     go_roundw
     case rel => exact ⟨k + 1, [] ++ (d, a', c') :: B, by go_num, by omega, HROW3.out.below (below_drewN (Below.refl _ _) _), ins_perm HAB.out HP1.out, weak_ins (by rw [HAB.out]; exact HW.out) HBX.out (by simp), below_drewN HB3.out _⟩
     case measure => simp [intOf]; omega
    ·rw [List.concat_eq_append] at hAe
     subst hAe
     have hlen : (A' ++ [y]).length = A'.length + 1 := by simp
     have hm1 : A'.length + 1 < cs.length + 1 := by have := HLA.out; simp at this; omega
     have e1 : (A' ++ [y]) ++ (d, a', c') :: B = A' ++ y :: (d, a', c') :: B := by simp
     obtain ⟨x0, x1, x2, xf⟩ := hrow.atk
     rw [e1] at hrow
     obtain ⟨y0, y1, y2, _⟩ := hrow.atk
     simp only [List.length_append, List.length_cons, List.length_nil, Nat.zero_add] at x0 x1 x2 ⊢
     clear hrow hb hlen e1
     generalize hmA : A'.length = m at *
     have HMA := hide hmA
     clear hmA
     have hj0 : (0 : Int) ≤ (m : Int) := by omega
     have hw1 : IntKind.i64.wrap ((m : Int) + 1 - 1) = (m : Int) := by rw [IntKind.wrap_i64]; omega
     have hw2 : IntKind.i64.wrap (m : Int) = (m : Int) := by rw [IntKind.wrap_i64]; omega
     cases hlt3 : Op.bytesLess d.nm.toList y.1.nm.toList with
     | true =>
      have HLT := hide hlt3
      go_wp2_with fail
      go_quiet (fail)
      have HROW5 := hide (HROW3.out.below (below_drewN (Below.refl wr.heap.size wr) nq))
      have HB5 := hide (below_drewN HB3.out nq)
      have x0' : (wr.drewN nq).cell? ⟨g, (m + 1) * 3, none⟩ = some (.string d.nm) := x0
      have x1' : (wr.drewN nq).cell? ⟨g, (m + 1) * 3 + 1, none⟩ = some (.string d.t.name) := x1
      have x2' : (wr.drewN nq).cell? ⟨g, (m + 1) * 3 + 2, none⟩ = some (.slice a' d.t.args.length c') := x2
      have y0' : (wr.drewN nq).cell? ⟨g, m * 3, none⟩ = some (.string y.1.nm) := y0
      have y1' : (wr.drewN nq).cell? ⟨g, m * 3 + 1, none⟩ = some (.string y.1.t.name) := y1
      have y2' : (wr.drewN nq).cell? ⟨g, m * 3 + 2, none⟩ = some (.slice y.2.1 y.1.t.args.length y.2.2) := y2
      have xf' : ∀ j, (wr.drewN nq).frozen? ⟨g, j, none⟩ = false := xf
      have hg5 : g < (wr.drewN nq).heap.size := cell_lt x0'
      clear x0 x1 x2 y0 y1 y2 xf hlt3
      generalize wr.drewN nq = w5 at *
      go_wp2_with fail
      go_roundw
      case rel =>
       have hr := (HROW5.out.swap fun b h => h.2).below ((Below.refl _ _).alloc (Nat.le_refl _) (.cells #[.string d.nm, .string d.t.name, .slice a' d.t.args.length c'] 82))
       rw [HMA.out] at hr
       have hbb := (put3_below (i := m) (y := (d, a', c')) (put3_below (i := m + 1) (y := y) HB5.out hgw) hgw).alloc (by rw [put3_size, put3_size]; exact HB5.out.size) (.cells #[.string d.nm, .string d.t.name, .slice a' d.t.args.length c'] 82)
       simp only [put3] at hr hbb
       refine ⟨A', y :: B, by rw [HMA.out], by have := HAB.out; simpa using this, fun b hb => ?_, hr, hbb⟩
       rcases List.mem_cons.1 hb with rfl | hb
       ·exact HLT.out
       ·exact HBX.out b hb
      case measure => simp [intOf]
     | false =>
      have HLT := hide hlt3
      go_wp2_with fail
      go_quiet (fail)
      go_wp2_with fail
      go_roundw
      case rel => exact ⟨k + 1, (A' ++ [y]) ++ (d, a', c') :: B, by go_num, by omega, HROW3.out.below (below_drewN (Below.refl _ _) _), ins_perm HAB.out HP1.out, weak_ins (by rw [HAB.out]; exact HW.out) HBX.out (weak_last (by rw [HAB.out]; exact HW.out) HLT.out), below_drewN HB3.out _⟩
      case measure => simp [intOf]; omega
  ·go_wp2_with fail
   go_ret
   exact ⟨u3, cs, rfl, HROW.out, by have h := HP.out; rwa [List.take_of_length_le (by omega)] at h, HW.out, HB.out⟩
end Go.Proofs.YtdebiiodhkcnkaaGreat
