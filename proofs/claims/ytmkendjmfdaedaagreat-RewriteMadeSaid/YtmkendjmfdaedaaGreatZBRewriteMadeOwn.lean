/- Several texts in one. -/
import Derived.Test.YtmkendjmfdaedaaGreatZRewriteMadeOwn
import Derived.Deep.RegionHeld3
import Derived.Deep.RegionHeld
import Derived.Lib.Builder
import Derived.Deep.DeepCutAuto
import Derived.Deep.AppendLies
import Derived.Lib.AppendStr
import Derived.Deep.AppendSrc
import Derived.Test.YtmkendjmfdaedaaGreatShelf
import Derived.Ground.SlgnProg
import Derived.Shelf.SlicesE.Clone
namespace Go.Proofs.YtmkendjmfdaedaaGreat
open Go.RowKit
set_option linter.unusedSimpArgs false
set_option linter.unusedVariables false
set_option maxRecDepth 8000
theorem flat3_set (y : Bc) : ∀ (cs : List Bc) (i : Nat), i < cs.length → flat3 (cs.set i y) = (((flat3 cs).set (i * 3) (.string y.1.nm)).set (i * 3 + 1) (.string y.1.t.name)).set (i * 3 + 2) (.slice y.2.1 y.1.t.args.length y.2.2)
 | [], i, h => by simp at h
 | x :: r, 0, h => by simp [flat3, enc3]
 | x :: r, i + 1, h => by
  have ih := flat3_set y r i (by simpa using h)
  rw [List.set_cons_succ, flat3, flat3, ih]
  rw [show (i + 1) * 3 = i * 3 + 3 by omega, show i * 3 + 3 + 1 = (i * 3 + 1) + 3 by omega, show i * 3 + 3 + 2 = (i * 3 + 2) + 3 by omega]
  simp [enc3]
def put3 (w : World) (g i : Nat) (y : Bc) : World := (((w.setCell ⟨g, i * 3, none⟩ (.string y.1.nm)).setCell ⟨g, i * 3 + 1, none⟩ (.string y.1.t.name)).setCell ⟨g, i * 3 + 2, none⟩ (.slice y.2.1 y.1.t.args.length y.2.2))
theorem put3_block {w : World} {g i b : Nat} {y : Bc} (h : b ≠ g) : (put3 w g i y).heap[b]? = w.heap[b]? := by
 unfold put3
 rw [Below.heap_setCell _ _ _ _ (by simpa using h), Below.heap_setCell _ _ _ _ (by simpa using h), Below.heap_setCell _ _ _ _ (by simpa using h)]
theorem put3_size {w : World} {g i : Nat} {y : Bc} : (put3 w g i y).heap.size = w.heap.size := by simp [put3, World.setCell]
theorem put3_below {w0 w : World} {B g i : Nat} {y : Bc} (h : Below B w0 w) (hg : B ≤ g) : Below B w0 (put3 w g i y) := ((h.setCell (by exact hg) _).setCell (by exact hg) _).setCell (by exact hg) _
theorem Sl.put3 {w : World} {N g n cap i : Nat} {Y : Nat → Prop} {a : Option Addr} {l : List Tm} {y : Bc} (h : Sl w (fun b => Y b ∨ (N ≤ b ∧ some b ≠ (Value.slice (some ⟨g, 0, none⟩) n cap).ownBlock)) a l) (hY : ∀ b, Y b → b < N) (hg : N ≤ g) : Sl (put3 w g i y) (fun b => Y b ∨ (N ≤ b ∧ some b ≠ (Value.slice (some ⟨g, 0, none⟩) n cap).ownBlock)) a l :=
 h.kept fun b hb => put3_block (by
  rcases hb with hb | hb
  ·have := hY b hb; omega
  ·intro e; exact hb.2 (by simp [Value.ownBlock, e]))
theorem BRow.put {w : World} {N : Nat} {Y : Nat → Prop} {cs : List Bc} {g n cap : Nat} (h : BRow w N Y (.slice (some ⟨g, 0, none⟩) n cap) cs) (hY : ∀ b, Y b → b < N) (i : Nat) (hi : i < cs.length) (y : Bc) (hy : Sl w (fun b => Y b ∨ (N ≤ b ∧ some b ≠ (Value.slice (some ⟨g, 0, none⟩) n cap).ownBlock)) y.2.1 y.1.t.args) : BRow (put3 w g i y) N Y (.slice (some ⟨g, 0, none⟩) n cap) (cs.set i y) := by
 have hNg : N ≤ g := (h.own.lt g rfl).1
 refine ⟨?_, fun x hx => ?_⟩
 ·rcases h.own.2 with ⟨e, _⟩ | ⟨g', cap', cur, e, hbase, hb, h1, h2, h3, h4⟩
  ·cases e
  ·simp at e
   obtain ⟨rfl, rfl, rfl⟩ := e
   have hB : Blk w g cur 160 := hb
   have hB' := ((hB.set (i * 3) (.string y.1.nm)).set (i * 3 + 1) (.string y.1.t.name)).set (i * 3 + 2) (.slice y.2.1 y.1.t.args.length y.2.2)
   refine ⟨flat3_length _, Or.inr ⟨g, cap, _, by simp, hbase, hB', by simpa using h1, h2, by simpa using h3, ?_⟩⟩
   rw [flat3_set y cs i hi, ← h4]
   simp [List.take_set]
 ·rcases List.mem_or_eq_of_mem_set hx with h1 | h1
  ·exact (h.row x h1).put3 hY hNg
  ·rw [h1]; exact hy.put3 hY hNg
theorem BRow.swap {w : World} {N : Nat} {Y : Nat → Prop} {A B : List Bc} {x y : Bc} {g n cap : Nat} (h : BRow w N Y (.slice (some ⟨g, 0, none⟩) n cap) ((A ++ [y]) ++ x :: B)) (hY : ∀ b, Y b → b < N) : BRow (put3 (put3 w g (A.length + 1) y) g A.length x) N Y (.slice (some ⟨g, 0, none⟩) n cap) (A ++ x :: y :: B) := by
 have hNg : N ≤ g := (h.own.lt g rfl).1
 have h1 := h.put hY (A.length + 1) (by simp) y (h.row y (by simp))
 have h2 := h1.put hY A.length (by simp) x ((h.row x (by simp)).put3 hY hNg)
 have e : (((A ++ [y]) ++ x :: B).set (A.length + 1) y).set A.length x = A ++ x :: y :: B := by
  rw [List.set_append_right _ _ (by simp)]
  simp [List.set_append_right]
 rw [e] at h2
 exact h2
def Weak (l : List Bc) : Prop := l.Pairwise fun a b => ltB b.1.nm a.1.nm = false
theorem weak_ins {A B : List Bc} {x : Bc} (hw : Weak (A ++ B)) (hB : ∀ b ∈ B, ltB x.1.nm b.1.nm = true) (hA : ∀ a ∈ A, ltB x.1.nm a.1.nm = false) : Weak (A ++ x :: B) := by
 obtain ⟨h1, h2, h3⟩ := List.pairwise_append.1 hw
 refine List.pairwise_append.2 ⟨h1, List.pairwise_cons.2 ⟨fun b hb => ltB_asymm (hB b hb), h2⟩, fun a ha b hb => ?_⟩
 rcases List.mem_cons.1 hb with rfl | hb
 ·exact hA a ha
 ·exact h3 a ha b hb
theorem weak_last {A B : List Bc} {a x : Bc} (hw : Weak (A ++ [a] ++ B)) (h : ltB x.1.nm a.1.nm = false) : ∀ y ∈ A ++ [a], ltB x.1.nm y.1.nm = false := fun y hy => by
 rcases List.mem_append.1 hy with hy | hy
 ·obtain ⟨h1, _⟩ := List.pairwise_append.1 hw
  exact ltB_ntrans h ((List.pairwise_append.1 h1).2.2 y hy a (by simp))
 ·have e : y = a := by simpa using hy
  rw [e]; exact h
theorem BRow.atk {w : World} {N : Nat} {Y : Nat → Prop} {P Q : List Bc} {z : Bc} {g n cap : Nat} (h : BRow w N Y (.slice (some ⟨g, 0, none⟩) n cap) (P ++ z :: Q)) :
  w.cell? ⟨g, P.length * 3, none⟩ = some (.string z.1.nm) ∧ w.cell? ⟨g, P.length * 3 + 1, none⟩ = some (.string z.1.t.name) ∧ w.cell? ⟨g, P.length * 3 + 2, none⟩ = some (.slice z.2.1 z.1.t.args.length z.2.2) ∧ ∀ j, w.frozen? ⟨g, j, none⟩ = false := by
 obtain ⟨g', cap', e, _, _, hc⟩ := owned_val h.own (by simp only [List.length_append, List.length_cons]; omega)
 simp at e
 obtain ⟨rfl, _, rfl⟩ := e
 have hf : ∀ j, w.frozen? ⟨g, j, none⟩ = false := by
  rcases h.own.2 with ⟨e, _⟩ | ⟨g', cap', cur, e, _, hb, _⟩
  ·cases e
  ·simp at e
   obtain ⟨rfl, _, rfl⟩ := e
   intro j
   simp [World.frozen?, hb]
 have hg : ∀ j, j < 3 → (flat3 (P ++ z :: Q))[P.length * 3 + j]? = (enc3 z)[j]? := fun j hj => by
  rw [flat3_get _ P.length (by simp) j hj]
  simp
 exact ⟨hc _ _ (by have h0 := hg 0 (by decide); rw [Nat.add_zero] at h0; rw [h0]; rfl), hc _ _ (by rw [hg 1 (by decide)]; rfl), hc _ _ (by rw [hg 2 (by decide)]; rfl), hf⟩
theorem ins_perm {A B cs : List Bc} {x : Bc} {l : List Bd} (h : A ++ B = cs) (hp : (cs.map (·.1) ++ [x.1]).Perm l) : ((A ++ x :: B).map (·.1)).Perm l := by
 refine List.Perm.trans ?_ hp
 have h1 : (A ++ x :: B).Perm (cs ++ [x]) := by
  rw [← h]
  exact List.perm_middle.trans (List.perm_append_singleton x (A ++ B)).symm
 simpa using h1.map (·.1)
def SoInv (w : World) (Y : Nat → Prop) (ls : List Bd) (u v : Value) (wr : World) : Prop :=
 ∃ (k : Nat) (cs : List Bc), v = .int .i64 (k : Int) ∧ k ≤ ls.length ∧ BRow wr w.heap.size Y u cs ∧ (cs.map (·.1)).Perm (ls.take k) ∧ Weak cs ∧ Below w.heap.size w wr
def SiInv (w : World) (Y : Nat → Prop) (cs : List Bc) (x : Bc) (g cap : Nat) (v : Value) (wr : World) : Prop :=
 ∃ (A B : List Bc), v = .int .i64 (A.length : Int) ∧ A ++ B = cs ∧ (∀ b ∈ B, ltB x.1.nm b.1.nm = true) ∧ BRow wr w.heap.size Y (.slice (some ⟨g, 0, none⟩) (cs.length + 1) cap) (A ++ x :: B) ∧ Below w.heap.size w wr
set_option maxHeartbeats 2000000 in
theorem sorted_any (ls : List Bd) (u : Value) (w : World) (X : Nat → Prop) (hu : BV w X u ls) (hn : ls.length ≤ 1000000) :
  Calls Tryz.prog 81 #[u] w fun e w' => ∃ (v : Value) (cs : List Bc), e = .returned v ∧ BRow w' w.heap.size (fun b => X b ∧ b < w.heap.size) v cs ∧ (cs.map (·.1)).Perm ls ∧ Weak cs ∧ Below w.heap.size w w' := by
 have HU := hide (hu.mono (Y := fun b => X b ∧ b < w.heap.size) fun b h1 h2 => ⟨h1, h2⟩)
 obtain ⟨a, c, rfl, hl, hu2⟩ := hu
 clear hu2
 go_enter Tryz.func81, Tryz.ntmps81
 go_wp2_with fail
 go_loopw [3, 4] (fun u v wr => SoInv w (fun b => X b ∧ b < w.heap.size) ls u v wr) (fun u v wr => ls.length - (intOf v).toNat)
 case atStart => exact ⟨0, [], rfl, Nat.zero_le _, BRow.start _ _ _, by simp, List.Pairwise.nil, Below.refl _ _⟩
 case round =>
  obtain ⟨k, cs, rfl, hk, hrow, hperm, hweak, hb⟩ := hrel
  have HROW := hide hrow
  have HP := hide hperm
  have HW := hide hweak
  have HB := hide hb
  clear hrow hperm hweak
  by_cases hlt : k < ls.length
  ·obtain ⟨b, o, a', c', rfl, d0, d1, d2, hs⟩ := (HU.out.later hb).get k hlt
   have hlt2 : (k : Int) < (ls.length : Int) := by omega
   have HS := hide hs
   have HP1 : Hid ((cs.map (·.1) ++ [ls[k]]).Perm (ls.take (k + 1))) := by
    unfold Hid
    rw [List.take_succ_eq_append_getElem hlt]
    exact HP.out.append_right _
   have hLC : cs.length ≤ 1000000 := by have := HP.out.length_eq; simp at this; omega
   clear hb hs
   generalize ls[k] = d at *
   obtain ⟨v2, w2, hrun, hB2, hg2⟩ := binds_append HROW.out HB.out.size (fun b h => h.2) (Below.refl wr.heap.size wr) (d, a', c') (HS.out.mono fun b h _ => Or.inl h) hLC wr.heap.size rfl
   obtain ⟨g, cap, rfl, hNg, hgl⟩ := hB2.own.form (by simp)
   have HRUN := hide hrun
   have HB2 := hide hB2
   have HBW : Hid (Below w.heap.size w w2) := (HB.out.alloc HB.out.size _).grown hg2 (by have := HB.out.size; simp; omega) (fun j hj => by have := (HROW.out.own.lt j hj).1; omega)
   have hlen2 : (cs ++ [(d, a', c')]).length = cs.length + 1 := by simp
   rw [hlen2] at HB2 HRUN
   clear hrun hB2 hg2
   have hgw : w.heap.size ≤ g := hNg
   go_wp2_with (at_builtin; refine wpList_append_eq rfl _ _ _ _ rfl rfl rfl HRUN.out ?_)
   go_loopw [5] (fun v wr => SiInv w (fun b => X b ∧ b < w.heap.size) cs (d, a', c') g cap v wr) (fun v wr => (intOf v).toNat)
   case atStart =>
    exact ⟨cs, [], by go_num, by simp, by simp, HB2.out, HBW.out⟩
   case round =>
    obtain ⟨A, B, rfl, hAB, hBx, hrow, hb⟩ := hrel
    have HROW3 := hide hrow
    have HB3 := hide hb
    have HBX := hide hBx
    have HAB := hide hAB
    have HLA : Hid (A.length + B.length = cs.length) := by have := congrArg List.length hAB; unfold Hid; simpa using this
    clear hBx hAB
    rcases List.eq_nil_or_concat A with rfl | ⟨A', y, hAe⟩
    ·clear hrow hb
     go_wp2_with fail
     go_quiet (fail)
     go_wp2_with fail
     go_roundw
     case rel => exact ⟨k + 1, [] ++ (d, a', c') :: B, by go_num, by omega, HROW3.out.below (below_drewN (Below.refl _ _) _), ins_perm HAB.out HP1.out, weak_ins (by rw [HAB.out]; exact HW.out) HBX.out (by simp), below_drewN HB3.out _⟩
     case measure => simp [intOf]; omega
    ·rw [List.concat_eq_append] at hAe
     subst hAe
     have hlen : (A' ++ [y]).length = A'.length + 1 := by simp
     have hm1 : A'.length + 1 < cs.length + 1 := by have := HLA.out; simp at this; omega
     have e1 : (A' ++ [y]) ++ (d, a', c') :: B = A' ++ y :: (d, a', c') :: B := by simp
     obtain ⟨x0, x1, x2, xf⟩ := hrow.atk
     rw [e1] at hrow
     obtain ⟨y0, y1, y2, _⟩ := hrow.atk
     simp only [List.length_append, List.length_cons, List.length_nil, Nat.zero_add] at x0 x1 x2 ⊢
     clear hrow hb hlen e1
     generalize hmA : A'.length = m at *
     have HMA := hide hmA
     clear hmA
     have hj0 : (0 : Int) ≤ (m : Int) := by omega
     have hw1 : IntKind.i64.wrap ((m : Int) + 1 - 1) = (m : Int) := by rw [IntKind.wrap_i64]; omega
     have hw2 : IntKind.i64.wrap (m : Int) = (m : Int) := by rw [IntKind.wrap_i64]; omega
     cases hlt3 : Op.bytesLess d.nm.toList y.1.nm.toList with
     | true =>
      have HLT := hide hlt3
      go_wp2_with fail
      go_quiet (fail)
      have HROW5 := hide (HROW3.out.below (below_drewN (Below.refl wr.heap.size wr) nq))
      have HB5 := hide (below_drewN HB3.out nq)
      have x0' : (wr.drewN nq).cell? ⟨g, (m + 1) * 3, none⟩ = some (.string d.nm) := x0
      have x1' : (wr.drewN nq).cell? ⟨g, (m + 1) * 3 + 1, none⟩ = some (.string d.t.name) := x1
      have x2' : (wr.drewN nq).cell? ⟨g, (m + 1) * 3 + 2, none⟩ = some (.slice a' d.t.args.length c') := x2
      have y0' : (wr.drewN nq).cell? ⟨g, m * 3, none⟩ = some (.string y.1.nm) := y0
      have y1' : (wr.drewN nq).cell? ⟨g, m * 3 + 1, none⟩ = some (.string y.1.t.name) := y1
      have y2' : (wr.drewN nq).cell? ⟨g, m * 3 + 2, none⟩ = some (.slice y.2.1 y.1.t.args.length y.2.2) := y2
      have xf' : ∀ j, (wr.drewN nq).frozen? ⟨g, j, none⟩ = false := xf
      have hg5 : g < (wr.drewN nq).heap.size := cell_lt x0'
      clear x0 x1 x2 y0 y1 y2 xf hlt3
      generalize wr.drewN nq = w5 at *
      go_wp2_with fail
      go_roundw
      case rel =>
       have hr := (HROW5.out.swap fun b h => h.2).below ((Below.refl _ _).alloc (Nat.le_refl _) (.cells #[.string d.nm, .string d.t.name, .slice a' d.t.args.length c'] 160))
       rw [HMA.out] at hr
       have hbb := (put3_below (i := m) (y := (d, a', c')) (put3_below (i := m + 1) (y := y) HB5.out hgw) hgw).alloc (by rw [put3_size, put3_size]; exact HB5.out.size) (.cells #[.string d.nm, .string d.t.name, .slice a' d.t.args.length c'] 160)
       simp only [put3] at hr hbb
       refine ⟨A', y :: B, by rw [HMA.out], by have := HAB.out; simpa using this, fun b hb => ?_, hr, hbb⟩
       rcases List.mem_cons.1 hb with rfl | hb
       ·exact HLT.out
       ·exact HBX.out b hb
      case measure => simp [intOf]
     | false =>
      have HLT := hide hlt3
      go_wp2_with fail
      go_quiet (fail)
      go_wp2_with fail
      go_roundw
      case rel => exact ⟨k + 1, (A' ++ [y]) ++ (d, a', c') :: B, by go_num, by omega, HROW3.out.below (below_drewN (Below.refl _ _) _), ins_perm HAB.out HP1.out, weak_ins (by rw [HAB.out]; exact HW.out) HBX.out (weak_last (by rw [HAB.out]; exact HW.out) HLT.out), below_drewN HB3.out _⟩
      case measure => simp [intOf]; omega
  ·go_wp2_with fail
   go_ret
   exact ⟨u3, cs, rfl, HROW.out, by have h := HP.out; rwa [List.take_of_length_le (by omega)] at h, HW.out, HB.out⟩
def MtPost (w : World) (N : Nat) (Y : Nat → Prop) (hv : Value) (r : Option (List Bd)) (e : Ending) (w' : World) : Prop :=
 w.grownBy w' hv.ownBlock ∧ ((r = none ∧ ∃ v, e = .returned (.tuple #[v, .bool false])) ∨
  ∃ (h' : List Bd) (v : Value) (cs' : List Bc), r = some h' ∧ e = .returned (.tuple #[v, .bool true]) ∧ cs'.map (·.1) = h' ∧ BRow w' N Y v cs' ∧ (∀ k, v.ownBlock = some k → hv.ownBlock = some k ∨ w.heap.size ≤ k))
theorem grown_alloc2 (w : World) (o o' : Obj) (row : Option Nat) : w.grownBy ((w.alloc o).alloc o') row := (World.grownBy_alloc w o row).andThen (World.grownBy_alloc (w.alloc o) o' none) (by simp)
theorem grown_below {w w' w'' : World} {row : Option Nat} (h : w.grownBy w' row) (hb : Below w'.heap.size w' w'') : w.grownBy w'' row :=
 h.andThen (row' := none) ⟨hb.os, hb.tape, hb.output, hb.size, fun j hj _ => hb.block j hj⟩ (by simp)
theorem binds_append2 {w : World} {N : Nat} {Y : Nat → Prop} {v : Value} {cs : List Bc} (h : BRow w N Y v cs) (hN : N ≤ w.heap.size) (hY : ∀ b, Y b → b < N) (x : Bc) (ht : Sl w (fun b => Y b ∨ w.heap.size ≤ b) x.2.1 x.1.t.args) (hn : cs.length ≤ 1000000) (A : Nat) (hA : w.heap.size = A) :
  ∃ v2 w3, (Builtin.append_ #[89, 89] 89 #[v, .slice (some ⟨A, 0, none⟩) 1 1]).run Tryz.prog (w.alloc (.cells #[.string x.1.nm, .string x.1.t.name, .slice x.2.1 x.1.t.args.length x.2.2] 160)) = .ok v2 w3 ∧ BRow w3 N Y v2 (cs ++ [x]) ∧ w.grownBy w3 v.ownBlock ∧ ∀ k, v2.ownBlock = some k → v.ownBlock = some k ∨ w.heap.size ≤ k := by
 subst hA
 obtain ⟨i0, hi, hz0, hz1, hz2⟩ := info_parts Tryz.infoBind
 have hb := Below.refl w.heap.size w
 obtain ⟨g, cap, w3, hr, ho, hg, hat, hlt⟩ := run_append_lies (P := Tryz.prog) (w := w.alloc (.cells #[.string x.1.nm, .string x.1.t.name, .slice x.2.1 x.1.t.args.length x.2.2] 160)) 89 89 N 160 i0 _ 3 56 Tryz.underlying89 hi hz0 hz1 hz2 rfl (by decide) v cs.length (flat3 cs) (h.own.alloc _)
  ⟨w.heap.size, 0, none⟩ 1 1 (enc3 x) rfl (cell_three_new _ _ _ _ _) (fun y hy => by simp [enc3] at hy; rcases hy with rfl | rfl | rfl <;> rfl) (by decide) (by unfold maxLen; omega) (by omega) (by simp; omega) _ rfl
 refine ⟨_, w3, hr, h.push hN hY hb ht _ rfl ho hg hat, (World.grownBy_alloc w _ _).andThen hg (fun j hj => Or.inr hj), fun k hk => ?_⟩
 have e : g = k := by simpa [Value.ownBlock] using hk
 rcases hat with h1 | h1
 ·exact Or.inl (by rw [h1, e])
 ·right; simp at h1; omega
def MlInv (w2 : World) (N : Nat) (Y : Nat → Prop) (hv : Value) (l m : List Tm) (h : List Bd) (v i : Value) (wr : World) : Prop :=
 ∃ (k : Nat) (cs' : List Bc), k ≤ l.length ∧ i = .int .i64 (k : Int) ∧ mtL (l.take k) (m.take k) h = some (cs'.map (·.1)) ∧ BRow wr N Y v cs' ∧ w2.grownBy wr hv.ownBlock ∧ (∀ j, v.ownBlock = some j → hv.ownBlock = some j ∨ w2.heap.size ≤ j)
set_option maxHeartbeats 400000 in
theorem matched_any (p : Tm) : ∀ (t : Tm) (cs : List Bc) (pv tv hv : Value) (w : World) (N : Nat) (Y : Nat → Prop), TV w Y pv p → TV w Y tv t → BRow w N Y hv cs → N ≤ w.heap.size → (∀ b, Y b → b < N) → cs.length + sizeL [p] ≤ 1000000 → ApartB (cs.map (·.1)) →
  Calls Tryz.prog 80 #[pv, tv, hv] w fun e w' => MtPost w N Y hv (mtT p t (cs.map (·.1))) e w' := by
 induction p using Tm.ind with
 | h s l ih =>
  intro t cs pv tv hv w N Y hp ht hrow hN hY hsz hap
  obtain ⟨s2, m⟩ := t
  obtain ⟨a, c, rfl, hs⟩ := hp
  obtain ⟨a2, c2, rfl, hs2⟩ := ht
  have IH := hide ih
  have HS := hide hs
  have HS2 := hide hs2
  have HROW := hide hrow
  have HY := hide hY
  have HAP := hide hap
  have hlt := hrow.own.lt
  have hl := hs.1
  have hl2 := hs2.1
  clear ih hs hs2 hrow hY hap
  dsimp only
  have HG2 := hide (grown_alloc2 w (.cells #[.string s, .slice a l.length c] 27) (.cells #[.string s2, .slice a2 m.length c2] 27) hv.ownBlock)
  have HB2 : Hid (Below w.heap.size w ((w.alloc (.cells #[.string s, .slice a l.length c] 27)).alloc (.cells #[.string s2, .slice a2 m.length c2] 27))) := below2 _ _
  have PA := hide ((Blk.new w #[.string s, .slice a l.length c] 27).alloc (.cells #[.string s2, .slice a2 m.length c2] 27))
  have PB : Hid (Blk ((w.alloc (.cells #[.string s, .slice a l.length c] 27)).alloc (.cells #[.string s2, .slice a2 m.length c2] 27)) (w.heap.size + 1) #[.string s2, .slice a2 m.length c2] 27) := by
   have h := Blk.new (w.alloc (.cells #[.string s, .slice a l.length c] 27)) #[.string s2, .slice a2 m.length c2] 27
   unfold Hid
   simpa using h
  have hz2 : ((w.alloc (.cells #[.string s, .slice a l.length c] 27)).alloc (.cells #[.string s2, .slice a2 m.length c2] 27)).heap.size = w.heap.size + 2 := by simp
  cases hvb : varB s with
  | true =>
   have HVB := hide hvb
   clear hvb
   go_enter Tryz.func80, Tryz.ntmps80
   go_wp2_with (go_at_call 34; refine (isVarR_any _ _).mono ?_; rintro e w' ⟨rfl, rfl⟩; rw [HVB.out])
   have HGW : Hid (∀ o o', w.grownBy ((w.alloc o).alloc o') hv.ownBlock) := fun o o' => grown_alloc2 w o o' _
   clear HGW
   generalize (w.alloc (.cells #[.string s, .slice a l.length c] 27)).alloc (.cells #[.string s2, .slice a2 m.length c2] 27) = w2 at *
   refine (for_any (cs.map (·.1)) s hv w2 _ (HROW.out.below HB2.out).bv).mono ?_
   rintro e w3 ⟨hb3, hc3⟩
   have HB3 := hide (HB2.out.trans (hb3.mono HB2.out.size))
   have HG3 := hide (grown_below HG2.out hb3)
   have HROW3 := hide (HROW.out.below HB3.out)
   have PA3 := hide (PA.out.below hb3 PA.out.lt)
   have PB3 := hide (PB.out.below hb3 PB.out.lt)
   have hz3 := hb3.size
   clear hb3
   rcases hc3 with ⟨x, ax, cx, hf, rfl, hsx⟩ | ⟨hf, rfl⟩
   ·have HSX := hide hsx
    have HR := hide (mtT_old (l := l) (t := ⟨s2, m⟩) HVB.out hf)
    clear hf hsx
    have b0 : ∀ o, (w3.alloc o).cell? ⟨w.heap.size + 1, 0, none⟩ = some (.string s2) := fun o => (PB3.out.alloc o).cell 0
    have b1 : ∀ o, (w3.alloc o).cell? ⟨w.heap.size + 1, 1, none⟩ = some (.slice a2 m.length c2) := fun o => (PB3.out.alloc o).cell 1
    go_wp2_with fail
    have HB4 := hide (HB3.out.alloc HB3.out.size (.cells #[.string x.name, .slice ax x.args.length cx] 27))
    have HG4 := hide (grown_below HG3.out ((Below.refl _ _).alloc (Nat.le_refl _) (.cells #[.string x.name, .slice ax x.args.length cx] 27)))
    have HSX4 := hide (HSX.out.later ((Below.refl _ _).alloc (Nat.le_refl _) (.cells #[.string x.name, .slice ax x.args.length cx] 27)))
    generalize w3.alloc (.cells #[.string x.name, .slice ax x.args.length cx] 27) = w4 at *
    refine (sameR_all x ⟨s2, m⟩ _ _ w4 _ _ ⟨ax, cx, rfl, HSX4.out⟩ ⟨a2, c2, rfl, HS2.out.later HB4.out⟩).mono ?_
    rintro e w5 ⟨rfl, hb5⟩
    have HG5 := hide (grown_below HG4.out hb5)
    have HROW5 := hide (HROW.out.below (HB4.out.trans (hb5.mono HB4.out.size)))
    clear hb5 b0 b1
    go_wp2_with fail
    refine bodyPost_ret (v := .tuple #[hv, .bool (sameB x ⟨s2, m⟩)]) (by simp [results, Tryz.results80, go_sem]) rfl ?_
    rw [HR.out]
    refine ⟨HG5.out, ?_⟩
    cases hsm : sameB x ⟨s2, m⟩ with
    | true => exact Or.inr ⟨_, hv, cs, by rw [if_pos rfl], rfl, rfl, HROW5.out, fun k hk => Or.inl hk⟩
    | false => exact Or.inl ⟨by rw [if_neg (by simp)], hv, rfl⟩
   ·have HR := hide (mtT_new (l := l) (t := ⟨s2, m⟩) HVB.out hf)
    clear hf
    have hbA : Below w3.heap.size w3 (w3.alloc (.cells #[.string ⟨#[]⟩, .slice none 0 0] 27)) := (Below.refl _ _).alloc (Nat.le_refl _) _
    have HB4 := hide (HB3.out.trans (hbA.mono HB3.out.size))
    have HG4 := hide (grown_below HG3.out hbA)
    have HROW4 := hide (HROW3.out.below hbA)
    have a0 : (w3.alloc (.cells #[.string ⟨#[]⟩, .slice none 0 0] 27)).cell? ⟨w.heap.size, 0, none⟩ = some (.string s) := (PA3.out.below hbA PA3.out.lt).cell 0
    have b0 : (w3.alloc (.cells #[.string ⟨#[]⟩, .slice none 0 0] 27)).cell? ⟨w.heap.size + 1, 0, none⟩ = some (.string s2) := (PB3.out.below hbA PB3.out.lt).cell 0
    have b1 : (w3.alloc (.cells #[.string ⟨#[]⟩, .slice none 0 0] 27)).cell? ⟨w.heap.size + 1, 1, none⟩ = some (.slice a2 m.length c2) := (PB3.out.below hbA PB3.out.lt).cell 1
    have a0' := fun o => (PA3.out.alloc o).cell 0
    clear hbA
    have hz4 : w3.heap.size ≤ (w3.alloc (.cells #[.string ⟨#[]⟩, .slice none 0 0] 27)).heap.size := by simp
    have hsz' : cs.length ≤ 1000000 := by omega
    obtain ⟨v5, w5, hrun, hB5, hg5, hob⟩ := binds_append2 HROW4.out (by omega) HY.out (⟨s, ⟨s2, m⟩⟩, a2, c2) ((HS2.out.later HB4.out).mono fun b h _ => Or.inl h) hsz' (w3.heap.size + 1) (by simp)
    have HRUN := hide hrun
    have HB5 := hide hB5
    have HG5 : Hid (w.grownBy w5 hv.ownBlock) := HG4.out.andThen hg5 (fun j hj => Or.inr hj)
    have HOB : Hid (∀ k, v5.ownBlock = some k → hv.ownBlock = some k ∨ w.heap.size ≤ k) := fun k hk => (hob k hk).imp id (fun h => Nat.le_trans HG4.out.size h)
    clear hrun hB5 hg5 hob a0'
    go_wp2_with (at_builtin; refine wpList_append_eq rfl _ _ _ _ rfl rfl rfl HRUN.out ?_)
    refine bodyPost_ret (v := .tuple #[v5, .bool true]) (by simp [results, Tryz.results80, go_sem]) rfl ?_
    rw [HR.out]
    exact ⟨HG5.out, Or.inr ⟨_, v5, _, rfl, rfl, by simp, HB5.out, HOB.out⟩⟩
  | false =>
   have HVB := hide hvb
   clear hvb
   cases hn : (s.toList == s2.toList) with
   | false =>
    have HR := hide (mtT_off (h := cs.map (·.1)) HVB.out (show ((s.toList == s2.toList) && (l.length == m.length)) = false by rw [hn]; rfl))
    go_enter Tryz.func80, Tryz.ntmps80
    go_wp2_with (go_at_call 34; refine (isVarR_any _ _).mono ?_; rintro e w' ⟨rfl, rfl⟩; rw [HVB.out])
    refine bodyPost_ret (v := .tuple #[.slice none 0 0, .bool false]) (by simp [results, Tryz.results80, go_sem]) rfl ?_
    rw [HR.out]
    exact ⟨HG2.out, Or.inl ⟨rfl, _, rfl⟩⟩
   | true =>
    by_cases hm : l.length = m.length
    case neg =>
     have HR := hide (mtT_off (h := cs.map (·.1)) HVB.out (show ((s.toList == s2.toList) && (l.length == m.length)) = false by rw [hn]; simpa using hm))
     have hm2 : ((l.length : Int) == (m.length : Int)) = false := beq_eq_false_iff_ne.2 (by omega)
     clear hm
     go_enter Tryz.func80, Tryz.ntmps80
     go_wp2_with (go_at_call 34; refine (isVarR_any _ _).mono ?_; rintro e w' ⟨rfl, rfl⟩; rw [HVB.out])
     refine bodyPost_ret (v := .tuple #[.slice none 0 0, .bool false]) (by simp [results, Tryz.results80, go_sem]) rfl ?_
     rw [HR.out]
     exact ⟨HG2.out, Or.inl ⟨rfl, _, rfl⟩⟩
    case pos =>
     have HR := hide (mtT_deep (h := cs.map (·.1)) HVB.out hn hm)
     have HM := hide hm
     rw [← hm] at HG2 HB2 PA PB hz2 hl2 ⊢
     clear hm
     go_enter Tryz.func80, Tryz.ntmps80
     go_wp2_with (go_at_call 34; refine (isVarR_any _ _).mono ?_; rintro e w' ⟨rfl, rfl⟩; rw [HVB.out])
     generalize (w.alloc (.cells #[.string s, .slice a l.length c] 27)).alloc (.cells #[.string s2, .slice a2 l.length c2] 27) = w2 at *
     go_loopw [2, 10] (fun v i wr => MlInv w2 N Y hv l m (cs.map (·.1)) v i wr) (fun v i wr => l.length - (intOf i).toNat)
     case atStart => exact ⟨0, cs, Nat.zero_le _, rfl, by simp [mtL], HROW.out.below HB2.out, ⟨rfl, rfl, rfl, Nat.le_refl _, fun _ _ _ => rfl⟩, fun j hj => Or.inl hj⟩
     case round =>
      obtain ⟨k, cs', hk, rfl, hT, hrow, hg, hob⟩ := hrel
      have HT := hide hT
      have HROWK := hide hrow
      have HGK := hide hg
      have HOB := hide hob
      have hne : ∀ b, b < w.heap.size + 2 → (b < N ∨ w.heap.size ≤ b) → some b ≠ hv.ownBlock := fun b _ h e => by
       have h1 := hlt b e.symm
       rcases h with h | h
       ·omega
       ·omega
      have hwr : w.heap.size + 2 ≤ wr.heap.size := by have := hg.size; omega
      have PAK : Hid (Blk wr w.heap.size #[.string s, .slice a l.length c] 27) := (hg.block w.heap.size (by omega) (hne _ (by omega) (Or.inr (Nat.le_refl _)))).trans PA.out
      have PBK : Hid (Blk wr (w.heap.size + 1) #[.string s2, .slice a2 l.length c2] 27) := (hg.block (w.heap.size + 1) (by omega) (hne _ (by omega) (Or.inr (by omega)))).trans PB.out
      have HSK : Hid (Sl wr Y a l) := (HS.out.later HB2.out).kept fun b hb => by
       have h1 := HY.out b hb
       exact hg.block b (by omega) (hne _ (by omega) (Or.inl h1))
      have HSK2 : Hid (Sl wr Y a2 m) := (HS2.out.later HB2.out).kept fun b hb => by
       have h1 := HY.out b hb
       exact hg.block b (by omega) (hne _ (by omega) (Or.inl h1))
      have a1 := PAK.out.c1
      clear hT hrow hg hob
      by_cases hlt' : k < l.length
      ·have hltm : k < m.length := by have := HM.out; omega
       obtain ⟨b, o, a', c', rfl, d0, d1, hx⟩ := HSK.out.get (Below.refl _ _) (fun _ _ h => h) k hlt'
       obtain ⟨b2, o2, a2', c2', rfl, e0, e1, hx2⟩ := HSK2.out.get (Below.refl _ _) (fun _ _ h => h) k hltm
       have HX := hide hx
       have HX2 := hide hx2
       have b1 : wr.cell? ⟨w.heap.size + 1, 1, none⟩ = some (.slice (some ⟨b2, o2, none⟩) l.length c2) := PBK.out.cell 1
       have HS0 := hide (And.intro a1 (And.intro b1 (And.intro d0 (And.intro d1 (And.intro e0 e1)))))
       have hbN : b < N := by
        obtain ⟨_, h1⟩ := HSK.out
        rcases h1 with h1 | ⟨b', o', e', h1⟩
        ·rw [h1] at hlt'; simp at hlt'
        ·cases e'; exact HY.out _ (lies_get _ _ _ h1 k hlt').1
       have hb2N : b2 < N := by
        obtain ⟨_, h1⟩ := HSK2.out
        rcases h1 with h1 | ⟨b', o', e', h1⟩
        ·rw [h1] at hltm; simp at hltm
        ·cases e'; exact HY.out _ (lies_get _ _ _ h1 k hltm).1
       have hob1 : ∀ j, (j < N ∨ (w.heap.size ≤ j ∧ j < w.heap.size + 2)) → some j ≠ u2.ownBlock := fun j hj e => by
        have h1 := HROWK.out.own.lt j e.symm
        rcases hj with hj | hj
        ·omega
        ·rcases HOB.out j e.symm with h2 | h2
         ·have := (hlt j h2).2; omega
         ·omega
       have hAL := mtL_apart _ _ _ _ HT.out HAP.out
       have hsk : cs'.length + sizeL [l[k]] ≤ 1000000 := by
        have h1 := hAL.2
        have h2 := sizeL_take l k hlt'
        have h3 := sizeL_take_le l (k + 1)
        have h4 : sizeL [(⟨s, l⟩ : Tm)] = 1 + sizeL l := by simp [sizeL]
        rw [h4] at hsz
        simp at h1
        omega
       have IHK := hide (IH.out l[k] (List.getElem_mem hlt') m[k] cs' (.agg #[.string l[k].name, .slice a' l[k].args.length c']) (.agg #[.string m[k].name, .slice a2' m[k].args.length c2']) u2 wr.drew N Y (by exact HX.out.later (below_drewN (Below.refl _ _) 1)) (by exact HX2.out.later (below_drewN (Below.refl _ _) 1)) (by exact HROWK.out.below (below_drewN (Below.refl _ _) 1)) (by simp; omega) HY.out hsk hAL.1)
       have SIX : Hid (∀ w1, wr.drew.grownBy w1 u2.ownBlock → w1.cell? ⟨w.heap.size, 1, none⟩ = some (.slice (some ⟨b, o, none⟩) l.length c) ∧ w1.cell? ⟨w.heap.size + 1, 1, none⟩ = some (.slice (some ⟨b2, o2, none⟩) l.length c2) ∧ w1.cell? ⟨b, o + k * 2, none⟩ = some (.string l[k].name) ∧ w1.cell? ⟨b, o + k * 2 + 1, none⟩ = some (.slice a' l[k].args.length c') ∧ w1.cell? ⟨b2, o2 + k * 2, none⟩ = some (.string m[k].name) ∧ w1.cell? ⟨b2, o2 + k * 2 + 1, none⟩ = some (.slice a2' m[k].args.length c2')) := fun w1 hg1 => by
        have kp : ∀ b o, (b < N ∨ (w.heap.size ≤ b ∧ b < w.heap.size + 2)) → w1.cell? ⟨b, o, none⟩ = wr.cell? ⟨b, o, none⟩ := fun b o hb => hg1.cell_far ⟨b, o, none⟩ (by simp; omega) (by simpa using hob1 b hb)
        exact ⟨(kp _ _ (Or.inr (by omega))).trans HS0.out.1, (kp _ _ (Or.inr (by omega))).trans HS0.out.2.1, (kp _ _ (Or.inl hbN)).trans HS0.out.2.2.1, (kp _ _ (Or.inl hbN)).trans HS0.out.2.2.2.1, (kp _ _ (Or.inl hb2N)).trans HS0.out.2.2.2.2.1, (kp _ _ (Or.inl hb2N)).trans HS0.out.2.2.2.2.2⟩
       have HNO := hide (fun h0 => mtL_no hlt' HM.out HT.out h0)
       have HNX := hide (fun h'' (h0 : mtT l[k] m[k] (cs'.map (·.1)) = some h'') => mtL_next hlt' hltm HT.out h0)
       have HGO : Hid (∀ w1, wr.drew.grownBy w1 u2.ownBlock → w2.grownBy w1 hv.ownBlock) := fun w1 hg1 => (grown_below HGK.out (below_drewN (Below.refl _ _) 1)).andThen hg1 (fun j hj => (HOB.out j hj).symm)
       have HW2 : Hid (w.grownBy w2 hv.ownBlock) := HG2.out
       clear hx hx2 hAL hsk hob1
       generalize l[k] = y at *
       generalize m[k] = z at *
       go_wp2_with fail
       cases hr : mtT y z (cs'.map (·.1)) with
       | none =>
        have IHN : Hid (Calls Tryz.prog 80 #[.agg #[.string y.name, .slice a' y.args.length c'], .agg #[.string z.name, .slice a2' z.args.length c2'], u2] wr.drew fun e w' => ∃ v1, e = .returned (.tuple #[v1, .bool false]) ∧ wr.drew.grownBy w' u2.ownBlock) := by
         refine IHK.out.mono ?_
         rintro e w1 ⟨hg1, ⟨_, v1, rfl⟩ | ⟨h', v1, cs1, h0, _⟩⟩
         ·exact ⟨v1, rfl, hg1⟩
         ·rw [hr] at h0; cases h0
        have HF : Hid (mtT ⟨s, l⟩ ⟨s2, m⟩ (cs.map (·.1)) = none) := by unfold Hid; rw [HR.out, HNO.out hr]
        go_region_held3 (fun w' => w'.cell? ⟨w.heap.size, 1, none⟩ = some (.slice (some ⟨b, o, none⟩) l.length c) ∧ w'.cell? ⟨w.heap.size + 1, 1, none⟩ = some (.slice (some ⟨b2, o2, none⟩) l.length c2) ∧ w'.cell? ⟨b, o + k * 2, none⟩ = some (.string y.name) ∧ w'.cell? ⟨b, o + k * 2 + 1, none⟩ = some (.slice a' y.args.length c') ∧ w'.cell? ⟨b2, o2 + k * 2, none⟩ = some (.string z.name) ∧ w'.cell? ⟨b2, o2 + k * 2 + 1, none⟩ = some (.slice a2' z.args.length c2')) (first | exact HS0.out | exact hS1 | go_keep)
         ((go_at_call 80; refine IHN.out.mono ?_; rintro e w1 ⟨v1, rfl, hg1⟩; have hS1 := SIX.out w1 hg1))
        have HG1 := hide (HGO.out w1 hg1)
        clear hg1 hS1
        go_wp2_with fail
        refine bodyPost_ret (v := .tuple #[.slice none 0 0, .bool false]) (by simp [results, Tryz.results80, go_sem]) rfl ?_
        rw [HF.out]
        exact ⟨HW2.out.andThen HG1.out (fun j hj => Or.inr hj), Or.inl ⟨rfl, _, rfl⟩⟩
       | some h' =>
        have IHS : Hid (Calls Tryz.prog 80 #[.agg #[.string y.name, .slice a' y.args.length c'], .agg #[.string z.name, .slice a2' z.args.length c2'], u2] wr.drew fun e w' => ∃ v1 cs1, e = .returned (.tuple #[v1, .bool true]) ∧ wr.drew.grownBy w' u2.ownBlock ∧ cs1.map (·.1) = h' ∧ BRow w' N Y v1 cs1 ∧ (∀ k, v1.ownBlock = some k → u2.ownBlock = some k ∨ wr.heap.size ≤ k)) := by
         refine IHK.out.mono ?_
         rintro e w1 ⟨hg1, ⟨h0, _⟩ | ⟨h'', v1, cs1, h0, rfl, h2, h3, h4⟩⟩
         ·rw [hr] at h0; cases h0
         ·rw [hr] at h0
          cases h0
          exact ⟨v1, cs1, rfl, hg1, h2, h3, h4⟩
        have HN := hide (HNX.out h' hr)
        go_region_held3 (fun w' => w'.cell? ⟨w.heap.size, 1, none⟩ = some (.slice (some ⟨b, o, none⟩) l.length c) ∧ w'.cell? ⟨w.heap.size + 1, 1, none⟩ = some (.slice (some ⟨b2, o2, none⟩) l.length c2) ∧ w'.cell? ⟨b, o + k * 2, none⟩ = some (.string y.name) ∧ w'.cell? ⟨b, o + k * 2 + 1, none⟩ = some (.slice a' y.args.length c') ∧ w'.cell? ⟨b2, o2 + k * 2, none⟩ = some (.string z.name) ∧ w'.cell? ⟨b2, o2 + k * 2 + 1, none⟩ = some (.slice a2' z.args.length c2')) (first | exact HS0.out | exact hS1 | go_keep)
         ((go_at_call 80; refine IHS.out.mono ?_; rintro e w1 ⟨v1, cs1, rfl, hg1, hc1, hr1, ho1⟩; have hS1 := SIX.out w1 hg1))
        have HG1 := hide (HGO.out w1 hg1)
        have HC1 := hide hc1
        have HR1 := hide hr1
        have HO1 : Hid (∀ j, v1.ownBlock = some j → hv.ownBlock = some j ∨ w2.heap.size ≤ j) := fun j hj => by
         rcases ho1 j hj with h1 | h1
         ·exact HOB.out j h1
         ·right; have := HGK.out.size; omega
        clear hg1 hS1 hc1 hr1 ho1
        go_wp2_with fail
        go_roundw
        case rel => exact ⟨k + 1, cs1, by omega, by go_num, by rw [HC1.out]; exact HN.out, HR1.out, HG1.out, HO1.out⟩
        case measure => simp [intOf]; omega
      ·have HF : Hid (mtT ⟨s, l⟩ ⟨s2, m⟩ (cs.map (·.1)) = some (cs'.map (·.1))) := by
        unfold Hid
        rw [HR.out, ← HT.out, List.take_of_length_le (by omega), List.take_of_length_le (by have := HM.out; omega)]
       have HGF := hide (HG2.out.andThen HGK.out (fun j hj => Or.inr hj))
       go_wp2_with fail
       refine bodyPost_ret (v := .tuple #[u2, .bool true]) (by simp [results, Tryz.results80, go_sem]) rfl ?_
       rw [HF.out]
       exact ⟨HGF.out, Or.inr ⟨_, u2, cs', rfl, rfl, rfl, HROWK.out, fun j hj => (HOB.out j hj).imp id (fun h => by omega)⟩⟩
def mtB (p t : Tm) : Bool := (mtT p t []).isSome
def MoPost (w : World) (Z : Nat → Prop) (p t : Tm) (e : Ending) (w' : World) : Prop :=
 Below w.heap.size w w' ∧ ((mtT p t [] = none ∧ e = .returned (.tuple #[.slice none 0 0, .bool false])) ∨
  ∃ h' v l', mtT p t [] = some h' ∧ e = .returned (.tuple #[v, .bool true]) ∧ BV w' Z v l' ∧ l'.Perm h' ∧ l'.Pairwise fun a b => ltB b.nm a.nm = false)
set_option maxHeartbeats 400000 in
theorem matchOf_any (p t : Tm) (pv tv : Value) (w : World) (X : Nat → Prop) (hp : TV w X pv p) (ht : TV w X tv t) (hsz : sizeL [p] ≤ 1000000) :
  Calls Tryz.prog 59 #[pv, tv] w fun e w' => MoPost w (fun b => (X b ∧ b < w.heap.size) ∨ w.heap.size ≤ b) p t e w' := by
 obtain ⟨a, c, rfl, hs⟩ := hp
 obtain ⟨a2, c2, rfl, hs2⟩ := ht
 have HS := hide (hs.mono (Y := fun b => X b ∧ b < w.heap.size) fun b h1 h2 => ⟨h1, h2⟩)
 have HS2 := hide (hs2.mono (Y := fun b => X b ∧ b < w.heap.size) fun b h1 h2 => ⟨h1, h2⟩)
 clear hs hs2
 have HB2 : Hid (Below w.heap.size w ((w.alloc (.cells #[.string p.name, .slice a p.args.length c] 27)).alloc (.cells #[.string t.name, .slice a2 t.args.length c2] 27))) := below2 _ _
 go_enter Tryz.func59, Tryz.ntmps59
 go_wp2_with fail
 generalize (w.alloc (.cells #[.string p.name, .slice a p.args.length c] 27)).alloc (.cells #[.string t.name, .slice a2 t.args.length c2] 27) = w2 at *
 refine (matched_any p t [] _ _ (.slice none 0 0) w2 w.heap.size (fun b => X b ∧ b < w.heap.size) ⟨a, c, rfl, HS.out.later HB2.out⟩ ⟨a2, c2, rfl, HS2.out.later HB2.out⟩ (BRow.start _ _ _) HB2.out.size (fun b h => h.2) (by simpa using hsz) List.Pairwise.nil).mono ?_
 rintro e w3 ⟨hg3, hc3⟩
 have HB3 : Hid (Below w.heap.size w w3) := HB2.out.grown hg3 HB2.out.size (fun j hj => by simp [Value.ownBlock] at hj)
 clear hg3
 rcases hc3 with ⟨h0, v3, rfl⟩ | ⟨h', v3, cs3, h0, rfl, hcs, hrow, _⟩
 ·have H0 := hide h0
  clear h0
  go_wp2_with fail
  refine bodyPost_ret (v := .tuple #[.slice none 0 0, .bool false]) (by simp [results, Tryz.results59, go_sem]) rfl ?_
  exact ⟨HB3.out, Or.inl ⟨H0.out, rfl⟩⟩
 ·have H0 := hide h0
  have HCS := hide hcs
  have HROW := hide hrow
  have hl3 : cs3.length ≤ 1000000 := by
   have h1 := (mtT_apart h0 List.Pairwise.nil).2
   rw [← hcs] at h1
   simp at h1
   omega
  clear h0 hcs hrow
  go_wp2_with fail
  refine (sorted_any (cs3.map (·.1)) v3 w3 _ HROW.out.bv (by simpa using hl3)).mono ?_
  rintro e w5 ⟨v5, cs5, rfl, hr5, hp5, hw5, hb5⟩
  have HR5 := hide hr5
  have HP5 := hide hp5
  have HW5 := hide hw5
  have HB5 := hide (HB3.out.trans (hb5.mono HB3.out.size))
  have hzz := HB3.out.size
  clear hr5 hp5 hw5 hb5
  go_wp2_with fail
  refine bodyPost_ret (v := .tuple #[v5, .bool true]) (by simp [results, Tryz.results59, go_sem]) rfl ?_
  refine ⟨HB5.out, Or.inr ⟨h', v5, cs5.map (·.1), H0.out, rfl, HR5.out.bv.mono fun b hb _ => ?_, by rw [← HCS.out]; exact HP5.out, List.pairwise_map.2 (show cs5.Pairwise (fun a b => ltB b.1.nm a.1.nm = false) from HW5.out)⟩⟩
  rcases hb with ⟨hb, _⟩ | hb
  ·exact hb
  ·exact Or.inr (by omega)
def GwInv (w0 : World) (M : Nat) (ls : List Bd) (l : List Tm) (most : Int) (n i : Value) (wr : World) : Prop := ∃ k : Nat, k ≤ l.length ∧ i = .int .i64 k ∧ n = .int .i64 (min (1 + sizeL (onL ls (l.take k))) (most + 1)) ∧ Below M w0 wr
set_option maxHeartbeats 1000000 in
theorem grown_any (ls : List Bd) (t : Tm) : ∀ (u v : Value) (most : Int) (w : World) (X : Nat → Prop), BV w X u ls → TV w X v t → 0 ≤ most → most ≤ 1000000 →
  Calls Tryz.prog 82 #[u, v, .int .i64 most] w fun e w' => e = .returned (.int .i64 (min (sizeL [onT ls t]) (most + 1))) ∧ Below w.heap.size w w' := by
 induction t using Tm.ind with
 | h s l ih =>
  intro u v most w X hu hv hm0 hm1
  obtain ⟨a, c, rfl, hs⟩ := hv
  have IH := hide ih
  have HU := hide hu
  have HS := hide hs
  have hl := hs.1
  clear ih hu hs
  go_enter Tryz.func82, Tryz.ntmps82
  go_wp2_with fail
  refine (for_any ls s u _ X (by exact HU.out.alloc _)).mono ?_
  rintro e w1 ⟨hb1, hcase⟩
  have T1 := hide ((Blk.new w #[.string s, .slice a l.length c] 27).below hb1 (by simp))
  have B1 := hide (((Below.refl w.heap.size w).alloc (Nat.le_refl _) (.cells #[.string s, .slice a l.length c] 27)).trans (hb1.mono (by simp)))
  have hlt1 : w.heap.size < w1.heap.size := T1.out.lt
  clear hb1
  have t0 : ∀ o, (w1.alloc o).cell? ⟨w.heap.size, 0, none⟩ = some (.string s) := fun o => (T1.out.alloc o).cell 0
  have t1 : ∀ o, (w1.alloc o).cell? ⟨w.heap.size, 1, none⟩ = some (.slice a l.length c) := fun o => (T1.out.alloc o).cell 1
  rcases hcase with ⟨x, ax, cx, hf, rfl, hsx⟩ | ⟨hf, rfl⟩
  ·by_cases hl0 : l = []
   ·subst hl0
    have HF := hide (onT_some hf)
    have SX := hide hsx
    clear hf hsx
    go_wp2_with fail
    refine (size_any x _ most _ _ ⟨ax, cx, rfl, SX.out.later ((Below.refl w1.heap.size w1).alloc (Nat.le_refl _) _)⟩ hm0 hm1).mono ?_
    rintro e w3 ⟨rfl, hb3⟩
    go_wp2_with fail
    go_ret
    exact ⟨ret_int (by rw [HF.out]), (B1.out.alloc B1.out.size _).trans (hb3.mono (by have := B1.out.size; simp; omega))⟩
   ·have HD := hide (onT_deep (l := ls) (s := s) (Or.inl hl0))
    have hlp : ((l.length : Int) == 0) = false := beq_eq_false_iff_ne.2 (by have := List.length_pos_iff.2 hl0; omega)
    clear hf hsx
    go_wp2_with fail
    have T2 := hide (T1.out.alloc (.cells #[.string x.name, .slice ax x.args.length cx] 27))
    have B2 := hide (B1.out.alloc B1.out.size (.cells #[.string x.name, .slice ax x.args.length cx] 27))
    generalize w1.alloc (.cells #[.string x.name, .slice ax x.args.length cx] 27) = w2 at *
    clear t0 t1
    go_loopw [9, 10] (fun n i wr => GwInv w2 w2.heap.size ls l most n i wr) (fun n i wr => l.length - (intOf i).toNat)
    case atStart => exact ⟨0, Nat.zero_le _, rfl, by simp [onL, sizeL]; omega, Below.refl _ _⟩
    case round =>
     obtain ⟨k, hk, rfl, rfl, hb⟩ := hrel
     have c0 : wr.cell? ⟨w.heap.size, 0, none⟩ = some (.string s) := (T2.out.below hb T2.out.lt).cell 0
     have c1 : wr.cell? ⟨w.heap.size, 1, none⟩ = some (.slice a l.length c) := (T2.out.below hb T2.out.lt).cell 1
     have hn : 0 ≤ ((1 : Int) + sizeL (onL ls (l.take k))) := by omega
     have BW := hide (B2.out.trans (hb.mono B2.out.size))
     have HB := hide hb
     by_cases hlt : k < l.length
     ·obtain ⟨b, o, a', c', rfl, d0, d1, hx⟩ := HS.out.get BW.out (fun _ _ h => h) k hlt
      by_cases hle : 1 + (sizeL (onL ls (l.take k)) : Int) ≤ most
      ·have hmin : min (1 + (sizeL (onL ls (l.take k)) : Int)) (most + 1) = 1 + (sizeL (onL ls (l.take k)) : Int) := by omega
       rw [hmin]
       go_wp2_with fail
       refine (IH.out _ (List.getElem_mem hlt) _ _ _ _ X (HU.out.later BW.out) hx (by omega) (by omega)).mono ?_
       rintro e w3 ⟨rfl, hb3⟩
       have Hst := hide (onL_size_take ls l k hlt)
       have hm2 : 0 ≤ min ((sizeL [onT ls l[k]] : Int)) (most - (1 + (sizeL (onL ls (l.take k)) : Int)) + 1) := by omega
       have hm3 : min ((sizeL [onT ls l[k]] : Int)) (most - (1 + (sizeL (onL ls (l.take k)) : Int)) + 1) ≤ 1000001 := by omega
       go_wp2_with fail
       go_roundw
       case rel => exact ⟨k + 1, by omega, by go_num, by rw [Hst.out]; congr 1; omega, hb.trans (hb3.mono hb.size)⟩
       case measure => simp [intOf]; omega
      ·have hmin : min (1 + (sizeL (onL ls (l.take k)) : Int)) (most + 1) = most + 1 := by omega
       rw [hmin]
       have hz : (sizeL [(⟨s, onL ls l⟩ : Tm)] : Int) = 1 + sizeL (onL ls l) := by simp [sizeL]
       have hle2 := onL_size_le ls l k
       have HF := hide (show (most + 1 : Int) = min (sizeL [(⟨s, onL ls l⟩ : Tm)] : Int) (most + 1) by omega)
       clear hz
       go_wp2_with fail
       go_ret
       exact ⟨ret_int (by rw [HD.out]; exact HF.out), BW.out⟩
     ·have htk : l.take k = l := List.take_of_length_le (by omega)
      rw [htk]
      have hz : (sizeL [(⟨s, onL ls l⟩ : Tm)] : Int) = 1 + sizeL (onL ls l) := by simp [sizeL]
      have HZ := hide hz
      clear hz
      go_wp2_with fail
      all_goals (go_ret; exact ⟨ret_int (by rw [HD.out]; have := HZ.out; omega), BW.out⟩)
  ·have HD : Hid (onT ls ⟨s, l⟩ = ⟨s, onL ls l⟩) := onT_deep (Or.inr hf)
   clear hf
   go_wp2_with fail
   have T2 := hide (T1.out.alloc (.cells #[.string ⟨#[]⟩, .slice none 0 0] 27))
   have B2 := hide (B1.out.alloc B1.out.size (.cells #[.string ⟨#[]⟩, .slice none 0 0] 27))
   generalize w1.alloc (.cells #[.string ⟨#[]⟩, .slice none 0 0] 27) = w2 at *
   clear t0 t1
   go_loopw [9, 10] (fun n i wr => GwInv w2 w2.heap.size ls l most n i wr) (fun n i wr => l.length - (intOf i).toNat)
   case atStart => exact ⟨0, Nat.zero_le _, rfl, by simp [onL, sizeL]; omega, Below.refl _ _⟩
   case round =>
    obtain ⟨k, hk, rfl, rfl, hb⟩ := hrel
    have c0 : wr.cell? ⟨w.heap.size, 0, none⟩ = some (.string s) := (T2.out.below hb T2.out.lt).cell 0
    have c1 : wr.cell? ⟨w.heap.size, 1, none⟩ = some (.slice a l.length c) := (T2.out.below hb T2.out.lt).cell 1
    have hn : 0 ≤ ((1 : Int) + sizeL (onL ls (l.take k))) := by omega
    have BW := hide (B2.out.trans (hb.mono B2.out.size))
    have HB := hide hb
    by_cases hlt : k < l.length
    ·obtain ⟨b, o, a', c', rfl, d0, d1, hx⟩ := HS.out.get BW.out (fun _ _ h => h) k hlt
     by_cases hle : 1 + (sizeL (onL ls (l.take k)) : Int) ≤ most
     ·have hmin : min (1 + (sizeL (onL ls (l.take k)) : Int)) (most + 1) = 1 + (sizeL (onL ls (l.take k)) : Int) := by omega
      rw [hmin]
      go_wp2_with fail
      refine (IH.out _ (List.getElem_mem hlt) _ _ _ _ X (HU.out.later BW.out) hx (by omega) (by omega)).mono ?_
      rintro e w3 ⟨rfl, hb3⟩
      have Hst := hide (onL_size_take ls l k hlt)
      have hm2 : 0 ≤ min ((sizeL [onT ls l[k]] : Int)) (most - (1 + (sizeL (onL ls (l.take k)) : Int)) + 1) := by omega
      have hm3 : min ((sizeL [onT ls l[k]] : Int)) (most - (1 + (sizeL (onL ls (l.take k)) : Int)) + 1) ≤ 1000001 := by omega
      go_wp2_with fail
      go_roundw
      case rel => exact ⟨k + 1, by omega, by go_num, by rw [Hst.out]; congr 1; omega, hb.trans (hb3.mono hb.size)⟩
      case measure => simp [intOf]; omega
     ·have hmin : min (1 + (sizeL (onL ls (l.take k)) : Int)) (most + 1) = most + 1 := by omega
      rw [hmin]
      have hz : (sizeL [(⟨s, onL ls l⟩ : Tm)] : Int) = 1 + sizeL (onL ls l) := by simp [sizeL]
      have hle2 := onL_size_le ls l k
      have HF := hide (show (most + 1 : Int) = min (sizeL [(⟨s, onL ls l⟩ : Tm)] : Int) (most + 1) by omega)
      clear hz
      go_wp2_with fail
      go_ret
      exact ⟨ret_int (by rw [HD.out]; exact HF.out), BW.out⟩
    ·have htk : l.take k = l := List.take_of_length_le (by omega)
     rw [htk]
     have hz : (sizeL [(⟨s, onL ls l⟩ : Tm)] : Int) = 1 + sizeL (onL ls l) := by simp [sizeL]
     have HZ := hide hz
     clear hz
     go_wp2_with fail
     all_goals (go_ret; exact ⟨ret_int (by rw [HD.out]; have := HZ.out; omega), BW.out⟩)
def OnPost (w : World) (X : Nat → Prop) (t : Tm) (e : Ending) (w' : World) : Prop :=
 ∃ a c, e = .returned (.agg #[.string t.name, .slice a t.args.length c]) ∧ Sl w' (fun b => (X b ∧ b < w.heap.size) ∨ w.heap.size ≤ b) a t.args ∧ Below w.heap.size w w'
def OnS (w : World) (b o : Nat) (s : ByteArray) (a : Option Addr) (n c : Nat) (s1 : ByteArray) (v1 : Value) (w' : World) : Prop :=
 Blk w' w.heap.size #[.string s, .slice a n c] 27 ∧ w'.cell? ⟨b, o, none⟩ = some (.string s1) ∧ w'.cell? ⟨b, o + 1, none⟩ = some v1
theorem cell_same {w w' : World} {b i : Nat} {v : Value} (hb : w'.heap[b]? = w.heap[b]?) (h : w.cell? ⟨b, i, none⟩ = some v) : w'.cell? ⟨b, i, none⟩ = some v := by simpa [World.cell?, hb] using h
theorem OnS.below {w wr w1 : World} {b o n c : Nat} {s s1 : ByteArray} {a : Option Addr} {v1 : Value} (h : OnS w b o s a n c s1 v1 wr) (hb : Below wr.heap.size wr w1) (hlt : w.heap.size < wr.heap.size ∧ b < wr.heap.size) : OnS w b o s a n c s1 v1 w1 :=
 ⟨h.1.below hb hlt.1, cell_same (hb.block b hlt.2) h.2.1, cell_same (hb.block b hlt.2) h.2.2⟩
theorem OnS.alloc {w wr : World} {b o n c : Nat} {s s1 : ByteArray} {a : Option Addr} {v1 : Value} (h : OnS w b o s a n c s1 v1 wr) (x : Obj) : OnS w b o s a n c s1 v1 (wr.alloc x) :=
 ⟨h.1.alloc x, cell_same (Below.heap_alloc _ _ _ (cell_lt h.2.1)) h.2.1, cell_same (Below.heap_alloc _ _ _ (cell_lt h.2.1)) h.2.2⟩
theorem OnS.grown {w wr w3 : World} {b o n c : Nat} {s s1 : ByteArray} {a : Option Addr} {v1 : Value} {row : Option Nat} (h : OnS w b o s a n c s1 v1 wr) (hg : wr.grownBy w3 row) (hne : ∀ j, j ≤ w.heap.size → some j ≠ row) (hb : b < w.heap.size) (_ : True) : OnS w b o s a n c s1 v1 w3 :=
 ⟨h.1.grown hg (hne _ (Nat.le_refl _)), cell_same (hg.block b (cell_lt h.2.1) (hne b (by omega))) h.2.1, cell_same (hg.block b (cell_lt h.2.1) (hne b (by omega))) h.2.2⟩
theorem OnS.set {w wr : World} {b o n c : Nat} {s s1 : ByteArray} {a : Option Addr} {v1 : Value} {O i : Nat} (h : OnS w b o s a n c s1 v1 wr) (v : Value) (_ : True) (hO : w.heap.size ≠ O) (hb : b ≠ O) : OnS w b o s a n c s1 v1 (wr.setCell ⟨O, i, none⟩ v) :=
 ⟨h.1.setOther _ _ hO, cell_same (Below.heap_setCell _ _ _ _ (by simpa using hb)) h.2.1, cell_same (Below.heap_setCell _ _ _ _ (by simpa using hb)) h.2.2⟩
theorem hxb {w : World} {X : Nat → Prop} {b o : Nat} {l : List Tm} (h : Sl w X (some ⟨b, o, none⟩) l) (hl : 0 < l.length) : b < w.heap.size := by
 obtain ⟨_, h⟩ := h
 rcases h with rfl | ⟨b', o', e, h⟩
 ·simp at hl
 ·simp at e
  obtain ⟨rfl, rfl⟩ := e
  exact cell_lt (lies_get l b o h 0 hl).2.1
def OnSet (w : World) (Y : Nat → Prop) (O : Nat) (s : ByteArray) (a : Option Addr) (n c : Nat) (u : Value) (L : List Tm) (wr : World) : Prop :=
 ∃ xs, Row wr (O + 1) 27 Y u L xs ∧ Below w.heap.size w wr ∧ Blk wr w.heap.size #[.string s, .slice a n c] 27 ∧ Blk wr (w.heap.size + 1) #[.string ⟨#[]⟩, .slice none 0 0] 27 ∧ Blk wr O #[.string s, u] 27 ∧ O < wr.heap.size
def OnInv (w : World) (Y : Nat → Prop) (O : Nat) (s : ByteArray) (a : Option Addr) (c : Nat) (ls : List Bd) (l : List Tm) (i : Value) (wr : World) : Prop :=
 ∃ (k : Nat) (u : Value), k ≤ l.length ∧ i = .int .i64 (k : Int) ∧ OnSet w Y O s a l.length c u (onL ls (l.take k)) wr
theorem on_step {w wr w1 w3 : World} {Y : Nat → Prop} {O n c : Nat} {u : Value} {L : List Tm} {xs : List Value} {o2 : Obj} {s s' : ByteArray} {a a1 : Option Addr} {n1 c1 g cap : Nat} {t : Tm} (hO : w.heap.size + 2 ≤ O) (hY : ∀ b, Y b → b < w.heap.size)
  (hrow : Row wr (O + 1) 27 Y u L xs) (hx : Below w.heap.size w wr) (hT : Blk wr w.heap.size #[.string s, .slice a n c] 27) (hR : Blk wr (w.heap.size + 1) #[.string ⟨#[]⟩, .slice none 0 0] 27) (hOb : Blk wr O #[.string s, u] 27)
  (he1 : Below wr.heap.size wr w1) (ht : TV w1 (fun b => Y b ∨ wr.heap.size ≤ b) (.agg #[.string s', .slice a1 n1 c1]) t)
  (hown : w3.ownsRow (O + 1) 27 2 (.slice (some ⟨g, 0, none⟩) (L.length + 1) cap) (L.length + 1) (xs ++ [.string s', .slice a1 n1 c1])) (hg : (w1.alloc o2).grownBy w3 u.ownBlock) (hat : u.ownBlock = some g ∨ g = (w1.alloc o2).heap.size) :
  OnSet w Y O s a n c (.slice (some ⟨g, 0, none⟩) (L.length + 1) cap) (L ++ [t]) (w3.setCell ⟨O, 1, none⟩ (.slice (some ⟨g, 0, none⟩) (L.length + 1) cap)) := by
 have hlt' := hrow.own.lt
 have hOl := hOb.lt
 have hp := hrow.push (w1 := w1) (w2 := w1.alloc o2) (w3 := w3) (by omega) (fun b h => by have := hY b h; omega) he1 ht o2 rfl hown hg hat
 have hne : ∀ b, b < O + 1 → some b ≠ u.ownBlock := fun b hb e => by have := (hlt' b e.symm).1; omega
 have hs1 := he1.size
 have hsx := hx.size
 have hx3 : Below w.heap.size w w3 := ((hx.trans (he1.mono (by omega))).alloc (by omega) o2).grown hg (by simp; omega) (fun k hk => by have := (hlt' k hk).1; omega)
 have hs3 := hg.size
 simp at hs3
 refine ⟨_, hp.setCell (by omega) (fun h => by have := hY _ h; omega) _, hx3.setCell (p := ⟨O, 1, none⟩) (by simp; omega) _, ?_, ?_, ?_, by simp [World.setCell]; omega⟩
 ·exact (((hT.below he1 (by omega)).alloc o2).grown hg (hne _ (by omega))).setOther _ _ (by omega)
 ·exact (((hR.below he1 (by omega)).alloc o2).grown hg (hne _ (by omega))).setOther _ _ (by omega)
 ·exact (((hOb.below he1 (by omega)).alloc o2).grown hg (hne _ (by omega))).set 1 _
set_option maxHeartbeats 2000000 in
theorem on_any (ls : List Bd) (t : Tm) : ∀ (u v : Value) (w : World) (X : Nat → Prop), BV w X u ls → TV w X v t → sizeL [t] ≤ 1000000 →
  Calls Tryz.prog 83 #[u, v] w fun e w' => OnPost w X (onT ls t) e w' := by
 induction t using Tm.ind with
 | h s l ih =>
  intro u v w X hu hv hsm
  obtain ⟨a, c, rfl, hs⟩ := hv
  have IH := hide ih
  have HU := hide hu
  have HS := hide hs
  have hl := hs.1
  have hz : sizeL [(⟨s, l⟩ : Tm)] = 1 + sizeL l := by simp [sizeL]
  rw [hz] at hsm
  have hlen := sizeL_len l
  clear ih hu hs hz
  obtain ⟨i0, hi0, hz0, hz1, hz2⟩ := info_parts Tryz.infoTerm
  go_enter Tryz.func83, Tryz.ntmps83
  go_wp2_with fail
  refine (for_any ls s u _ (fun b => X b ∧ b < w.heap.size) (by exact ((HU.out.mono fun b h1 h2 => ⟨h1, h2⟩).alloc _).alloc _)).mono ?_
  rintro e w1 ⟨hb1, hcase⟩
  have T1 := hide (((Blk.new w #[.string s, .slice a l.length c] 27).alloc (.cells #[.string ⟨#[]⟩, .slice none 0 0] 27)).below hb1 (by simp; omega))
  have R1 : Hid (Blk w1 (w.heap.size + 1) #[.string ⟨#[]⟩, .slice none 0 0] 27) := by
   have h := (Blk.new (w.alloc (.cells #[.string s, .slice a l.length c] 27)) #[.string ⟨#[]⟩, .slice none 0 0] 27).below hb1 (by simp)
   unfold Hid
   simpa using h
  have B1 := hide ((((Below.refl w.heap.size w).alloc (Nat.le_refl _) (.cells #[.string s, .slice a l.length c] 27)).alloc (by simp) (.cells #[.string ⟨#[]⟩, .slice none 0 0] 27)).trans (hb1.mono (by simp; omega)))
  have hlt1 : w.heap.size < w1.heap.size := T1.out.lt
  have hlt1' : w.heap.size + 1 < w1.heap.size := R1.out.lt
  clear hb1
  have t0 : ∀ o, (w1.alloc o).cell? ⟨w.heap.size, 0, none⟩ = some (.string s) := fun o => (T1.out.alloc o).cell 0
  have t1 : ∀ o, (w1.alloc o).cell? ⟨w.heap.size, 1, none⟩ = some (.slice a l.length c) := fun o => (T1.out.alloc o).cell 1
  rcases hcase with ⟨x, ax, cx, hf, rfl, hsx⟩ | ⟨hf, rfl⟩
  ·by_cases hl0 : l = []
   ·subst hl0
    have HF := hide (onT_some hf)
    have SX := hide hsx
    clear hf hsx
    have r0 := R1.out.c0
    have r1 := R1.out.c1
    have rf := R1.out.frozen
    go_wp2_with fail
    refine bodyPost_ret (v := .agg #[.string x.name, .slice ax x.args.length cx]) (by simp [results, Tryz.results83, go_sem, World.cell?_setCell_same, World.cell?_setCell_other, r0, r1, hlt1', World.cell?_alloc_old]) rfl ?_
    rw [HF.out]
    refine ⟨ax, cx, rfl, ?_, ((B1.out.setCell (by simp) _).setCell (by simp) _).alloc (by have := B1.out.size; simpa [World.setCell] using this) _⟩
    refine ((SX.out.mono (Y := fun b => X b ∧ b < w.heap.size) fun b h1 _ => h1.1).kept fun b hb => ?_).mono fun b hb _ => Or.inl hb
    rw [Below.heap_alloc _ _ _ (by simp [World.setCell]; omega), Below.heap_setCell _ _ _ _ (by simp; omega), Below.heap_setCell _ _ _ _ (by simp; omega)]
   ·have HD : Hid (onT ls ⟨s, l⟩ = ⟨s, onL ls l⟩) := onT_deep (Or.inl hl0)
    have hlp : ((l.length : Int) == 0) = false := beq_eq_false_iff_ne.2 (by have := List.length_pos_iff.2 hl0; omega)
    clear hf hsx
    go_wp2_with fail
    have T3 := hide ((T1.out.alloc (.cells #[.string x.name, .slice ax x.args.length cx] 27)).alloc (.cells #[.string s, .slice none 0 0] 27))
    have R3 := hide ((R1.out.alloc (.cells #[.string x.name, .slice ax x.args.length cx] 27)).alloc (.cells #[.string s, .slice none 0 0] 27))
    have O3 := hide (Blk.new (w1.alloc (.cells #[.string x.name, .slice ax x.args.length cx] 27)) #[.string s, .slice none 0 0] 27)
    have B3 := hide ((B1.out.alloc B1.out.size (.cells #[.string x.name, .slice ax x.args.length cx] 27)).alloc (by have := B1.out.size; simp; omega) (.cells #[.string s, .slice none 0 0] 27))
    have HO3 := hide (O3.out.lt)
    have hO : w.heap.size + 2 ≤ (w1.alloc (.cells #[.string x.name, .slice ax x.args.length cx] 27)).heap.size := by have := R1.out.lt; simp; omega
    have eO : (w1.alloc (.cells #[.string x.name, .slice ax x.args.length cx] 27)).heap.size = w1.heap.size + 1 := by simp
    rw [eO] at O3 HO3 hO
    clear eO
    generalize (w1.alloc (.cells #[.string x.name, .slice ax x.args.length cx] 27)).alloc (.cells #[.string s, .slice none 0 0] 27) = w3 at *
    generalize w1.heap.size + 1 = O at *
    clear t0 t1
    have hY : ∀ b, (X b ∧ b < w.heap.size) → b < w.heap.size := fun b h => h.2
    go_loopw [8] (fun i wr => OnInv w (fun b => X b ∧ b < w.heap.size) O s a c ls l i wr) (fun i wr => l.length - (intOf i).toNat)
    case atStart => exact ⟨0, .slice none 0 0, Nat.zero_le _, rfl, [], by have h := Row.start w3 (O + 1) 27 (fun b => X b ∧ b < w.heap.size); simpa [onL] using h, B3.out, T3.out, R3.out, O3.out, HO3.out⟩
    case round =>
     obtain ⟨k, u9, hk, rfl, xs, hrow, hbb, hT, hR, hOb, hOl⟩ := hrel
     have XW := hide hrow
     have XE := hide hbb
     have XT := hide hT
     have XR := hide hR
     have XO := hide hOb
     clear hrow hbb hT hR hOb
     have c0 := XT.out.c0
     have c1 := XT.out.c1
     have o0 := XO.out.c0
     have o1 : wr.cell? ⟨O, 1, none⟩ = some u9 := XO.out.cell 1
     by_cases hlt : k < l.length
     ·obtain ⟨b, o, a', c', rfl, d0, d1, hx⟩ := (HS.out.mono (Y := fun b => X b ∧ b < w.heap.size) fun b h1 h2 => ⟨h1, h2⟩).get XE.out (fun b h _ => h.2) k hlt
      have HX := hide hx
      have hXb : b < w.heap.size := hxb HS.out (Nat.lt_of_le_of_lt (Nat.zero_le k) hlt)
      have hszk : sizeL [l[k]] ≤ 1000000 := by
       have := sizeL_take l k hlt
       have := sizeL_take_le l (k + 1)
       omega
      have hOL : (onL ls (l.take k)).length = k := by rw [onL_length]; simp; omega
      have IHQ : Hid (Calls Tryz.prog 83 #[u, .agg #[.string l[k].name, .slice a' l[k].args.length c']] wr.drew fun e w'' => ∃ a1 c1, e = .returned (.agg #[.string (onT ls l[k]).name, .slice a1 (onT ls l[k]).args.length c1]) ∧ Sl w'' (fun b => (X b ∧ b < w.heap.size) ∨ wr.heap.size ≤ b) a1 (onT ls l[k]).args ∧ Below wr.heap.size wr w'') := (IH.out l[k] (List.getElem_mem hlt) u _ wr.drew (fun b => X b ∧ b < w.heap.size) ((HU.out.mono fun b h1 h2 => ⟨h1, h2⟩).later (XE.out.drew)) (HX.out.later ((Below.refl wr.heap.size wr).drew)) hszk).mono fun e w'' hp => by
       obtain ⟨a1, c1, h1, h2, h3⟩ := hp
       exact ⟨a1, c1, h1, h2.mono (fun b hb _ => hb.imp (fun h => h.1) id), ((Below.refl wr.heap.size wr).drew).trans h3⟩
      have HN1 : Hid (∀ a1 c1, ∀ x ∈ [Value.string (onT ls l[k]).name, Value.slice a1 (onT ls l[k]).args.length c1], x.oneCell' = true) := fun a1 c1 x hx => by simp at hx; rcases hx with rfl | rfl <;> rfl
      have HL1 : Hid ((onL ls (l.take k)).length + 1 ≤ maxLen ∧ ((onL ls (l.take k)).length + 1) * 40 ≤ 140737488355328) := ⟨by rw [hOL]; unfold maxLen; omega, by rw [hOL]; omega⟩
      clear hOL
      have HBW : Hid (w.heap.size < wr.heap.size ∧ b < wr.heap.size) := ⟨XT.out.lt, by have := XT.out.lt; omega⟩
      have HS8 : Hid (OnS w b (o + k * 2) s (some ⟨b, o, none⟩) l.length c l[k].name (.slice a' l[k].args.length c') wr) := ⟨XT.out, d0, d1⟩
      go_wp2_with fail
      refine wp_region_held_drew (S := OnS w b (o + k * 2) s (some ⟨b, o, none⟩) l.length c l[k].name (.slice a' l[k].args.length c')) (by kernel_rfl) (by exact HS8.out) (fun hHeld => ?_)
      refine tkq (v := ?_) 0 rfl ?_ ?_
      rotate_left
      ·intro w' hSw
       go_simp <;> with_reducible rfl
      try simp only [Act.put, sq]
      refine tkq (v := ?_) 2 rfl ?_ ?_
      rotate_left
      ·intro w' hSw
       go_simp <;> with_reducible rfl
      try simp only [Act.put, sq]
      refine tkq (v := ?_) 3 rfl ?_ ?_
      rotate_left
      ·intro w' hSw
       go_simp <;> with_reducible rfl
      try simp only [Act.put, sq]
      refine tkq (v := ?_) 5 rfl ?_ ?_
      rotate_left
      ·intro w' hSw
       go_simp <;> with_reducible rfl
      try simp only [Act.put, sq]
      refine tkq (v := ?_) 4 rfl ?_ ?_
      rotate_left
      ·intro w' hSw
       have k1 : w'.cell? ⟨w.heap.size, 1, none⟩ = some (.slice (some ⟨b, o, none⟩) l.length c) := hSw.1.cell 1
       go_simp <;> with_reducible rfl
      try simp only [Act.put, sq]
      refine tkq (v := ?_) 6 rfl ?_ ?_
      rotate_left
      ·intro w' hSw
       go_simp <;> with_reducible rfl
      try simp only [Act.put, sq]
      refine tkq (v := ?_) 7 rfl ?_ ?_
      rotate_left
      ·intro w' hSw
       have k2 := hSw.2.1
       have k3 := hSw.2.2
       go_simp <;> with_reducible rfl
      try simp only [Act.put, sq]
      refine wpAnyH_ready (rs := [1, 8]) (by kernel_rfl) (by simp) ?_
      refine AllReadyH.cons rfl (fun K hK => ?_) (AllReadyH.cons rfl (fun K hK => ?_) AllReadyH.nil)
      ·go_simp
       refine hK.out _ _ (by exact hHeld) (fun hHeld => ?_)
       clear hK K
       try simp only [Act.put, sq]
       refine rdq 8 rfl fun K hK => ?_
       ·go_simp
        go_at_call 83
        refine IHQ.out.mono ?_
        rintro e w1 ⟨a1, c1, rfl, hs1, hb1⟩
        have hc3 : ∀ o, (w1.alloc o).cell? ⟨O, 1, none⟩ = some u9 := fun o => ((XO.out.below hb1 hOl).alloc o).cell 1
        have hc4 : w1.cell? ⟨O, 1, none⟩ = some u9 := (XO.out.below hb1 hOl).cell 1
        go_simp
        refine hK.out _ _ (by exact OnS.below HS8.out hb1 HBW.out) (fun hHeld => ?_)
        clear hK K
        try simp only [Act.put, sq]
        refine rdq 9 rfl fun K hK => ?_
        ·go_simp
         refine hK.out _ _ (by exact hHeld.alloc _) (fun hHeld => ?_)
         clear hK K
         try simp only [Act.put, sq]
         refine rdq 10 rfl fun K hK => ?_
         ·refine step_append_lies _ rfl _ _ 25 rfl (O + 1) 27 i0 _ 2 40 Tryz.underlying25 hi0 hz0 hz1 hz2 rfl (by decide) u9 (onL ls (l.take k)).length xs rfl (by exact (XW.out.below hb1).own.alloc _) ⟨w1.heap.size, 0, none⟩ 1 1 [.string (onT ls l[k]).name, .slice a1 (onT ls l[k]).args.length c1] rfl rfl (cell_two_new _ _ _ _) (HN1.out a1 c1) (by decide) HL1.out.1 HL1.out.2 (by have := hb1.size; simp; omega) _ rfl ?_
          intro g cap w3 hown3 hgrow3 hat3 hlt3
          have hB3 := hide (((XO.out.below hb1 hOl).alloc _).grown hgrow3 (XW.out.ne (Nat.lt_succ_self _)))
          have hc5 : w3.cell? ⟨O, 1, none⟩ = some u9 := hB3.out.cell 1
          have hf5 := hB3.out.frozen 1
          have HFIN := hide (on_step (c := c) (n := l.length) (a := some ⟨b, o, none⟩) hO hY XW.out XE.out XT.out XR.out XO.out hb1 ⟨a1, c1, rfl, hs1⟩ hown3 hgrow3 hat3)
          refine hK.out _ _ (by exact OnS.grown hHeld hgrow3 (fun j hj => XW.out.ne (by omega)) hXb trivial) (fun hHeld => ?_)
          clear hK K
          try simp only [Act.put, sq]
          refine tkq (v := ?_) 11 rfl ?_ ?_
          rotate_left
          ·intro w' hSw
           go_simp <;> with_reducible rfl
          try simp only [Act.put, sq]
          refine rdq 12 rfl fun K hK => ?_
          ·go_simp
           refine hK.out _ _ (by exact OnS.set hHeld _ trivial (by omega) (by omega)) (fun hHeld => ?_)
           clear hK K
           try simp only [Act.put, sq]
           refine wpAnyH_done (by kernel_rfl) ?_ _
           clear hc3 hc4 hc5 hf5 hown3 hgrow3 hat3 hlt3 hB3 hHeld
           go_wp2_with fail
           go_roundw
           case rel =>
            refine ⟨k + 1, .slice (some ⟨g, 0, none⟩) ((onL ls (l.take k)).length + 1) cap, by omega, by go_num, ?_⟩
            rw [onL_take ls l k hlt]
            exact HFIN.out
           case measure => simp [intOf]; omega
      ·go_simp
       go_at_call 83
       refine IHQ.out.mono ?_
       rintro e w1 ⟨a1, c1, rfl, hs1, hb1⟩
       have hc3 : ∀ o, (w1.alloc o).cell? ⟨O, 1, none⟩ = some u9 := fun o => ((XO.out.below hb1 hOl).alloc o).cell 1
       have hc4 : w1.cell? ⟨O, 1, none⟩ = some u9 := (XO.out.below hb1 hOl).cell 1
       go_simp
       refine hK.out _ _ (by exact OnS.below HS8.out hb1 HBW.out) (fun hHeld => ?_)
       clear hK K
       try simp only [Act.put, sq]
       refine wpAnyH_ready (rs := [1, 9]) (by kernel_rfl) (by simp) ?_
       refine AllReadyH.cons rfl (fun K hK => ?_) (AllReadyH.cons rfl (fun K hK => ?_) AllReadyH.nil)
       ·go_simp
        refine hK.out _ _ (by exact hHeld) (fun hHeld => ?_)
        clear hK K
        try simp only [Act.put, sq]
        refine rdq 9 rfl fun K hK => ?_
        ·go_simp
         refine hK.out _ _ (by exact hHeld.alloc _) (fun hHeld => ?_)
         clear hK K
         try simp only [Act.put, sq]
         refine rdq 10 rfl fun K hK => ?_
         ·refine step_append_lies _ rfl _ _ 25 rfl (O + 1) 27 i0 _ 2 40 Tryz.underlying25 hi0 hz0 hz1 hz2 rfl (by decide) u9 (onL ls (l.take k)).length xs rfl (by exact (XW.out.below hb1).own.alloc _) ⟨w1.heap.size, 0, none⟩ 1 1 [.string (onT ls l[k]).name, .slice a1 (onT ls l[k]).args.length c1] rfl rfl (cell_two_new _ _ _ _) (HN1.out a1 c1) (by decide) HL1.out.1 HL1.out.2 (by have := hb1.size; simp; omega) _ rfl ?_
          intro g cap w3 hown3 hgrow3 hat3 hlt3
          have hB3 := hide (((XO.out.below hb1 hOl).alloc _).grown hgrow3 (XW.out.ne (Nat.lt_succ_self _)))
          have hc5 : w3.cell? ⟨O, 1, none⟩ = some u9 := hB3.out.cell 1
          have hf5 := hB3.out.frozen 1
          have HFIN := hide (on_step (c := c) (n := l.length) (a := some ⟨b, o, none⟩) hO hY XW.out XE.out XT.out XR.out XO.out hb1 ⟨a1, c1, rfl, hs1⟩ hown3 hgrow3 hat3)
          refine hK.out _ _ (by exact OnS.grown hHeld hgrow3 (fun j hj => XW.out.ne (by omega)) hXb trivial) (fun hHeld => ?_)
          clear hK K
          try simp only [Act.put, sq]
          refine tkq (v := ?_) 11 rfl ?_ ?_
          rotate_left
          ·intro w' hSw
           go_simp <;> with_reducible rfl
          try simp only [Act.put, sq]
          refine rdq 12 rfl fun K hK => ?_
          ·go_simp
           refine hK.out _ _ (by exact OnS.set hHeld _ trivial (by omega) (by omega)) (fun hHeld => ?_)
           clear hK K
           try simp only [Act.put, sq]
           refine wpAnyH_done (by kernel_rfl) ?_ _
           clear hc3 hc4 hc5 hf5 hown3 hgrow3 hat3 hlt3 hB3 hHeld
           go_wp2_with fail
           go_roundw
           case rel =>
            refine ⟨k + 1, .slice (some ⟨g, 0, none⟩) ((onL ls (l.take k)).length + 1) cap, by omega, by go_num, ?_⟩
            rw [onL_take ls l k hlt]
            exact HFIN.out
           case measure => simp [intOf]; omega
       ·go_simp
        refine hK.out _ _ (by exact hHeld.alloc _) (fun hHeld => ?_)
        clear hK K
        try simp only [Act.put, sq]
        refine rdq 1 rfl fun K hK => ?_
        ·go_simp
         refine hK.out _ _ (by exact hHeld) (fun hHeld => ?_)
         clear hK K
         try simp only [Act.put, sq]
         refine rdq 10 rfl fun K hK => ?_
         ·refine step_append_lies _ rfl _ _ 25 rfl (O + 1) 27 i0 _ 2 40 Tryz.underlying25 hi0 hz0 hz1 hz2 rfl (by decide) u9 (onL ls (l.take k)).length xs rfl (by exact (XW.out.below hb1).own.alloc _) ⟨w1.heap.size, 0, none⟩ 1 1 [.string (onT ls l[k]).name, .slice a1 (onT ls l[k]).args.length c1] rfl rfl (cell_two_new _ _ _ _) (HN1.out a1 c1) (by decide) HL1.out.1 HL1.out.2 (by have := hb1.size; simp; omega) _ rfl ?_
          intro g cap w3 hown3 hgrow3 hat3 hlt3
          have hB3 := hide (((XO.out.below hb1 hOl).alloc _).grown hgrow3 (XW.out.ne (Nat.lt_succ_self _)))
          have hc5 : w3.cell? ⟨O, 1, none⟩ = some u9 := hB3.out.cell 1
          have hf5 := hB3.out.frozen 1
          have HFIN := hide (on_step (c := c) (n := l.length) (a := some ⟨b, o, none⟩) hO hY XW.out XE.out XT.out XR.out XO.out hb1 ⟨a1, c1, rfl, hs1⟩ hown3 hgrow3 hat3)
          refine hK.out _ _ (by exact OnS.grown hHeld hgrow3 (fun j hj => XW.out.ne (by omega)) hXb trivial) (fun hHeld => ?_)
          clear hK K
          try simp only [Act.put, sq]
          refine tkq (v := ?_) 11 rfl ?_ ?_
          rotate_left
          ·intro w' hSw
           go_simp <;> with_reducible rfl
          try simp only [Act.put, sq]
          refine rdq 12 rfl fun K hK => ?_
          ·go_simp
           refine hK.out _ _ (by exact OnS.set hHeld _ trivial (by omega) (by omega)) (fun hHeld => ?_)
           clear hK K
           try simp only [Act.put, sq]
           refine wpAnyH_done (by kernel_rfl) ?_ _
           clear hc3 hc4 hc5 hf5 hown3 hgrow3 hat3 hlt3 hB3 hHeld
           go_wp2_with fail
           go_roundw
           case rel =>
            refine ⟨k + 1, .slice (some ⟨g, 0, none⟩) ((onL ls (l.take k)).length + 1) cap, by omega, by go_num, ?_⟩
            rw [onL_take ls l k hlt]
            exact HFIN.out
           case measure => simp [intOf]; omega
     ·have htk : l.take k = l := List.take_of_length_le (by omega)
      rw [htk] at XW
      obtain ⟨a9, c9, hu9, hsl9⟩ := XW.out.sl
      subst hu9
      have S9 := hide hsl9
      have r0 := XR.out.c0
      have r1 := XR.out.c1
      have rf := XR.out.frozen
      clear hsl9 htk
      go_wp2_with fail
      refine bodyPost_ret (v := .agg #[.string s, .slice a9 (onL ls l).length c9]) (by simp [results, Tryz.results83, go_sem, World.cell?_setCell_same, World.cell?_setCell_other, r0, r1]) rfl ?_
      rw [HD.out]
      refine ⟨a9, c9, rfl, (S9.out.kept fun b hb => ?_).mono fun b hb _ => hb.imp id (fun h => by omega), (XE.out.setCell (by simp) _).setCell (by simp) _⟩
      have hbne : b ≠ w.heap.size + 1 := by
       rcases hb with h | h
       ·have := h.2; omega
       ·omega
      rw [Below.heap_setCell _ _ _ _ (by simpa using hbne), Below.heap_setCell _ _ _ _ (by simpa using hbne)]
  ·have HD : Hid (onT ls ⟨s, l⟩ = ⟨s, onL ls l⟩) := onT_deep (Or.inr hf)
   clear hf
   go_wp2_with fail
   have T3 := hide ((T1.out.alloc (.cells #[.string ⟨#[]⟩, .slice none 0 0] 27)).alloc (.cells #[.string s, .slice none 0 0] 27))
   have R3 := hide ((R1.out.alloc (.cells #[.string ⟨#[]⟩, .slice none 0 0] 27)).alloc (.cells #[.string s, .slice none 0 0] 27))
   have O3 := hide (Blk.new (w1.alloc (.cells #[.string ⟨#[]⟩, .slice none 0 0] 27)) #[.string s, .slice none 0 0] 27)
   have B3 := hide ((B1.out.alloc B1.out.size (.cells #[.string ⟨#[]⟩, .slice none 0 0] 27)).alloc (by have := B1.out.size; simp; omega) (.cells #[.string s, .slice none 0 0] 27))
   have HO3 := hide (O3.out.lt)
   have hO : w.heap.size + 2 ≤ (w1.alloc (.cells #[.string ⟨#[]⟩, .slice none 0 0] 27)).heap.size := by have := R1.out.lt; simp; omega
   have eO : (w1.alloc (.cells #[.string ⟨#[]⟩, .slice none 0 0] 27)).heap.size = w1.heap.size + 1 := by simp
   rw [eO] at O3 HO3 hO
   clear eO
   generalize (w1.alloc (.cells #[.string ⟨#[]⟩, .slice none 0 0] 27)).alloc (.cells #[.string s, .slice none 0 0] 27) = w3 at *
   generalize w1.heap.size + 1 = O at *
   clear t0 t1
   have hY : ∀ b, (X b ∧ b < w.heap.size) → b < w.heap.size := fun b h => h.2
   go_loopw [8] (fun i wr => OnInv w (fun b => X b ∧ b < w.heap.size) O s a c ls l i wr) (fun i wr => l.length - (intOf i).toNat)
   case atStart => exact ⟨0, .slice none 0 0, Nat.zero_le _, rfl, [], by have h := Row.start w3 (O + 1) 27 (fun b => X b ∧ b < w.heap.size); simpa [onL] using h, B3.out, T3.out, R3.out, O3.out, HO3.out⟩
   case round =>
    obtain ⟨k, u9, hk, rfl, xs, hrow, hbb, hT, hR, hOb, hOl⟩ := hrel
    have XW := hide hrow
    have XE := hide hbb
    have XT := hide hT
    have XR := hide hR
    have XO := hide hOb
    clear hrow hbb hT hR hOb
    have c0 := XT.out.c0
    have c1 := XT.out.c1
    have o0 := XO.out.c0
    have o1 : wr.cell? ⟨O, 1, none⟩ = some u9 := XO.out.cell 1
    by_cases hlt : k < l.length
    ·obtain ⟨b, o, a', c', rfl, d0, d1, hx⟩ := (HS.out.mono (Y := fun b => X b ∧ b < w.heap.size) fun b h1 h2 => ⟨h1, h2⟩).get XE.out (fun b h _ => h.2) k hlt
     have HX := hide hx
     have hXb : b < w.heap.size := hxb HS.out (Nat.lt_of_le_of_lt (Nat.zero_le k) hlt)
     have hszk : sizeL [l[k]] ≤ 1000000 := by
      have := sizeL_take l k hlt
      have := sizeL_take_le l (k + 1)
      omega
     have hOL : (onL ls (l.take k)).length = k := by rw [onL_length]; simp; omega
     have IHQ : Hid (Calls Tryz.prog 83 #[u, .agg #[.string l[k].name, .slice a' l[k].args.length c']] wr.drew fun e w'' => ∃ a1 c1, e = .returned (.agg #[.string (onT ls l[k]).name, .slice a1 (onT ls l[k]).args.length c1]) ∧ Sl w'' (fun b => (X b ∧ b < w.heap.size) ∨ wr.heap.size ≤ b) a1 (onT ls l[k]).args ∧ Below wr.heap.size wr w'') := (IH.out l[k] (List.getElem_mem hlt) u _ wr.drew (fun b => X b ∧ b < w.heap.size) ((HU.out.mono fun b h1 h2 => ⟨h1, h2⟩).later (XE.out.drew)) (HX.out.later ((Below.refl wr.heap.size wr).drew)) hszk).mono fun e w'' hp => by
      obtain ⟨a1, c1, h1, h2, h3⟩ := hp
      exact ⟨a1, c1, h1, h2.mono (fun b hb _ => hb.imp (fun h => h.1) id), ((Below.refl wr.heap.size wr).drew).trans h3⟩
     have HN1 : Hid (∀ a1 c1, ∀ x ∈ [Value.string (onT ls l[k]).name, Value.slice a1 (onT ls l[k]).args.length c1], x.oneCell' = true) := fun a1 c1 x hx => by simp at hx; rcases hx with rfl | rfl <;> rfl
     have HL1 : Hid ((onL ls (l.take k)).length + 1 ≤ maxLen ∧ ((onL ls (l.take k)).length + 1) * 40 ≤ 140737488355328) := ⟨by rw [hOL]; unfold maxLen; omega, by rw [hOL]; omega⟩
     clear hOL
     have HBW : Hid (w.heap.size < wr.heap.size ∧ b < wr.heap.size) := ⟨XT.out.lt, by have := XT.out.lt; omega⟩
     have HS8 : Hid (OnS w b (o + k * 2) s (some ⟨b, o, none⟩) l.length c l[k].name (.slice a' l[k].args.length c') wr) := ⟨XT.out, d0, d1⟩
     go_wp2_with fail
     refine wp_region_held_drew (S := OnS w b (o + k * 2) s (some ⟨b, o, none⟩) l.length c l[k].name (.slice a' l[k].args.length c')) (by kernel_rfl) (by exact HS8.out) (fun hHeld => ?_)
     refine tkq (v := ?_) 0 rfl ?_ ?_
     rotate_left
     ·intro w' hSw
      go_simp <;> with_reducible rfl
     try simp only [Act.put, sq]
     refine tkq (v := ?_) 2 rfl ?_ ?_
     rotate_left
     ·intro w' hSw
      go_simp <;> with_reducible rfl
     try simp only [Act.put, sq]
     refine tkq (v := ?_) 3 rfl ?_ ?_
     rotate_left
     ·intro w' hSw
      go_simp <;> with_reducible rfl
     try simp only [Act.put, sq]
     refine tkq (v := ?_) 5 rfl ?_ ?_
     rotate_left
     ·intro w' hSw
      go_simp <;> with_reducible rfl
     try simp only [Act.put, sq]
     refine tkq (v := ?_) 4 rfl ?_ ?_
     rotate_left
     ·intro w' hSw
      have k1 : w'.cell? ⟨w.heap.size, 1, none⟩ = some (.slice (some ⟨b, o, none⟩) l.length c) := hSw.1.cell 1
      go_simp <;> with_reducible rfl
     try simp only [Act.put, sq]
     refine tkq (v := ?_) 6 rfl ?_ ?_
     rotate_left
     ·intro w' hSw
      go_simp <;> with_reducible rfl
     try simp only [Act.put, sq]
     refine tkq (v := ?_) 7 rfl ?_ ?_
     rotate_left
     ·intro w' hSw
      have k2 := hSw.2.1
      have k3 := hSw.2.2
      go_simp <;> with_reducible rfl
     try simp only [Act.put, sq]
     refine wpAnyH_ready (rs := [1, 8]) (by kernel_rfl) (by simp) ?_
     refine AllReadyH.cons rfl (fun K hK => ?_) (AllReadyH.cons rfl (fun K hK => ?_) AllReadyH.nil)
     ·go_simp
      refine hK.out _ _ (by exact hHeld) (fun hHeld => ?_)
      clear hK K
      try simp only [Act.put, sq]
      refine rdq 8 rfl fun K hK => ?_
      ·go_simp
       go_at_call 83
       refine IHQ.out.mono ?_
       rintro e w1 ⟨a1, c1, rfl, hs1, hb1⟩
       have hc3 : ∀ o, (w1.alloc o).cell? ⟨O, 1, none⟩ = some u9 := fun o => ((XO.out.below hb1 hOl).alloc o).cell 1
       have hc4 : w1.cell? ⟨O, 1, none⟩ = some u9 := (XO.out.below hb1 hOl).cell 1
       go_simp
       refine hK.out _ _ (by exact OnS.below HS8.out hb1 HBW.out) (fun hHeld => ?_)
       clear hK K
       try simp only [Act.put, sq]
       refine rdq 9 rfl fun K hK => ?_
       ·go_simp
        refine hK.out _ _ (by exact hHeld.alloc _) (fun hHeld => ?_)
        clear hK K
        try simp only [Act.put, sq]
        refine rdq 10 rfl fun K hK => ?_
        ·refine step_append_lies _ rfl _ _ 25 rfl (O + 1) 27 i0 _ 2 40 Tryz.underlying25 hi0 hz0 hz1 hz2 rfl (by decide) u9 (onL ls (l.take k)).length xs rfl (by exact (XW.out.below hb1).own.alloc _) ⟨w1.heap.size, 0, none⟩ 1 1 [.string (onT ls l[k]).name, .slice a1 (onT ls l[k]).args.length c1] rfl rfl (cell_two_new _ _ _ _) (HN1.out a1 c1) (by decide) HL1.out.1 HL1.out.2 (by have := hb1.size; simp; omega) _ rfl ?_
         intro g cap w3 hown3 hgrow3 hat3 hlt3
         have hB3 := hide (((XO.out.below hb1 hOl).alloc _).grown hgrow3 (XW.out.ne (Nat.lt_succ_self _)))
         have hc5 : w3.cell? ⟨O, 1, none⟩ = some u9 := hB3.out.cell 1
         have hf5 := hB3.out.frozen 1
         have HFIN := hide (on_step (c := c) (n := l.length) (a := some ⟨b, o, none⟩) hO hY XW.out XE.out XT.out XR.out XO.out hb1 ⟨a1, c1, rfl, hs1⟩ hown3 hgrow3 hat3)
         refine hK.out _ _ (by exact OnS.grown hHeld hgrow3 (fun j hj => XW.out.ne (by omega)) hXb trivial) (fun hHeld => ?_)
         clear hK K
         try simp only [Act.put, sq]
         refine tkq (v := ?_) 11 rfl ?_ ?_
         rotate_left
         ·intro w' hSw
          go_simp <;> with_reducible rfl
         try simp only [Act.put, sq]
         refine rdq 12 rfl fun K hK => ?_
         ·go_simp
          refine hK.out _ _ (by exact OnS.set hHeld _ trivial (by omega) (by omega)) (fun hHeld => ?_)
          clear hK K
          try simp only [Act.put, sq]
          refine wpAnyH_done (by kernel_rfl) ?_ _
          clear hc3 hc4 hc5 hf5 hown3 hgrow3 hat3 hlt3 hB3 hHeld
          go_wp2_with fail
          go_roundw
          case rel =>
           refine ⟨k + 1, .slice (some ⟨g, 0, none⟩) ((onL ls (l.take k)).length + 1) cap, by omega, by go_num, ?_⟩
           rw [onL_take ls l k hlt]
           exact HFIN.out
          case measure => simp [intOf]; omega
     ·go_simp
      go_at_call 83
      refine IHQ.out.mono ?_
      rintro e w1 ⟨a1, c1, rfl, hs1, hb1⟩
      have hc3 : ∀ o, (w1.alloc o).cell? ⟨O, 1, none⟩ = some u9 := fun o => ((XO.out.below hb1 hOl).alloc o).cell 1
      have hc4 : w1.cell? ⟨O, 1, none⟩ = some u9 := (XO.out.below hb1 hOl).cell 1
      go_simp
      refine hK.out _ _ (by exact OnS.below HS8.out hb1 HBW.out) (fun hHeld => ?_)
      clear hK K
      try simp only [Act.put, sq]
      refine wpAnyH_ready (rs := [1, 9]) (by kernel_rfl) (by simp) ?_
      refine AllReadyH.cons rfl (fun K hK => ?_) (AllReadyH.cons rfl (fun K hK => ?_) AllReadyH.nil)
      ·go_simp
       refine hK.out _ _ (by exact hHeld) (fun hHeld => ?_)
       clear hK K
       try simp only [Act.put, sq]
       refine rdq 9 rfl fun K hK => ?_
       ·go_simp
        refine hK.out _ _ (by exact hHeld.alloc _) (fun hHeld => ?_)
        clear hK K
        try simp only [Act.put, sq]
        refine rdq 10 rfl fun K hK => ?_
        ·refine step_append_lies _ rfl _ _ 25 rfl (O + 1) 27 i0 _ 2 40 Tryz.underlying25 hi0 hz0 hz1 hz2 rfl (by decide) u9 (onL ls (l.take k)).length xs rfl (by exact (XW.out.below hb1).own.alloc _) ⟨w1.heap.size, 0, none⟩ 1 1 [.string (onT ls l[k]).name, .slice a1 (onT ls l[k]).args.length c1] rfl rfl (cell_two_new _ _ _ _) (HN1.out a1 c1) (by decide) HL1.out.1 HL1.out.2 (by have := hb1.size; simp; omega) _ rfl ?_
         intro g cap w3 hown3 hgrow3 hat3 hlt3
         have hB3 := hide (((XO.out.below hb1 hOl).alloc _).grown hgrow3 (XW.out.ne (Nat.lt_succ_self _)))
         have hc5 : w3.cell? ⟨O, 1, none⟩ = some u9 := hB3.out.cell 1
         have hf5 := hB3.out.frozen 1
         have HFIN := hide (on_step (c := c) (n := l.length) (a := some ⟨b, o, none⟩) hO hY XW.out XE.out XT.out XR.out XO.out hb1 ⟨a1, c1, rfl, hs1⟩ hown3 hgrow3 hat3)
         refine hK.out _ _ (by exact OnS.grown hHeld hgrow3 (fun j hj => XW.out.ne (by omega)) hXb trivial) (fun hHeld => ?_)
         clear hK K
         try simp only [Act.put, sq]
         refine tkq (v := ?_) 11 rfl ?_ ?_
         rotate_left
         ·intro w' hSw
          go_simp <;> with_reducible rfl
         try simp only [Act.put, sq]
         refine rdq 12 rfl fun K hK => ?_
         ·go_simp
          refine hK.out _ _ (by exact OnS.set hHeld _ trivial (by omega) (by omega)) (fun hHeld => ?_)
          clear hK K
          try simp only [Act.put, sq]
          refine wpAnyH_done (by kernel_rfl) ?_ _
          clear hc3 hc4 hc5 hf5 hown3 hgrow3 hat3 hlt3 hB3 hHeld
          go_wp2_with fail
          go_roundw
          case rel =>
           refine ⟨k + 1, .slice (some ⟨g, 0, none⟩) ((onL ls (l.take k)).length + 1) cap, by omega, by go_num, ?_⟩
           rw [onL_take ls l k hlt]
           exact HFIN.out
          case measure => simp [intOf]; omega
      ·go_simp
       refine hK.out _ _ (by exact hHeld.alloc _) (fun hHeld => ?_)
       clear hK K
       try simp only [Act.put, sq]
       refine rdq 1 rfl fun K hK => ?_
       ·go_simp
        refine hK.out _ _ (by exact hHeld) (fun hHeld => ?_)
        clear hK K
        try simp only [Act.put, sq]
        refine rdq 10 rfl fun K hK => ?_
        ·refine step_append_lies _ rfl _ _ 25 rfl (O + 1) 27 i0 _ 2 40 Tryz.underlying25 hi0 hz0 hz1 hz2 rfl (by decide) u9 (onL ls (l.take k)).length xs rfl (by exact (XW.out.below hb1).own.alloc _) ⟨w1.heap.size, 0, none⟩ 1 1 [.string (onT ls l[k]).name, .slice a1 (onT ls l[k]).args.length c1] rfl rfl (cell_two_new _ _ _ _) (HN1.out a1 c1) (by decide) HL1.out.1 HL1.out.2 (by have := hb1.size; simp; omega) _ rfl ?_
         intro g cap w3 hown3 hgrow3 hat3 hlt3
         have hB3 := hide (((XO.out.below hb1 hOl).alloc _).grown hgrow3 (XW.out.ne (Nat.lt_succ_self _)))
         have hc5 : w3.cell? ⟨O, 1, none⟩ = some u9 := hB3.out.cell 1
         have hf5 := hB3.out.frozen 1
         have HFIN := hide (on_step (c := c) (n := l.length) (a := some ⟨b, o, none⟩) hO hY XW.out XE.out XT.out XR.out XO.out hb1 ⟨a1, c1, rfl, hs1⟩ hown3 hgrow3 hat3)
         refine hK.out _ _ (by exact OnS.grown hHeld hgrow3 (fun j hj => XW.out.ne (by omega)) hXb trivial) (fun hHeld => ?_)
         clear hK K
         try simp only [Act.put, sq]
         refine tkq (v := ?_) 11 rfl ?_ ?_
         rotate_left
         ·intro w' hSw
          go_simp <;> with_reducible rfl
         try simp only [Act.put, sq]
         refine rdq 12 rfl fun K hK => ?_
         ·go_simp
          refine hK.out _ _ (by exact OnS.set hHeld _ trivial (by omega) (by omega)) (fun hHeld => ?_)
          clear hK K
          try simp only [Act.put, sq]
          refine wpAnyH_done (by kernel_rfl) ?_ _
          clear hc3 hc4 hc5 hf5 hown3 hgrow3 hat3 hlt3 hB3 hHeld
          go_wp2_with fail
          go_roundw
          case rel =>
           refine ⟨k + 1, .slice (some ⟨g, 0, none⟩) ((onL ls (l.take k)).length + 1) cap, by omega, by go_num, ?_⟩
           rw [onL_take ls l k hlt]
           exact HFIN.out
          case measure => simp [intOf]; omega
    ·have htk : l.take k = l := List.take_of_length_le (by omega)
     rw [htk] at XW
     obtain ⟨a9, c9, hu9, hsl9⟩ := XW.out.sl
     subst hu9
     have S9 := hide hsl9
     have r0 := XR.out.c0
     have r1 := XR.out.c1
     have rf := XR.out.frozen
     clear hsl9 htk
     go_wp2_with fail
     refine bodyPost_ret (v := .agg #[.string s, .slice a9 (onL ls l).length c9]) (by simp [results, Tryz.results83, go_sem, World.cell?_setCell_same, World.cell?_setCell_other, r0, r1]) rfl ?_
     rw [HD.out]
     refine ⟨a9, c9, rfl, (S9.out.kept fun b hb => ?_).mono fun b hb _ => hb.imp id (fun h => by omega), (XE.out.setCell (by simp) _).setCell (by simp) _⟩
     have hbne : b ≠ w.heap.size + 1 := by
      rcases hb with h | h
      ·have := h.2; omega
      ·omega
     rw [Below.heap_setCell _ _ _ _ (by simpa using hbne), Below.heap_setCell _ _ _ _ (by simpa using hbne)]
def OnAll (w : World) (X : Nat → Prop) (t : Tm) (e : Ending) (w' : World) : Prop :=
 Below w.heap.size w w' ∧ ((2000 < sizeL [t] ∧ e = .returned (.tuple #[.agg #[.string ⟨#[]⟩, .slice none 0 0], .bool false])) ∨ (sizeL [t] ≤ 2000 ∧ ∃ a c, e = .returned (.tuple #[.agg #[.string t.name, .slice a t.args.length c], .bool true]) ∧ Sl w' (fun b => (X b ∧ b < w.heap.size) ∨ w.heap.size ≤ b) a t.args))
set_option maxHeartbeats 1000000 in
theorem onAll_any (ls : List Bd) (t : Tm) (u v : Value) (w : World) (X : Nat → Prop) (hu : BV w X u ls) (hv : TV w X v t) (hsm : sizeL [t] ≤ 1000000) :
  Calls Tryz.prog 60 #[u, v] w fun e w' => OnAll w X (onT ls t) e w' := by
 obtain ⟨a, c, rfl, hs⟩ := hv
 have HU := hide (hu.mono (Y := fun b => X b ∧ b < w.heap.size) fun b h1 h2 => ⟨h1, h2⟩)
 have HS := hide (hs.mono (Y := fun b => X b ∧ b < w.heap.size) fun b h1 h2 => ⟨h1, h2⟩)
 clear hu hs
 go_enter Tryz.func60, Tryz.ntmps60
 go_wp2_with fail
 refine (grown_any ls t u _ 2000 _ (fun b => X b ∧ b < w.heap.size) (by exact (HU.out.alloc _).alloc _) (by exact ⟨a, c, rfl, (HS.out.later ((Below.refl _ _).alloc (Nat.le_refl _) _)).later ((Below.refl _ _).alloc (Nat.le_refl _) _)⟩) (by decide) (by decide)).mono ?_
 rintro e w1 ⟨rfl, hb1⟩
 have T1 := hide (((Blk.new w #[.string t.name, .slice a t.args.length c] 27).alloc (.cells #[.string ⟨#[]⟩, .slice none 0 0] 27)).below hb1 (by simp; omega))
 have R1 : Hid (Blk w1 (w.heap.size + 1) #[.string ⟨#[]⟩, .slice none 0 0] 27) := by
  have h := (Blk.new (w.alloc (.cells #[.string t.name, .slice a t.args.length c] 27)) #[.string ⟨#[]⟩, .slice none 0 0] 27).below hb1 (by simp)
  unfold Hid
  simpa using h
 have B1 := hide ((((Below.refl w.heap.size w).alloc (Nat.le_refl _) (.cells #[.string t.name, .slice a t.args.length c] 27)).alloc (by simp) (.cells #[.string ⟨#[]⟩, .slice none 0 0] 27)).trans (hb1.mono (by simp; omega)))
 clear hb1
 have t0 := T1.out.c0
 have t1 := T1.out.c1
 have r0 := R1.out.c0
 have r1 := R1.out.c1
 have rf := R1.out.frozen
 by_cases hg : 2000 < sizeL [onT ls t]
 ·have hmin : min (sizeL [onT ls t] : Int) (2000 + 1) = 2001 := by omega
  rw [hmin]
  go_wp2_with fail
  refine bodyPost_ret (v := .tuple #[.agg #[.string ⟨#[]⟩, .slice none 0 0], .bool false]) (by simp [results, Tryz.results60, go_sem, World.cell?_setCell_same, World.cell?_setCell_other, r0, r1]) rfl ?_
  exact ⟨(B1.out.setCell (by simp) _).setCell (by simp) _, Or.inl ⟨hg, rfl⟩⟩
 ·have hmin : min (sizeL [onT ls t] : Int) (2000 + 1) = sizeL [onT ls t] := by omega
  rw [hmin]
  have hle : ¬ (2000 : Int) < (sizeL [onT ls t] : Int) := by omega
  clear hmin
  go_wp2_with fail
  refine (on_any ls t u _ _ (fun b => X b ∧ b < w.heap.size) (by exact HU.out.later B1.out) (by exact ⟨a, c, rfl, HS.out.later B1.out⟩) hsm).mono ?_
  rintro e w2 ⟨a2, c2, rfl, hs2, hb2⟩
  have R2 := hide (R1.out.below hb2 R1.out.lt)
  have B2 := hide (B1.out.trans (hb2.mono B1.out.size))
  have S2 := hide (hs2.mono (Y := fun b => (X b ∧ b < w.heap.size) ∨ w.heap.size + 2 ≤ b) fun b hb _ => hb.imp (fun h => h.1) (fun h => by have := R1.out.lt; omega))
  clear hb2 hs2 r0 r1 rf t0 t1
  have r0 := R2.out.c0
  have r1 := R2.out.c1
  have rf := R2.out.frozen
  go_wp2_with fail
  refine bodyPost_ret (v := .tuple #[.agg #[.string (onT ls t).name, .slice a2 (onT ls t).args.length c2], .bool true]) (by simp [results, Tryz.results60, go_sem, World.cell?_setCell_same, World.cell?_setCell_other, r0, r1]) rfl ?_
  refine ⟨(B2.out.setCell (by simp) _).setCell (by simp) _, Or.inr ⟨by omega, a2, c2, rfl, (S2.out.kept fun b hb => ?_).mono fun b hb _ => hb.imp id (fun h => by omega)⟩⟩
  have hbne : b ≠ w.heap.size + 1 := by
   rcases hb with h | h
   ·have := h.2; omega
   ·omega
  rw [Below.heap_setCell _ _ _ _ (by simpa using hbne), Below.heap_setCell _ _ _ _ (by simpa using hbne)]
def hugeQ1 (p : Pr) : Bool := decide (3000 < sizeL [p.l]) || decide (3000 < sizeL [p.r])
def hugeQL (l : List Pr) : Bool := l.any hugeQ1
def hugeQ (ls : List Pr) : Bool := hugeQL ls || decide (100 < ls.length)
theorem hugeQL_take {l : List Pr} {k : Nat} (h : k < l.length) : hugeQL (l.take (k + 1)) = (hugeQL (l.take k) || hugeQ1 l[k]) := by
 unfold hugeQL; rw [List.take_succ_eq_append_getElem h, List.any_append]; simp
theorem hugeQL_yes {l : List Pr} {k : Nat} (h : k < l.length) (h0 : hugeQ1 l[k] = true) : hugeQ l = true := by
 have e : hugeQL l = true := by
  unfold hugeQL
  rw [List.any_eq_true]
  exact ⟨l[k], List.getElem_mem h, h0⟩
 unfold hugeQ
 rw [e]; rfl
def HqInv (ls : List Pr) (w : World) (v : Value) (wr : World) : Prop := ∃ k : Nat, v = .int .i64 (k : Int) ∧ k ≤ ls.length ∧ hugeQL (ls.take k) = false ∧ Below w.heap.size w wr
set_option maxHeartbeats 1000000 in
theorem hugePairs_any (ls : List Pr) (u : Value) (w : World) (X : Nat → Prop) (hu : QV w X u ls) :
  Calls Tryz.prog 13 #[u] w fun e w' => e = .returned (.bool (hugeQ ls)) ∧ Below w.heap.size w w' := by
 have HU := hide (hu.mono (Y := fun b => X b ∧ b < w.heap.size) fun b h1 h2 => ⟨h1, h2⟩)
 obtain ⟨a, c, rfl, hl, hu2⟩ := hu
 clear hu2
 go_enter Tryz.func13, Tryz.ntmps13
 go_wp2_with fail
 go_loopw [3] (fun v wr => HqInv ls w v wr) (fun v wr => ls.length - (intOf v).toNat)
 case atStart => exact ⟨0, rfl, Nat.zero_le _, rfl, Below.refl _ _⟩
 case round =>
  obtain ⟨k, rfl, hk, hT, hb⟩ := hrel
  have HB := hide hb
  have HT := hide hT
  clear hT
  by_cases hlt : k < ls.length
  ·obtain ⟨b, o, a1, c1, a2, c2, rfl, d0, d1, d2, d3, hs1, hs2⟩ := (HU.out.later hb).get k hlt
   have hlt2 : (k : Int) < (ls.length : Int) := by omega
   have HX1 := hide hs1
   have HX2 := hide hs2
   have HY := hide (hugeQL_yes hlt)
   have HN := hide (hugeQL_take hlt)
   clear hs1 hs2 hb
   generalize ls[k] = d at *
   go_wp2_with fail
   refine (huge_any d.l _ _ _ ⟨a1, c1, rfl, HX1.out⟩).mono ?_
   rintro e w1 ⟨rfl, hb1⟩
   have HB1 := hide (HB.out.trans (hb1.mono HB.out.size))
   have HX3 := hide (HX2.out.later hb1)
   have d2' := cell_later hb1 d2
   have d3' := cell_later hb1 d3
   clear hb1
   cases hq : decide (3000 < sizeL [d.l]) with
   | true =>
    have HF := hide (HY.out (by unfold hugeQ1; rw [hq]; rfl))
    clear hq
    go_wp2_with fail
    go_ret
    exact ⟨ret_bool HF.out.symm, HB1.out⟩
   | false =>
    have HQ := hide hq
    clear hq
    go_wp2_with fail
    refine (huge_any d.r _ _ _ ⟨a2, c2, rfl, HX3.out⟩).mono ?_
    rintro e w2 ⟨rfl, hb2⟩
    have HB2 := hide (HB1.out.trans (hb2.mono HB1.out.size))
    clear hb2
    cases hq : decide (3000 < sizeL [d.r]) with
    | true =>
     have HF := hide (HY.out (by unfold hugeQ1; rw [hq]; simp))
     clear hq
     go_wp2_with fail
     go_ret
     exact ⟨ret_bool HF.out.symm, HB2.out⟩
    | false =>
     have HF : Hid (hugeQL (ls.take (k + 1)) = false) := by unfold Hid; rw [HN.out, HT.out]; unfold hugeQ1; rw [HQ.out, hq]; rfl
     clear hq
     go_wp2_with fail
     go_roundw
     case rel => exact ⟨k + 1, by go_num, by omega, HF.out, HB2.out⟩
     case measure => simp [intOf]; omega
  ·have HF : Hid (decide (100 < ls.length) = hugeQ ls) := by
    have h := HT.out
    rw [List.take_of_length_le (by omega)] at h
    unfold Hid hugeQ
    rw [h]; rfl
   go_wp2_with fail
   go_ret
   exact ⟨ret_bool (by rw [← HF.out, Bool.eq_iff_iff]; simp; omega), HB.out⟩
def RmInv (ls : List Pr) (w : World) (v : Value) (wr : World) : Prop := ∃ k : Nat, v = .int .i64 (k : Int) ∧ k ≤ ls.length ∧ rmT ls k = 0 ∧ Below w.heap.size w wr
theorem may200 {t : Tm} (h : mayE t = 0) : sizeL [t] ≤ 200 := by
 unfold mayE at h
 split at h
 ·exact absurd h (by decide)
 ·omega
theorem all_takeR {l : List ByteArray} {f : ByteArray → Bool} {k : Nat} (h : k < l.length) (h0 : (l.take k).all f = true) (h1 : f l[k] = true) : (l.take (k + 1)).all f = true := by
 rw [List.take_succ_eq_append_getElem h, List.all_append, h0]
 simpa using h1
set_option maxHeartbeats 4000000 in
theorem rulesMay_any (ls : List Pr) (u : Value) (w : World) (X : Nat → Prop) (hu : QV w X u ls) :
  Calls Tryz.prog 15 #[u] w fun e w' => e = .returned (.int .i64 (rulesE ls)) ∧ Below w.heap.size w w' := by
 have HU := hide (hu.mono (Y := fun b => X b ∧ b < w.heap.size) fun b h1 h2 => ⟨h1, h2⟩)
 obtain ⟨a, c, rfl, hl, hu2⟩ := hu
 clear hu2
 go_enter Tryz.func15, Tryz.ntmps15
 by_cases h40 : 40 < ls.length
 ·go_wp2_with fail
  go_ret
  exact ⟨ret_int (by unfold rulesE; rw [if_pos h40]), Below.refl _ _⟩
 go_wp2_with fail
 go_loopw [3] (fun v wr => RmInv ls w v wr) (fun v wr => ls.length - (intOf v).toNat)
 case atStart => exact ⟨0, rfl, Nat.zero_le _, rfl, Below.refl _ _⟩
 case round =>
  obtain ⟨k, rfl, hk, hT, hb⟩ := hrel
  have HB := hide hb
  have HT := hide hT
  clear hT
  by_cases hlt : k < ls.length
  ·obtain ⟨b, o, a1, c1, a2, c2, rfl, d0, d1, d2, d3, hs1, hs2⟩ := (HU.out.later hb).get k hlt
   have hlt2 : (k : Int) < (ls.length : Int) := by omega
   have HX1 := hide hs1
   have HX2 := hide hs2
   have HY := hide (rmT_err hlt h40 HT.out)
   have HN := hide (rmT_next hlt HT.out)
   clear hs1 hs2 hb
   generalize ls[k] = d at *
   go_wp2_with fail
   have HS0 := hide (And.intro d0 (And.intro d1 (And.intro d2 d3)))
   have TM : Hid (∀ w', Below wr.heap.size wr w' → Calls Tryz.prog 21 #[.agg #[.string d.l.name, .slice a1 d.l.args.length c1], .agg #[.string d.r.name, .slice a2 d.r.args.length c2]] w' fun e w'' => e = .returned (.int .i64 (twoE d.l d.r)) ∧ Below wr.heap.size wr w'' ∧ w''.cell? ⟨b, o + k * 4, none⟩ = some (.string d.l.name) ∧ w''.cell? ⟨b, o + k * 4 + 1, none⟩ = some (.slice a1 d.l.args.length c1) ∧ w''.cell? ⟨b, o + k * 4 + 2, none⟩ = some (.string d.r.name) ∧ w''.cell? ⟨b, o + k * 4 + 3, none⟩ = some (.slice a2 d.r.args.length c2)) := fun w' hb => by
    refine (twoMay_any d.l d.r _ _ w' _ ⟨_, _, rfl, HX1.out.later hb⟩ ⟨_, _, rfl, HX2.out.later hb⟩).mono ?_
    rintro e w'' ⟨rfl, hb2⟩
    have hb3 := hb.trans (hb2.mono hb.size)
    exact ⟨rfl, hb3, cell_later hb3 d0, cell_later hb3 d1, cell_later hb3 d2, cell_later hb3 d3⟩
   go_region_held3 (fun w' => w'.cell? ⟨b, o + k * 4, none⟩ = some (.string d.l.name) ∧ w'.cell? ⟨b, o + k * 4 + 1, none⟩ = some (.slice a1 d.l.args.length c1) ∧ w'.cell? ⟨b, o + k * 4 + 2, none⟩ = some (.string d.r.name) ∧ w'.cell? ⟨b, o + k * 4 + 3, none⟩ = some (.slice a2 d.r.args.length c2)) (first | exact hS | exact HS0.out | go_keep)
    (first
     | (go_at_call 21; refine (TM.out _ (by first | exact Below.refl _ _ | exact (Below.refl _ _).drew)).mono ?_; rintro e w5 ⟨rfl, hb5, hS⟩))
   have HB5 := hide hb5
   have HS5 := hide hS
   clear hb5 hS TM HS0 d0 d1 d2 d3
   by_cases hm : twoE d.l d.r = 0
   ·have HM : Hid (mayE d.l = 0 ∧ mayE d.r = 0) := by
     unfold twoE at hm
     split at hm
     ·rename_i h; exact ⟨h, hm⟩
     ·rename_i h; exact absurd hm h
    have HRE : Hid (ruleE d = if varB d.l.name = true then 2 else if (varsP [] (preL [d.r])).all (fun n => inB n (varsP [] (preL [d.l]))) = true then 0 else 15) := by unfold Hid ruleE; rw [if_pos hm]
    rw [hm]
    clear hm
    obtain ⟨d0, d1, d2, d3⟩ := HS5.out
    go_wp2_with fail
    refine (isVarR_any _ _).mono ?_
    rintro e w6 ⟨rfl, hw6⟩
    rw [hw6]
    clear hw6 w6
    cases hv : varB d.l.name with
    | true =>
     have HE : Hid (2 = rulesE ls) := by
      have h1 := HRE.out
      rw [if_pos hv] at h1
      have h2 := HY.out (by rw [h1]; decide)
      unfold Hid
      rw [h2, h1]
     clear hv
     go_wp2_with fail
     go_ret
     exact ⟨ret_int HE.out, HB.out.trans (HB5.out.mono HB.out.size)⟩
    | false =>
     have HRF : Hid (ruleE d = if (varsP [] (preL [d.r])).all (fun n => inB n (varsP [] (preL [d.l]))) = true then 0 else 15) := by
      have h1 := HRE.out
      rw [if_neg (by rw [hv]; decide)] at h1
      exact h1
     clear hv HRE
     go_wp2_with fail
     refine (varsOf_any d.l _ _ _ ⟨_, _, rfl, HX1.out.later HB5.out⟩ (by have := may200 HM.out.1; omega)).mono ?_
     rintro e w6 ⟨v6, rfl, hlv6, hb6⟩
     have HB6 := hide (HB5.out.trans (hb6.mono HB5.out.size))
     have L6 := hide (hlv6.mono (Y := fun _ => True) fun _ _ _ => trivial)
     clear hlv6 d0 d1 d2 d3
     have d2 : w6.cell? ⟨b, o + k * 4 + 2, none⟩ = some (.string d.r.name) := cell_later hb6 HS5.out.2.2.1
     have d3 : w6.cell? ⟨b, o + k * 4 + 3, none⟩ = some (.slice a2 d.r.args.length c2) := cell_later hb6 HS5.out.2.2.2
     clear hb6
     go_wp2_with fail
     refine (varsOf_any d.r _ _ _ ⟨_, _, rfl, HX2.out.later HB6.out⟩ (by have := may200 HM.out.2; omega)).mono ?_
     rintro e w7 ⟨v7, rfl, hlv7, hb7⟩
     have HB7 := hide (HB.out.trans ((HB6.out.trans (hb7.mono HB6.out.size)).mono HB.out.size))
     have L67 := hide (L6.out.later hb7)
     clear hb7 d2 d3 L6 HS5
     generalize varsP [] (preL [d.l]) = lh at *
     generalize varsP [] (preL [d.r]) = lr at *
     obtain ⟨a7, c7, rfl, ⟨hl7, hl7'⟩, h7⟩ := hlv7
     go_wp2_with fail
     go_loop [7] (fun i => ∃ j : Nat, j ≤ lr.length ∧ i = .int .i64 j ∧ Hid ((lr.take j).all (fun n => inB n lh) = true)) (fun i => lr.length - (intOf i).toNat)
     case atStart => exact ⟨0, Nat.zero_le _, rfl, by unfold Hid; simp⟩
     case round =>
      obtain ⟨j, hj, rfl, HA⟩ := hrel
      by_cases hjl : j < lr.length
      ·obtain ⟨b7, o7, rfl, _, hc7⟩ := h7.resolve_left (fun h => by rw [h] at hjl; simp at hjl)
       have e7 := hc7 j hjl
       have hjl2 : (j : Int) < (lr.length : Int) := by omega
       clear hc7
       have HIN := hide (all_takeR (f := fun n => inB n lh) hjl HA.out)
       have HNO : Hid (inB lr[j] lh = false → lr.all (fun n => inB n lh) = false) := fun h => by
        rw [Bool.eq_false_iff]
        intro h2
        have h3 := List.all_eq_true.1 h2 _ (List.getElem_mem hjl)
        rw [h] at h3
        cases h3
       generalize lr[j] = nm at *
       go_wp2_with fail
       refine (in_any nm lh _ _ (fun _ => True) (by exact L67.out)).mono ?_
       rintro e w8 ⟨rfl, hw8⟩
       rw [hw8]
       clear hw8 w8
       cases hin : inB nm lh with
       | true =>
        have HNX := hide (HIN.out hin)
        clear hin
        go_wp2_with fail
        go_round
        case rel => exact ⟨j + 1, by omega, by go_num, HNX⟩
        case measure => simp [intOf]; omega
       | false =>
        have HE : Hid (15 = rulesE ls) := by
         have h1 := HRF.out
         rw [HNO.out hin, if_neg (by decide)] at h1
         have h2 := HY.out (by rw [h1]; decide)
         unfold Hid
         rw [h2, h1]
        clear hin
        go_wp2_with fail
        go_ret
        exact ⟨ret_int HE.out, HB7.out⟩
      ·have HZ : Hid (rmT ls (k + 1) = 0) := by
        have h1 := HRF.out
        have h2 := HA.out
        rw [List.take_of_length_le (by omega)] at h2
        rw [h2, if_pos rfl] at h1
        unfold Hid
        rw [HN.out, h1]
       go_wp2_with fail
       go_roundw
       case rel => exact ⟨k + 1, by go_num, by omega, HZ.out, HB7.out⟩
       case measure => simp [intOf]; omega
   ·have hm2 : (twoE d.l d.r == 0) = false := by simpa using hm
    have HE : Hid (twoE d.l d.r = rulesE ls) := by
     have h1 : ruleE d = twoE d.l d.r := by unfold ruleE; rw [if_neg hm]
     have h2 := HY.out (by rw [h1]; exact hm)
     unfold Hid
     rw [h2, h1]
    clear hm
    go_wp2_with fail
    go_ret
    exact ⟨ret_int HE.out, HB.out.trans (HB5.out.mono HB.out.size)⟩
  ·have hkl : k = ls.length := by omega
   go_wp2_with fail
   go_ret
   exact ⟨ret_int (by unfold rulesE; rw [if_neg h40, ← hkl]; exact HT.out.symm), HB.out⟩
theorem onSomeR_any (ls : List Bd) (t : Tm) (u v : Value) (w : World) (X : Nat → Prop) (hu : BV w X u ls) (hv : TV w X v t) (hsm : sizeL [t] ≤ 1000000) :
  Calls Tryz.prog 60 #[u, v] w fun e w' => ∃ (x : Tm) (a6 : Option Addr) (c6 : Nat) (ok : Bool), e = .returned (.tuple #[.agg #[.string x.name, .slice a6 x.args.length c6], .bool ok]) ∧ (ok = true → x = onT ls t) ∧ (ok = true ↔ sizeL [onT ls t] ≤ 2000) ∧ Sl w' (fun b => (X b ∧ b < w.heap.size) ∨ w.heap.size ≤ b) a6 x.args ∧ Below w.heap.size w w' := by
 refine (onAll_any ls t u v w _ hu hv hsm).mono ?_
 rintro e w' ⟨hb, ⟨h1, rfl⟩ | ⟨h1, a6, c6, rfl, hs⟩⟩
 ·exact ⟨⟨⟨#[]⟩, []⟩, none, 0, false, rfl, by simp, by simp; omega, ⟨by simp, Or.inl rfl⟩, hb⟩
 ·exact ⟨onT ls t, a6, c6, true, rfl, fun _ => rfl, by simp; omega, hs, hb⟩
def DFtPost (w : World) (X : Nat → Prop) (p : Pr) (x : Tm) (e : Ending) (w' : World) : Prop :=
 ∃ (y : Tm) (a : Option Addr) (c : Nat) (ok full : Bool), e = .returned (.tuple #[.agg #[.string y.name, .slice a y.args.length c], .bool ok, .bool full]) ∧ Sl w' (fun b => (X b ∧ b < w.heap.size) ∨ w.heap.size ≤ b) a y.args ∧ Below w.heap.size w w' ∧
  ((fitT p x = none ∧ ok = false) ∨ ∃ z, fitT p x = some z ∧ ok = true ∧ (full = true ↔ 2000 < sizeL [z]) ∧ (full = false → y = z))
def DFtPostF (w : World) (X : Nat → Prop) (p : Pr) (x : Tm) (e : Ending) (w' : World) : Prop :=
 ∃ (y : Tm) (a : Option Addr) (c : Nat) (ok full : Bool), e = .returned (.tuple #[.agg #[.string y.name, .slice a y.args.length c], .bool ok, .bool full]) ∧ Sl w' (fun b => (X b ∧ b < w.heap.size) ∨ w.heap.size ≤ b) a y.args ∧ Below w.heap.size w w' ∧
  ((fitT p x = none ∧ ok = false ∧ full = false) ∨ ∃ z, fitT p x = some z ∧ ok = true ∧ (full = true ↔ 2000 < sizeL [z]) ∧ (full = false → y = z))
set_option maxHeartbeats 4000000 in
theorem docFitsF_any (p : Pr) (x : Tm) (a1 a2 a3 : Option Addr) (c1 c2 c3 : Nat) (w : World) (X : Nat → Prop) (hs1 : Sl w X a1 p.l.args) (hs2 : Sl w X a2 p.r.args) (hs3 : Sl w X a3 x.args) (hz1 : sizeL [p.l] ≤ 1000000) (hz2 : sizeL [p.r] ≤ 1000000) :
  Calls Tryz.prog 41 #[.agg #[.string p.l.name, .slice a1 p.l.args.length c1, .string p.r.name, .slice a2 p.r.args.length c2], .agg #[.string x.name, .slice a3 x.args.length c3]] w fun e w' => DFtPostF w X p x e w' := by
 have S1 := hide (hs1.mono (Y := fun b => X b ∧ b < w.heap.size) fun b h1 h2 => ⟨h1, h2⟩)
 have S2 := hide (hs2.mono (Y := fun b => X b ∧ b < w.heap.size) fun b h1 h2 => ⟨h1, h2⟩)
 have S3 := hide (hs3.mono (Y := fun b => X b ∧ b < w.heap.size) fun b h1 h2 => ⟨h1, h2⟩)
 clear hs1 hs2 hs3
 have K0 := Blk.new w #[.string p.l.name, .slice a1 p.l.args.length c1, .string p.r.name, .slice a2 p.r.args.length c2] 40
 have B0 := (Below.refl w.heap.size w).alloc (Nat.le_refl _) (.cells #[.string p.l.name, .slice a1 p.l.args.length c1, .string p.r.name, .slice a2 p.r.args.length c2] 40)
 have HW : Hid (∃ W, W = ((w.alloc (.cells #[.string p.l.name, .slice a1 p.l.args.length c1, .string p.r.name, .slice a2 p.r.args.length c2] 40)).alloc (.cells #[.string x.name, .slice a3 x.args.length c3] 27)).alloc (.cells #[.string ⟨#[]⟩, .slice none 0 0] 27) ∧ Blk W w.heap.size #[.string p.l.name, .slice a1 p.l.args.length c1, .string p.r.name, .slice a2 p.r.args.length c2] 40 ∧ Blk W (w.heap.size + 1) #[.string x.name, .slice a3 x.args.length c3] 27 ∧ Blk W (w.heap.size + 2) #[.string ⟨#[]⟩, .slice none 0 0] 27 ∧ Below w.heap.size w W) := by
  have K1 := Blk.new (w.alloc (.cells #[.string p.l.name, .slice a1 p.l.args.length c1, .string p.r.name, .slice a2 p.r.args.length c2] 40)) #[.string x.name, .slice a3 x.args.length c3] 27
  have K2 := Blk.new ((w.alloc (.cells #[.string p.l.name, .slice a1 p.l.args.length c1, .string p.r.name, .slice a2 p.r.args.length c2] 40)).alloc (.cells #[.string x.name, .slice a3 x.args.length c3] 27)) #[.string ⟨#[]⟩, .slice none 0 0] 27
  simp only [World.size_alloc] at K1 K2
  exact ⟨_, rfl, (K0.alloc _).alloc _, K1.alloc _, K2, (B0.alloc (by simp) _).alloc (by simp; omega) _⟩
 clear K0 B0
 go_enter Tryz.func41, Tryz.ntmps41
 go_wp2_with fail
 obtain ⟨W, hW, k0, k1, k2, bl⟩ := HW.out
 rw [← hW]
 clear hW HW
 have K0 := hide k0
 have K2 := hide k2
 have BW := hide bl
 clear k0 k1 k2 bl
 refine (matchOf_any p.l x _ _ W (fun b => X b ∧ b < w.heap.size) ⟨_, _, rfl, S1.out.later BW.out⟩ ⟨_, _, rfl, S3.out.later BW.out⟩ hz1).mono ?_
 rintro e w3 ⟨hb3, hc⟩
 have B3 := hide (BW.out.trans (hb3.mono BW.out.size))
 have K03 := hide (K0.out.below hb3 K0.out.lt)
 have K23 := hide (K2.out.below hb3 K2.out.lt)
 have HLT : Hid (w.heap.size + 2 < W.heap.size) := K2.out.lt
 clear hb3 K0 K2 BW
 have r0 := K23.out.c0
 have r1 := K23.out.c1
 have rf := K23.out.frozen
 rcases hc with ⟨h0, rfl⟩ | ⟨h', v, l', h0, rfl, hbv, hperm, hsort⟩
 ·have HN : Hid (fitT p x = none) := by unfold Hid fitT; rw [h0]; rfl
  clear h0
  go_wp2_with fail
  refine bodyPost_ret (v := .tuple #[.agg #[.string ⟨#[]⟩, .slice none 0 0], .bool false, .bool false]) (by simp [results, Tryz.results41, go_sem, World.cell?_setCell_same, World.cell?_setCell_other, r0, r1]) rfl ?_
  exact ⟨⟨⟨#[]⟩, []⟩, none, 0, false, false, rfl, ⟨by simp, Or.inl rfl⟩, (B3.out.setCell (by simp; omega) _).setCell (by simp; omega) _, Or.inl ⟨HN.out, rfl, rfl⟩⟩
 ·have HF : Hid (fitT p x = some (onT l' p.r)) := by
   have ha := (mtT_apart h0 List.Pairwise.nil).1
   unfold Hid fitT
   rw [h0]
   show some (onT h' p.r) = _
   rw [onT_congr (forT_permR hperm ha) p.r]
  have HV := hide hbv
  clear h0 hbv hperm hsort
  have p2 := K03.out.c2
  have p3 := K03.out.c3
  go_wp2_with fail
  refine (onSomeR_any l' p.r _ _ _ (fun b => (X b ∧ b < w.heap.size) ∨ W.heap.size ≤ b) (by exact HV.out.mono fun b h _ => h.imp (fun h => h.1) id) ⟨_, _, rfl, (S2.out.later B3.out).mono fun b h _ => Or.inl h⟩ hz2).mono ?_
  rintro e w4 ⟨y, a6, c6, ok, rfl, hy, hok, hs6, hb4⟩
  have hb5 : Below w4.heap.size w4 (w4.alloc (.cells #[.string y.name, .slice a6 y.args.length c6] 27)) := (Below.refl _ _).alloc (Nat.le_refl _) _
  have B4 := hide (B3.out.trans (hb4.mono B3.out.size))
  have K24 := hide (K23.out.below hb4 K23.out.lt)
  have S6 := hide (hs6.mono (Y := fun b => (X b ∧ b < w.heap.size) ∨ w.heap.size + 3 ≤ b) fun b h _ => by
   have h3 := HLT.out
   have h4 := B3.out.size
   have h5 := K23.out.lt
   rcases h with ⟨h | h, _⟩ | h
   ·exact Or.inl h
   ·exact Or.inr (by omega)
   ·exact Or.inr (by omega))
  have HY := hide hy
  have HOK := hide hok
  have hl4 : w.heap.size + 2 < w4.heap.size := K24.out.lt
  clear hs6 hb4 hy hok p2 p3 r0 r1 rf hb5
  have r0 := K24.out.c0
  have r1 := K24.out.c1
  have rf := K24.out.frozen
  go_wp2_with fail
  have KF : Blk (((w4.setCell ⟨w.heap.size + 1 + 1, 0, none⟩ (.string y.name)).setCell ⟨w.heap.size + 1 + 1, 1, none⟩ (.slice a6 y.args.length c6)).alloc (.cells #[.string y.name, .slice a6 y.args.length c6] 27)) (w.heap.size + 1 + 1) #[.string y.name, .slice a6 y.args.length c6] 27 := ((K24.out.set 0 (.string y.name)).set 1 (.slice a6 y.args.length c6)).alloc _
  have BF : Hid (Below w.heap.size w (((w4.setCell ⟨w.heap.size + 1 + 1, 0, none⟩ (.string y.name)).setCell ⟨w.heap.size + 1 + 1, 1, none⟩ (.slice a6 y.args.length c6)).alloc (.cells #[.string y.name, .slice a6 y.args.length c6] 27))) := ((B4.out.setCell (by simp; omega) _).setCell (by simp; omega) _).alloc (by simp [World.setCell]; have := B4.out.size; omega) _
  have SF : Hid (Sl (((w4.setCell ⟨w.heap.size + 1 + 1, 0, none⟩ (.string y.name)).setCell ⟨w.heap.size + 1 + 1, 1, none⟩ (.slice a6 y.args.length c6)).alloc (.cells #[.string y.name, .slice a6 y.args.length c6] 27)) (fun b => (X b ∧ b < w.heap.size) ∨ w.heap.size ≤ b) a6 y.args) := by
   have h1 : Sl ((w4.setCell ⟨w.heap.size + 1 + 1, 0, none⟩ (.string y.name)).setCell ⟨w.heap.size + 1 + 1, 1, none⟩ (.slice a6 y.args.length c6)) (fun b => (X b ∧ b < w.heap.size) ∨ w.heap.size + 3 ≤ b) a6 y.args := S6.out.kept fun b hb => by
    have hne : b ≠ w.heap.size + 1 + 1 := by rcases hb with h | h <;> omega
    rw [Below.heap_setCell _ _ _ _ (by simpa using hne), Below.heap_setCell _ _ _ _ (by simpa using hne)]
   exact (h1.mono fun b hb _ => hb.imp id (fun h => by omega)).later ((Below.refl _ _).alloc (Nat.le_refl _) _)
  generalize (((w4.setCell ⟨w.heap.size + 1 + 1, 0, none⟩ (.string y.name)).setCell ⟨w.heap.size + 1 + 1, 1, none⟩ (.slice a6 y.args.length c6)).alloc (.cells #[.string y.name, .slice a6 y.args.length c6] 27)) = wf at *
  have f0 := KF.c0
  have f1 := KF.c1
  refine bodyPost_ret (v := .tuple #[.agg #[.string y.name, .slice a6 y.args.length c6], .bool true, .bool !ok]) (by simp [results, Tryz.results41, go_sem, f0, f1]) rfl ?_
  refine ⟨y, a6, c6, true, !ok, rfl, SF.out, BF.out, Or.inr ⟨_, HF.out, rfl, ?_, ?_⟩⟩
  ·have h := HOK.out
   cases ok with
   | true => simp at h ⊢; omega
   | false => simp at h ⊢; omega
  ·intro h
   exact HY.out (by cases ok with
    | true => rfl
    | false => cases h)
theorem docFits_any (p : Pr) (x : Tm) (a1 a2 a3 : Option Addr) (c1 c2 c3 : Nat) (w : World) (X : Nat → Prop) (hs1 : Sl w X a1 p.l.args) (hs2 : Sl w X a2 p.r.args) (hs3 : Sl w X a3 x.args) (hz1 : sizeL [p.l] ≤ 1000000) (hz2 : sizeL [p.r] ≤ 1000000) :
  Calls Tryz.prog 41 #[.agg #[.string p.l.name, .slice a1 p.l.args.length c1, .string p.r.name, .slice a2 p.r.args.length c2], .agg #[.string x.name, .slice a3 x.args.length c3]] w fun e w' => DFtPost w X p x e w' := by
 refine (docFitsF_any p x a1 a2 a3 c1 c2 c3 w X hs1 hs2 hs3 hz1 hz2).mono ?_
 rintro e w' ⟨y, a, c, ok, full, h1, h2, h3, h4⟩
 exact ⟨y, a, c, ok, full, h1, h2, h3, h4.imp (fun h => ⟨h.1, h.2.1⟩) id⟩
theorem owns_le {w : World} {b b' e z n : Nat} {v : Value} {xs : List Value} (h : w.ownsRow b e z v n xs) (hb : b' ≤ b) : w.ownsRow b' e z v n xs := by
 obtain ⟨h1, h2⟩ := h
 exact ⟨h1, h2.imp id fun ⟨g, cap, cur, h3, h4, h5⟩ => ⟨g, cap, cur, h3, Nat.le_trans hb h4, h5⟩⟩
def OutAt (w0 : World) (N : Nat) (q0 : Value) (ps : List (List Int)) (q : Value) (xs : List Value) (wr : World) : Prop :=
 wr.ownsRow N 22 1 q ps.length xs ∧ RowP wr (fun b => N ≤ b ∧ some b ≠ q.ownBlock) ps xs ∧ w0.grownBy wr q0.ownBlock ∧ (∀ k, q.ownBlock = some k → q0.ownBlock = some k ∨ w0.heap.size ≤ k)
theorem PV.grownBy {w w' : World} {Z : Nat → Prop} {u : Value} {z : List Int} {r : Option Nat} (h : PV w Z u z) (hg : w.grownBy w' r) (hZ : ∀ b, Z b → some b ≠ r) : PV w' Z u z := by
 have h1 : PV w (fun b => Z b ∧ b < w.heap.size) u z := h.mono fun b h1 h2 => ⟨h1, h2⟩
 have h2 : PV w' (fun b => Z b ∧ b < w.heap.size) u z := h1.kept fun b hx => hg.block b hx.2 (hZ b hx.1)
 exact h2.mono fun b hx _ => hx.1
theorem OutAt.push {w0 wr w1 : World} {N : Nat} {q0 q : Value} {ps : List (List Int)} {xs : List Value} (h : OutAt w0 N q0 ps q xs wr) (hN : N ≤ wr.heap.size) (hb : Below wr.heap.size wr w1) {u : Value} {z : List Int} (hu : PV w1 (fun b => wr.heap.size ≤ b) u z) (hn : ps.length ≤ 1000000) (A : Nat) (hA : w1.heap.size = A) :
  ∃ q' w3, (Builtin.append_ #[68, 68] 68 #[q, .slice (some ⟨A, 0, none⟩) 1 1]).run Tryz.prog (w1.alloc (.cells #[u] 22)) = .ok q' w3 ∧ OutAt w0 N q0 (ps ++ [z]) q' (xs ++ [u]) w3 := by
 subst hA
 obtain ⟨i0, hi, hz0, hz1, hz2⟩ := info_parts Tryz.infoInts
 obtain ⟨hown, hrow, hgr, hat⟩ := h
 have hlt := hown.lt
 have hs1 := hb.size
 have hown1 : w1.ownsRow N 22 1 q ps.length xs := hown.kept (w' := w1) (row := none) ⟨hb.os, hb.tape, hb.output, hb.size, fun j hj _ => hb.block j hj⟩ (by rcases Option.eq_none_or_eq_some (Value.ownBlock q) with h | ⟨x, h⟩; exact Or.inl h; exact Or.inr (by rw [h]; simp))
 obtain ⟨g, cap, w3, hr, ho, hg, hga, hgl⟩ := run_append_lies (P := Tryz.prog) (w := w1.alloc (.cells #[u] 22)) 68 68 N 22 i0 _ 1 24 Tryz.underlying68 hi hz0 hz1 hz2 rfl (by decide) q ps.length xs (hown1.alloc _)
  ⟨w1.heap.size, 0, none⟩ 1 1 [u] rfl (cell_one_new _ _ _) (fun x hx => by simp at hx; subst hx; exact hu.one) (by decide) (by unfold maxLen; omega) (by omega) (by simp; omega) _ rfl
 have hgN : N ≤ g := by
  rcases hga with e | e
  ·exact (hlt g e).1
  ·simp at e; omega
 refine ⟨_, w3, hr, by simpa using ho, ?_, ?_, fun k hk => ?_⟩
 ·refine RowP.append (hrow.imp fun u' z' hp => ?_) ?_
  ·have h1 : PV wr (fun b => (N ≤ b ∧ some b ≠ q.ownBlock) ∧ b < wr.heap.size) u' z' := hp.mono fun b h1 h2 => ⟨h1, h2⟩
   have h2 : PV w3 (fun b => (N ≤ b ∧ some b ≠ q.ownBlock) ∧ b < wr.heap.size) u' z' := h1.kept fun b hx => by
    rw [hg.block b (by simp; omega) hx.1.2, Below.heap_alloc _ _ _ (by omega), hb.block b hx.2]
   refine h2.mono fun b hx _ => ⟨hx.1.1, fun e => ?_⟩
   simp [Value.ownBlock] at e
   rcases hga with e' | e'
   ·exact hx.1.2 (by rw [e', e])
   ·simp at e'; omega
  ·refine ⟨u, [], rfl, ?_, rfl⟩
   have h1 : PV w1 (fun b => wr.heap.size ≤ b ∧ b < w1.heap.size) u z := hu.mono fun b h1 h2 => ⟨h1, h2⟩
   have h2 : PV w3 (fun b => wr.heap.size ≤ b ∧ b < w1.heap.size) u z := h1.kept fun b hx => by
    rw [hg.block b (by simp; omega) (fun e => by have := (hlt b e.symm).2; omega), Below.heap_alloc _ _ _ hx.2]
   refine h2.mono fun b hx _ => ⟨by omega, fun e => ?_⟩
   simp [Value.ownBlock] at e
   rcases hga with e' | e'
   ·have := (hlt g e').2; omega
   ·simp at e'; omega
 ·exact grown_trans (grown_trans hgr (grown_of_below hb q.ownBlock) hat) (grown_trans (grown_of_below ((Below.refl _ _).alloc (Nat.le_refl _) (.cells #[u] 22)) q.ownBlock) hg (fun k hk => Or.inl hk)) hat
 ·simp [Value.ownBlock] at hk
  subst hk
  rcases hga with e | e
  ·exact hat _ e
  ·right; simp at e; have := hgr.size; omega
theorem ints_cons {W : World} {Z : Nat → Prop} {u : Value} {z : List Int} (h : PV W Z u z) (i : Int) (F : Nat) (hF : W.heap[F]? = some (.cells #[.int .i64 i] 3 (0, 0))) (hn : z.length ≤ 1000000) :
  ∃ q w2, (Builtin.append_ #[22, 22] 22 #[.slice (some ⟨F, 0, none⟩) 1 1, u]).run Tryz.prog W = .ok q w2 ∧ PV w2 (fun b => b = F ∨ W.heap.size ≤ b) q (i :: z) ∧ Below W.heap.size W w2 := by
 obtain ⟨i0, hi, hz0, hz1, hz2⟩ := info_parts Tryz.infoInt
 have hsrc := pv_src h
 rw [← hz1] at hsrc
 have hFl : F < W.heap.size := by
  apply Classical.byContradiction
  intro hn
  rw [Array.getElem?_eq_none (by omega)] at hF; cases hF
 have hFc : W.cell? ⟨F, 0, none⟩ = some (.int .i64 i) := by simp [World.cell?, hF]
 by_cases h0 : z = []
 ·subst h0
  have hg := run_append_room_src (P := Tryz.prog) W 22 22 22 3 i0 Tryz.underlying22 hi F 0 1 1 u 0 [] hsrc (by omega) (by simp) (by simp)
  refine ⟨_, _, hg, ⟨_, _, rfl, by simp, Or.inr ⟨F, 0, rfl, Or.inl rfl, fun j hj => ?_⟩⟩, ?_⟩
  ·simp at hj; subst hj; simpa [World.setCells] using hFc
  ·simpa [World.setCells] using Below.refl W.heap.size W
 ·have hzp := List.length_pos_iff.2 h0
  have hfc := run_firstCells_some (P := Tryz.prog) W.drew i0.size 1 ⟨F, 0, none⟩ 1 1 [.int .i64 i] (by rw [hz1]; rfl) (fun j v hj => by
   match j, hj with
   | 0, hj => simp at hj; subst hj; simpa [Addr.add] using hFc)
  have hg := run_append_grow_src (P := Tryz.prog) W 22 22 22 3 i0 (.int .i64 0) Tryz.underlying22 hi hz0 (some ⟨F, 0, none⟩) 1 1 [.int .i64 i] hfc u z.length _ hsrc (by omega) (by omega) (by rw [hz2]; exact growslice_fits (by omega) (by omega))
  have hge := grownCap_ge W (1 + z.length) 1 3
  have hcm := grownCap_le_maxLen W (1 + z.length) 1 3 (by unfold maxLen; omega)
  refine ⟨_, _, hg, ⟨some ⟨W.heap.size, 0, none⟩, grownCap W (1 + z.length) 1 3, by rw [List.length_cons, Nat.add_comm], ⟨by simp; omega, by simp; omega⟩, Or.inr ⟨W.heap.size, 0, rfl, Or.inr (Nat.le_refl _), fun j hj => ?_⟩⟩, ?_⟩
  ·have hb := heap_alloc_new W.drew (.cells (([Value.int .i64 i] ++ z.map fun x => Value.int .i64 x).toArray ++ Builtin.zeroCells (Value.int .i64 0).cells (grownCap W (1 + z.length) 1 3 - (1 + z.length))) 3)
   have hb' : (W.drew.alloc (.cells (([Value.int .i64 i] ++ z.map fun x => Value.int .i64 x).toArray ++ Builtin.zeroCells (Value.int .i64 0).cells (grownCap W (1 + z.length) 1 3 - (1 + z.length))) 3)).heap[W.heap.size]? = _ := hb
   rw [Lib.cell_of_heap hb', Nat.zero_add, Array.getElem?_append_left (by simp at hj ⊢; omega)]
   simp at hj
   cases j with
   | zero => simp
   | succ j => simp
  ·exact ((Below.refl W.heap.size W).drew).alloc (Nat.le_refl _) _
def InInv (w1 : World) (N : Nat) (q1 : Value) (ps : List (List Int)) (i : Nat) (ls : List (List Int)) (q j : Value) (wr : World) : Prop :=
 ∃ (k : Nat) (xs : List Value), k ≤ ls.length ∧ j = .int .i64 k ∧ OutAt w1 N q1 (ps ++ (ls.take k).map fun p => (i : Int) :: p) q xs wr
def OuInv (w0 : World) (N : Nat) (l : List Tm) (q i : Value) (wr : World) : Prop :=
 ∃ (k : Nat) (xs : List Value), k ≤ l.length ∧ i = .int .i64 k ∧ OutAt w0 N (.slice none 0 0) ([] :: plcL 0 (l.take k)) q xs wr
theorem OutAt.mono {w0 w1 wr : World} {N : Nat} {q0 q1 q : Value} {ps ps1 : List (List Int)} {xs xs1 : List Value} (h : OutAt w0 N q0 ps1 q1 xs1 w1) (h1 : OutAt w1 N q1 ps q xs wr) : OutAt w0 N q0 ps q xs wr := by
 refine ⟨h1.1, h1.2.1, grown_trans h.2.2.1 h1.2.2.1 h.2.2.2, fun k hk => ?_⟩
 rcases h1.2.2.2 k hk with e | e
 ·exact h.2.2.2 k e
 ·exact Or.inr (Nat.le_trans h.2.2.1.size e)
theorem OutAt.later {w0 w1 w2 : World} {N : Nat} {q0 q : Value} {ps : List (List Int)} {xs : List Value} (h : OutAt w0 N q0 ps q xs w1) (hb : Below w1.heap.size w1 w2) : OutAt w0 N q0 ps q xs w2 :=
 ⟨h.1.kept (w' := w2) (row := none) ⟨hb.os, hb.tape, hb.output, hb.size, fun j hj _ => hb.block j hj⟩ (by rcases Option.eq_none_or_eq_some (Value.ownBlock q) with h | ⟨x, h⟩; exact Or.inl h; exact Or.inr (by rw [h]; simp)),
  h.2.1.imp fun u z hp => hp.later hb, grown_trans h.2.2.1 (grown_of_below hb q.ownBlock) h.2.2.2, h.2.2.2⟩
theorem OutAt.here {w1 : World} {N : Nat} {q0 q : Value} {ps : List (List Int)} {xs : List Value} {w0 : World} (h : OutAt w0 N q0 ps q xs w1) : OutAt w1 N q ps q xs w1 := ⟨h.1, h.2.1, grown_of_below (Below.refl _ _) _, fun _ h => Or.inl h⟩
set_option maxRecDepth 8000 in
set_option maxHeartbeats 2000000 in
theorem placesOf_any (t : Tm) : ∀ (v : Value) (w : World) (X : Nat → Prop), TV w X v t → sizeL [t] ≤ 900000 →
  Calls Tryz.prog 39 #[v] w fun e w' => ∃ v' xs, e = .returned v' ∧ w'.ownsRow w.heap.size 22 1 v' (plcT t).length xs ∧ RowP w' (fun b => w.heap.size ≤ b ∧ some b ≠ v'.ownBlock) (plcT t) xs ∧ Below w.heap.size w w' := by
 induction t using Tm.ind with
 | h s l ih =>
  intro v w X0 hv0 hsm
  obtain ⟨X, hX, hv⟩ : ∃ X : Nat → Prop, (∀ b, X b → b < w.heap.size) ∧ TV w X v ⟨s, l⟩ := ⟨fun b => X0 b ∧ b < w.heap.size, fun _ h => h.2, hv0.mono fun b h1 h2 => ⟨h1, h2⟩⟩
  clear hv0
  obtain ⟨a, c, rfl, hs⟩ := hv
  have IH := hide ih
  clear ih
  have hl := hs.1
  have hz : sizeL [(⟨s, l⟩ : Tm)] = 1 + sizeL l := by simp [sizeL]
  rw [hz] at hsm
  clear hz
  go_enter Tryz.func39, Tryz.ntmps39
  go_wp2_with fail
  go_loopw [3, 4] (fun q i wr => OuInv (w.alloc (Obj.cells #[Value.string s, Value.slice a l.length c] 27)) (w.heap.size + 1) l q i wr) (fun q i wr => l.length - (intOf i).toNat)
  case atStart =>
   refine ⟨0, [.slice none 0 0], Nat.zero_le _, rfl, ⟨by simp [plcL], Or.inr ⟨w.heap.size + 1, 1, #[.slice none 0 0], by simp [plcL], Nat.le_refl _, ?_, by simp [plcL], by decide, by simp, by simp [plcL]⟩⟩, ⟨_, [], rfl, ⟨none, 0, rfl, by simp, Or.inl rfl⟩, by simp [plcL, RowP]⟩, grown_of_below ((Below.refl _ _).alloc (Nat.le_refl _) _) _, fun k hk => ?_⟩
   ·have := heap_alloc_new (w.alloc (Obj.cells #[Value.string s, Value.slice a l.length c] 27)) (Obj.cells #[Value.slice none 0 0] 22)
    simpa using this
   ·simp [Value.ownBlock] at hk; right; simp; omega
  case round =>
   obtain ⟨k, xs, hk, rfl, hout⟩ := hrel
   have HOUT := hide hout
   have K0 := hide ((Blk.new w #[.string s, .slice a l.length c] 27).grown hout.2.2.1 (by simp [Value.ownBlock]))
   have c1 := K0.out.c1
   have hszr : w.heap.size + 1 ≤ wr.heap.size := by have := hout.2.2.1.size; simpa using this
   have hbw : Below w.heap.size w wr := ((Below.refl w.heap.size w).alloc (Nat.le_refl _) (.cells #[.string s, .slice a l.length c] 27)).trans ⟨hout.2.2.1.os, hout.2.2.1.tape, hout.2.2.1.output, hout.2.2.1.size, fun j hj => hout.2.2.1.block j (by simp; omega) (by simp [Value.ownBlock])⟩
   have HBW := hide hbw
   clear hout
   by_cases hlt : k < l.length
   ·obtain ⟨b, o, a', c', rfl, d0, d1, hx⟩ := hs.get hbw (fun _ _ h => h) k hlt
    have hst := sizeL_take l k hlt
    have hst2 := sizeL_take_le l (k + 1)
    have HT := hide (plcL_take l k hlt)
    have HX := hide hx
    have hszk : sizeL [l[k]] ≤ 900000 := by omega
    have hpl : (([] : List Int) :: plcL 0 (l.take k)).length + sizeL [l[k]] ≤ 1000000 := by simp [plcL_len]; omega
    clear hbw hx hst hst2
    go_wp2_with fail
    refine (IH.out _ (List.getElem_mem hlt) _ _ X (by exact HX.out) hszk).mono ?_
    rintro e w1 ⟨v1, ys, rfl, hown1, hrow1, hb1⟩
    have hlp : 0 < (plcT l[k]).length := by simp [plcT]
    obtain ⟨g1, cap1, rfl, hg1, hg1', hcel⟩ := owned_val hown1 hlp
    have hpd : ∀ p ∈ plcT l[k], p.length ≤ 1000000 := fun p hp => by
     unfold plcT at hp
     rcases List.mem_cons.1 hp with rfl | hp
     ·simp
     ·have h1 := plc_deep _ _ p hp
      generalize l[k] = tk at *
      obtain ⟨s', l'⟩ := tk
      have : sizeL [(⟨s', l'⟩ : Tm)] = 1 + sizeL l' := by simp [sizeL]
      simp only at h1
      omega
    have HPD := hide hpd
    have HROW1 := hide hrow1
    have HCEL := hide hcel
    have HB1 := hide hb1
    have HOUT1 := hide (HOUT.out.later hb1)
    have hls := plcT_len l[k]
    have HN1 : Hid (w.heap.size + 1 ≤ w1.heap.size) := Nat.le_trans hszr hb1.size
    have HGN : Hid (∀ b, wr.heap.size ≤ b → some b ≠ Value.ownBlock u3) := fun b hb e => by have := (HOUT.out.1.lt b e.symm).2; omega
    generalize hlse : plcT l[k] = ls at *
    have hpl' : (([] : List Int) :: plcL 0 (l.take k)).length + ls.length ≤ 1000000 := by omega
    generalize hn0 : wr.heap.size = n0 at *
    clear hown1 hrow1 hcel hb1 hlse hpd hls
    go_wp2_with fail
    go_loopw [3, 6] (fun q j wr2 => InInv w1 (w.heap.size + 1) u3 ([] :: plcL 0 (l.take k)) k ls q j wr2) (fun q j wr2 => ls.length - (intOf j).toNat)
    case atStart => exact ⟨0, _, Nat.zero_le _, rfl, by simpa using HOUT1.out.here⟩
    case round =>
     obtain ⟨m, xs2, hm, rfl, hout2⟩ := hrel
     have HO2 := hide hout2
     have hsz2 := hout2.2.2.1.size
     clear hout2
     by_cases hlm : m < ls.length
     ·obtain ⟨u, hu1, hu2⟩ := HROW1.out.get m hlm
      have e1 : ∀ o, (wr.alloc o).cell? ⟨g1, m, none⟩ = some u := fun o => by
       have h1 := HCEL.out m u hu1
       have h2 := HO2.out.2.2.1.block g1 hg1' (HGN.out g1 hg1)
       have h3 : (wr.alloc o).heap[g1]? = w1.heap[g1]? := by rw [Below.heap_alloc _ _ _ (by omega), h2]
       simpa [World.cell?, h3] using h1
      have hu3 := PV.grownBy hu2 HO2.out.2.2.1 (fun b hb => HGN.out b hb.1)
      obtain ⟨q2, w2, hr2, hq2, hbl2⟩ := ints_cons (hu3.later ((Below.refl _ _).alloc (Nat.le_refl _) (.cells #[.int .i64 (k : Int)] 3))) (k : Int) wr.heap.size (by simpa using heap_alloc_new wr (.cells #[.int .i64 (k : Int)] 3)) (HPD.out _ (List.getElem_mem hlm))
      obtain ⟨aq, cq, rfl, -⟩ : ∃ aq cq, q2 = .slice aq (ls[m].length + 1) cq ∧ True := by obtain ⟨aq, cq, h, _⟩ := hq2; exact ⟨aq, cq, by simpa using h, trivial⟩
      have hbl3 : Below wr.heap.size wr w2 := ((Below.refl _ _).alloc (Nat.le_refl _) _).trans (hbl2.mono (by simp))
      have hnn : ((([] : List Int) :: plcL 0 (l.take k)) ++ (ls.take m).map fun p => (k : Int) :: p).length ≤ 1000000 := by
       rw [List.length_append, List.length_map, List.length_take]; omega
      obtain ⟨q3, w3, hr3, ho3⟩ := OutAt.push HO2.out (Nat.le_trans HN1.out hsz2) hbl3 (hq2.mono fun b hb _ => by simp at hb; omega) hnn w2.heap.size rfl
      have HR2 := hide hr2
      have HR3 := hide hr3
      have HO3 := hide ho3
      have HTM : Hid ((ls.take (m + 1)).map (fun p => (k : Int) :: p) = (ls.take m).map (fun p => (k : Int) :: p) ++ [(k : Int) :: ls[m]]) := by
       unfold Hid; rw [List.take_succ_eq_append_getElem hlm, List.map_append]; rfl
      clear hu2 hu1 hu3 hr2 hr3 ho3 hq2 hbl2 hbl3 hnn
      go_wp2_with first
       | (at_builtin; refine wpList_append_eq rfl _ _ _ _ rfl rfl rfl HR2.out ?_)
       | (at_builtin; refine wpList_append_eq rfl _ _ _ _ rfl rfl rfl HR3.out ?_)
      go_roundw
      case rel => exact ⟨m + 1, _, by omega, by go_num, by rw [HTM.out, ← List.append_assoc]; exact HO3.out⟩
      case measure => simp [intOf]; omega
     ·have htk : ls.take m = ls := List.take_of_length_le (by omega)
      have h1 := HO2.out
      rw [htk, List.cons_append, ← HT.out] at h1
      have HF := hide (HOUT1.out.mono h1)
      clear h1
      go_wp2_with fail
      go_roundw
      case rel => exact ⟨k + 1, _, by omega, by go_num, HF.out⟩
      case measure => simp [intOf]; omega
   ·have htk : l.take k = l := List.take_of_length_le (by omega)
    have ho := HOUT.out
    rw [htk] at ho
    have HF := hide ho
    clear ho
    go_wp2_with fail
    go_ret
    exact ⟨_, _, rfl, owns_le HF.out.1 (by omega), HF.out.2.1.imp fun u z hp => hp.mono fun b hb _ => ⟨by omega, hb.2⟩, HBW.out⟩
set_option maxRecDepth 8000 in
theorem slice_tail_run (b o n pc : Nat) (hn : n + 1 ≤ pc) (w' : World) : Sem.run Tryz.prog (Instr.slice 22 (.slice (some ⟨b, o, none⟩) (n + 1) pc) (some (.int .i64 1)) none none) w' = .ok (.slice (if pc = 1 then some ⟨b, o, none⟩ else some ⟨b, o + 1, none⟩) n (pc - 1)) w' := by
 have hle1 : (1 : Int) ≤ (n : Int) + 1 := by omega
 have e1 : (1 : Int) ≤ ((n + 1 : Nat) : Int) := by omega
 rw [run_slice_l (P := Tryz.prog) (ht := Tryz.underlying22) (h0 := by omega) (h1 := e1)]
 by_cases hpc : pc = 1
 ·subst hpc
  simp [go_sem, sliced]
 ·simp [go_sem, sliced, hpc]
theorem put_step {w wr w1 w3 : World} {M T : Nat} {Y : Nat → Prop} {u : Value} {L : List Tm} {t : Tm} {xs : List Value} {o2 : Obj} {s s' : ByteArray} {a1 : Option Addr} {n1 c1 g cap n : Nat} (hn : L.length = n) (hrow : Row wr (M + 1) T Y u L xs) (hb : Below w.heap.size w wr) (hM : w.heap.size ≤ M) (hY : ∀ b, Y b → b < w.heap.size)
  (h2 : Blk wr M #[.string s, u] T) (hsz : M + 1 ≤ wr.heap.size)
  (hb1 : Below wr.heap.size wr w1) (ht : TV w1 (fun b => Y b ∨ wr.heap.size ≤ b) (.agg #[.string s', .slice a1 n1 c1]) t)
  (hown : w3.ownsRow (M + 1) T 2 (.slice (some ⟨g, 0, none⟩) (n + 1) cap) (n + 1) (xs ++ [.string s', .slice a1 n1 c1])) (hg : (w1.alloc o2).grownBy w3 u.ownBlock) (hat : u.ownBlock = some g ∨ g = (w1.alloc o2).heap.size) :
  let w4 := w3.setCell ⟨M, 1, none⟩ (.slice (some ⟨g, 0, none⟩) (n + 1) cap)
  Row w4 (M + 1) T Y (.slice (some ⟨g, 0, none⟩) (n + 1) cap) (L ++ [t]) (xs ++ [.string s', .slice a1 n1 c1]) ∧ Below w.heap.size w w4 ∧ (∀ b cs, b < M → Blk wr b cs T → Blk w4 b cs T) ∧ Blk w4 M #[.string s, .slice (some ⟨g, 0, none⟩) (n + 1) cap] T ∧ M + 1 ≤ w4.heap.size := by
 intro w4
 subst hn
 have hlt' := hrow.own.lt
 have hs1 := hb1.size
 have hsg := hg.size
 simp at hsg
 have hp := hrow.push (w1 := w1) (w2 := w1.alloc o2) (w3 := w3) hsz (fun b h => by have := hY b h; omega) hb1 ht o2 rfl hown hg hat
 have hw3 : Below w.heap.size w w3 := ((hb.trans (hb1.mono hb.size)).alloc (by have := hb.size; omega) o2).grown hg (by have := hb.size; simp; omega) (fun j hj => by have := (hlt' j hj).1; omega)
 have hA : Below w.heap.size w w4 := hw3.setCell (p := ⟨M, 1, none⟩) hM _
 have hbk : ∀ b cs, b < M + 1 → Blk wr b cs T → Blk w3 b cs T := fun b cs hb h => ((h.below hb1 h.lt).alloc o2).grown hg (hrow.ne hb)
 refine ⟨hp.setCell (by omega) (fun h => by have := hY _ h; omega) _, hA, fun b cs hb h => (hbk b cs (by omega) h).setOther _ _ (by omega), (hbk _ _ (by omega) h2).set 1 _, by simp [w4, World.setCell]; omega⟩
theorem put_blk {wr w1 w3 : World} {o2 : Obj} {M T : Nat} {Y : Nat → Prop} {u : Value} {L : List Tm} {xs : List Value} {b : Nat} {cs : Array Value} (hrow : Row wr (M + 1) T Y u L xs) (h : Blk wr b cs T) (hb1 : Below wr.heap.size wr w1) (hg : (w1.alloc o2).grownBy w3 u.ownBlock) (hM : b < M + 1) : Blk w3 b cs T :=
 ((h.below hb1 h.lt).alloc o2).grown hg (hrow.ne hM)
theorem own_later {w w' : World} {N T size : Nat} {v : Value} {n : Nat} {xs : List Value} (h : w.ownsRow N T size v n xs) (hb : Below w.heap.size w w') : w'.ownsRow N T size v n xs :=
 h.kept (w' := w') (row := none) ⟨hb.os, hb.tape, hb.output, hb.size, fun j hj _ => hb.block j hj⟩ (by rcases Option.eq_none_or_eq_some (Value.ownBlock v) with h | ⟨x, h⟩; exact Or.inl h; exact Or.inr (by rw [h]; simp))
def PutInv (w : World) (X : Nat → Prop) (x : Tm) (zs : List Int) (z : Int) (s : ByteArray) (l : List Tm) (a : Option Addr) (c : Nat) (ax : Option Addr) (cx : Nat) (i : Value) (wr : World) : Prop :=
 ∃ (k : Nat) (q : Value) (xs : List Value), k ≤ l.length ∧ i = .int .i64 k ∧ Row wr (w.heap.size + 1 + 1 + 1 + 1) 27 X q ((putL (putT x zs) z 0 l).take k) xs ∧ Below w.heap.size w wr ∧ Blk wr w.heap.size #[.string s, .slice a l.length c] 27 ∧ Blk wr (w.heap.size + 1) #[.string x.name, .slice ax x.args.length cx] 27 ∧ Blk wr (w.heap.size + 1 + 1) #[.string ⟨#[]⟩, .slice none 0 0] 27 ∧ Blk wr (w.heap.size + 1 + 1 + 1) #[.string s, q] 27 ∧ w.heap.size + 1 + 1 + 1 + 1 ≤ wr.heap.size
theorem two_one (s : ByteArray) (a : Option Addr) (n c : Nat) : ∀ u ∈ [Value.string s, .slice a n c], u.oneCell' = true := fun x hx => by
 simp at hx; rcases hx with rfl | rfl <;> rfl
theorem drew_below {wr w1 : World} (hb1 : Below wr.drew.heap.size wr.drew w1) : Below wr.heap.size wr w1 := (below_drewN (Below.refl _ _) 1).trans hb1
set_option maxHeartbeats 4000000 in
theorem putOf_any (x : Tm) (zs : List Int) : ∀ (t : Tm) (v p u : Value) (w : World) (X : Nat → Prop), TV w X v t → PV w X p zs → TV w X u x → sizeL [t] ≤ 1000000 →
  Calls Tryz.prog 42 #[v, p, u] w fun e w' => ∃ v', e = .returned v' ∧ TV w' (fun b => X b ∨ w.heap.size ≤ b) v' (putT x zs t) ∧ Below w.heap.size w w' := by
 induction zs with
 | nil =>
  intro t v p u w X hv hp hu hsm
  obtain ⟨a, c, rfl, hs⟩ := hv
  obtain ⟨ax, cx, rfl, hsx⟩ := hu
  obtain ⟨pa, pc, rfl, hzl, hz⟩ := hp
  go_enter Tryz.func42, Tryz.ntmps42
  go_wp2_with fail
  refine bodyPost_ret (v := .agg #[.string x.name, .slice ax x.args.length cx]) (by simp [results, Tryz.results42, go_sem]) rfl ⟨_, rfl, ?_, below3 _ _ _⟩
  exact ⟨ax, cx, by simp [putT], ((hsx.later (below3 _ _ _)).mono fun b h _ => Or.inl h)⟩
 | cons z zs ih =>
  intro t v p u w X0 hv0 hp0 hu0 hsm
  have IH := hide ih
  clear ih
  obtain ⟨X, hX, hXX, hv, hp, hu⟩ : ∃ X : Nat → Prop, (∀ b, X b → b < w.heap.size) ∧ (∀ b, X b → X0 b) ∧ TV w X v t ∧ PV w X p (z :: zs) ∧ TV w X u x := ⟨fun b => X0 b ∧ b < w.heap.size, fun _ h => h.2, fun _ h => h.1, hv0.mono fun b h1 h2 => ⟨h1, h2⟩, hp0.mono fun b h1 h2 => ⟨h1, h2⟩, hu0.mono fun b h1 h2 => ⟨h1, h2⟩⟩
  clear hv0 hp0 hu0
  obtain ⟨a, c, rfl, hs⟩ := hv
  obtain ⟨ax, cx, rfl, hsx⟩ := hu
  have HU := hide (show TV w X (.agg #[.string x.name, .slice ax x.args.length cx]) x from ⟨ax, cx, rfl, hsx⟩)
  clear hsx
  obtain ⟨pa, pc, rfl, hzl, hz⟩ := hp
  obtain ⟨b, o, rfl, hxb, hcell⟩ := hz.resolve_left (fun h => by cases h)
  have h0 := hcell 0 (by simp)
  simp only [Nat.add_zero, List.getElem_cons_zero] at h0
  have htl := hs.1
  have hzl' : zs.length + 1 ≤ 9223372036854775807 ∧ zs.length + 1 ≤ pc := by simpa using hzl
  obtain ⟨hzl1, hzl2⟩ := hzl'
  obtain ⟨s, l⟩ := t
  have hz1 : sizeL [(⟨s, l⟩ : Tm)] = 1 + sizeL l := by simp [sizeL]
  rw [hz1] at hsm
  clear hz1
  have hlen := sizeL_len l
  obtain ⟨i0, hi, hz0, hz1, hz2⟩ := info_parts Tryz.infoTerm
  obtain ⟨sa, HSA, HT⟩ : ∃ sa : Option Addr, Hid ((if pc = 1 then some (⟨b, o, none⟩ : Addr) else some ⟨b, o + 1, none⟩) = sa) ∧ Hid (PV w X (.slice sa zs.length (pc - 1)) zs) := by
   by_cases h1 : pc = 1
   ·refine ⟨_, rfl, ?_⟩
    have : zs = [] := List.length_eq_zero_iff.1 (by omega)
    subst this
    exact ⟨_, _, rfl, by simp, Or.inl rfl⟩
   ·refine ⟨_, rfl, ?_⟩
    rw [if_neg h1]
    exact PV.tail ⟨hzl1, hzl2⟩ hxb hcell
  simp only [List.length_cons] at *
  clear hcell hzl hz
  go_enter Tryz.func42, Tryz.ntmps42
  go_wp2_with fail
  go_loopw [8] (fun i wr => PutInv w X x zs z s l a c ax cx i wr) (fun i wr => l.length - (intOf i).toNat)
  case atStart =>
   unfold PutInv
   refine ⟨0, .slice none 0 0, [], Nat.zero_le _, rfl, Row.start _ _ _ _, below4 _ _ _ _, ?_, ?_, ?_, ?_, by simp⟩
   ·exact (((Blk.new w _ _).alloc _).alloc _).alloc _
   ·have := ((Blk.new (w.alloc (.cells #[.string s, .slice a l.length c] 27)) #[.string x.name, .slice ax x.args.length cx] 27).alloc (.cells #[.string ⟨#[]⟩, .slice none 0 0] 27)).alloc (.cells #[.string s, .slice none 0 0] 27)
    simpa using this
   ·have := (Blk.new ((w.alloc (.cells #[.string s, .slice a l.length c] 27)).alloc (.cells #[.string x.name, .slice ax x.args.length cx] 27)) #[.string ⟨#[]⟩, .slice none 0 0] 27).alloc (.cells #[.string s, .slice none 0 0] 27)
    simpa using this
   ·have := Blk.new (((w.alloc (.cells #[.string s, .slice a l.length c] 27)).alloc (.cells #[.string x.name, .slice ax x.args.length cx] 27)).alloc (.cells #[.string ⟨#[]⟩, .slice none 0 0] 27)) #[.string s, .slice none 0 0] 27
    simpa using this
  case round =>
   obtain ⟨k, q, xs, hk, rfl, hrow, hb, hbl0, hbl1, hbl2, hbl3, hsz⟩ := hrel
   have HROW := hide hrow
   have HB := hide hb
   have HBL0 := hide hbl0
   have HBL1 := hide hbl1
   have HBL2 := hide hbl2
   have HBL3 := hide hbl3
   have c01 := hbl0.c1
   have c10 := hbl1.c0
   have c11 := hbl1.c1
   have c30 := hbl3.c0
   have c31 := hbl3.c1
   have c31a : ∀ o, (wr.alloc o).cell? ⟨w.heap.size + 1 + 1 + 1, 1, none⟩ = some q := fun o => (hbl3.alloc o).cell 1
   have czw := cell_later hb h0
   by_cases hlt : k < l.length
   ·obtain ⟨b1, o1, a', c', rfl, d0, d1, hx⟩ := hs.get hb (fun _ _ h => h) k hlt
    have HX := hide hx
    have HPL := hide (putL_take (putT x zs) z l k hlt)
    have hkl : ((putL (putT x zs) z 0 l).take k).length = k := by rw [List.length_take, putL_length]; omega
    have HKL := hide hkl
    have HOWN : Hid (wr.ownsRow (w.heap.size + 1 + 1 + 1 + 1) 27 2 q k xs) := by have := hrow.own; rw [hkl] at this; exact this
    have hszk : sizeL [l[k]] ≤ 1000000 := by
     have := sizeL_take l k hlt; have := sizeL_take_le l (k + 1); omega
    clear hbl0 hbl1 hbl2 hbl3 hb hx hrow hkl
    by_cases hkz : (k : Int) = z
    ·have HKZ := hide hkz
     have hkz' : ((k : Int) == z) = true := by simpa using hkz
     clear hkz
     have HT' : Hid (PV wr.drew X (.slice sa zs.length (pc - 1)) zs) := HT.out.later (HB.out.drew)
     have HU' : Hid (TV wr.drew X (.agg #[.string x.name, .slice ax x.args.length cx]) x) := HU.out.later (HB.out.drew)
     have hle1 : (1 : Int) ≤ (zs.length : Int) + 1 := by omega
     have hslq : ∀ w' : World, Sem.run Tryz.prog (Instr.slice 22 (.slice (some ⟨b, o, none⟩) (zs.length + 1) pc) (some (.int .i64 1)) none none) w' = .ok (.slice sa zs.length (pc - 1)) w' := fun w' => by
      rw [slice_tail_run b o zs.length pc hzl2 w', HSA.out]
     go_wp2_with fail
     go_region_law (first
      | (refine step_append_lies _ rfl _ _ 25 rfl (w.heap.size + 1 + 1 + 1 + 1) 27 i0 _ 2 40 Tryz.underlying25 hi hz0 hz1 hz2 rfl (by decide) q k xs rfl (by exact (own_later HOWN.out (drew_below hb1)).alloc _) ⟨w1.heap.size, 0, none⟩ 1 1 [.string s9, .slice a9 n9 c9] rfl rfl (by exact cell_two_new _ _ _ _) (two_one _ _ _ _) (by decide) (by unfold maxLen; omega) (by omega) (by have := hb1.size; simp at this ⊢; omega) _ rfl ?_; intro g cap w3 hown3 hgrow3 hat3 hlt3; have hB3 := hide (put_blk HROW.out HBL3.out (drew_below hb1) hgrow3 (Nat.lt_succ_self _)); have hc5 : w3.cell? ⟨w.heap.size + 1 + 1 + 1, 1, none⟩ = some q := hB3.out.cell 1; have hf5 := hB3.out.frozen 1)
      | (go_simp; go_at_call 42; refine (IH.out _ _ _ _ _ X (by exact HX.out.later (below_drewN (Below.refl _ _) 1)) (by exact HT'.out) (by exact HU'.out) hszk).mono ?_; rintro e w1 ⟨v1, rfl, ht1, hb1⟩; obtain ⟨a9, c9, rfl, hs9⟩ := ht1; generalize hs9n : (putT x _ l[k]).name = s9; generalize hs9l : (putT x _ l[k]).args.length = n9; have hc3 : ∀ o, (w1.alloc o).cell? ⟨w.heap.size + 1 + 1 + 1, 1, none⟩ = some q := fun o => ((HBL3.out.below (drew_below hb1) HBL3.out.lt).alloc o).cell 1; have hc4 : w1.cell? ⟨w.heap.size + 1 + 1 + 1, 1, none⟩ = some q := (HBL3.out.below (drew_below hb1) HBL3.out.lt).cell 1))
     all_goals
      have HFIN := hide (put_step HKL.out HROW.out HB.out (by omega) hX HBL3.out hsz (drew_below hb1) (show TV w1 _ (.agg #[.string s9, .slice a9 n9 c9]) _ from ⟨a9, c9, by rw [hs9n, hs9l], hs9⟩) hown3 hgrow3 hat3)
      clear hown3 hgrow3 hat3
      go_wp2_with fail
      go_roundw
      case rel =>
       obtain ⟨r1, r2, r3, r4, r5⟩ := HFIN.out
       unfold PutInv
       refine ⟨k + 1, _, xs ++ [.string s9, .slice a9 n9 c9], by omega, by go_num, ?_, r2, r3 _ _ (by omega) HBL0.out, r3 _ _ (by omega) HBL1.out, r3 _ _ (by omega) HBL2.out, r4, r5⟩
       rw [HPL.out, if_pos HKZ.out]
       exact r1
      case measure => simp [intOf]; omega
    ·have hkz' : ((k : Int) == z) = false := by simpa using hkz
     have HKZ := hide hkz
     clear hkz
     go_wp2_with fail
     go_region_law (first
      | (refine step_append_lies _ rfl _ _ 25 rfl (w.heap.size + 1 + 1 + 1 + 1) 27 i0 _ 2 40 Tryz.underlying25 hi hz0 hz1 hz2 rfl (by decide) q k xs rfl (by exact (own_later HOWN.out (below_drewN (Below.refl _ _) 1)).alloc _) ⟨wr.heap.size, 0, none⟩ 1 1 [.string l[k].name, .slice a' l[k].args.length c'] rfl rfl (by exact cell_two_new _ _ _ _) (two_one _ _ _ _) (by decide) (by unfold maxLen; omega) (by omega) (by simp; omega) _ rfl ?_; intro g cap w3 hown3 hgrow3 hat3 hlt3; have hB3 := hide (put_blk HROW.out HBL3.out (below_drewN (Below.refl _ _) 1) hgrow3 (Nat.lt_succ_self _)); have hc5 : w3.cell? ⟨w.heap.size + 1 + 1 + 1, 1, none⟩ = some q := hB3.out.cell 1; have hf5 := hB3.out.frozen 1))
     all_goals
      have HFIN := hide (put_step HKL.out HROW.out HB.out (by omega) hX HBL3.out hsz (below_drewN (Below.refl _ _) 1) ((HX.out.later (below_drewN (Below.refl _ _) 1)).mono fun b h _ => Or.inl h) hown3 hgrow3 hat3)
      clear hown3 hgrow3 hat3
      go_wp2_with fail
      go_roundw
      case rel =>
       obtain ⟨r1, r2, r3, r4, r5⟩ := HFIN.out
       unfold PutInv
       refine ⟨k + 1, _, xs ++ [.string l[k].name, .slice a' l[k].args.length c'], by omega, by go_num, ?_, r2, r3 _ _ (by omega) HBL0.out, r3 _ _ (by omega) HBL1.out, r3 _ _ (by omega) HBL2.out, r4, r5⟩
       rw [HPL.out, if_neg HKZ.out]
       exact r1
      case measure => simp [intOf]; omega
   ·have htk : (putL (putT x zs) z 0 l).take k = putL (putT x zs) z 0 l := List.take_of_length_le (by rw [putL_length]; omega)
    have r20 := hbl2.c0
    have r21 := hbl2.c1
    have rf := hbl2.frozen
    obtain ⟨a9, c9, hu9, hsl9⟩ := hrow.sl
    rw [htk, putL_length] at hu9
    rw [htk] at hsl9
    have HSL := hide hsl9
    subst hu9
    clear hsl9 htk hbl0 hbl1 hbl2 hbl3 hrow hb
    go_wp2_with fail
    refine bodyPost_ret (v := .agg #[.string s, .slice a9 l.length c9]) (by simp [results, Tryz.results42, go_sem, r20, r21, World.cell?_setCell_same, World.cell?_setCell_other]) rfl ⟨_, rfl, ?_, ?_⟩
    ·refine ⟨a9, c9, by simp [putT, putL_length], ?_⟩
     have hk9 : Sl wr (fun b => X b ∨ w.heap.size + 1 + 1 + 1 + 1 ≤ b) a9 (putL (putT x zs) z 0 l) := HSL.out
     have hk8 : Sl wr (fun b => X0 b ∨ w.heap.size ≤ b) a9 (putT x (z :: zs) ⟨s, l⟩).args := by
      refine hk9.mono fun b hb _ => ?_
      rcases hb with hb | hb
      ·exact Or.inl (hXX b hb)
      ·exact Or.inr (by omega)
     have hk7 : Sl wr (fun b => (X b ∨ w.heap.size + 1 + 1 + 1 + 1 ≤ b)) a9 (putT x (z :: zs) ⟨s, l⟩).args := hk9
     refine (hk7.kept fun b hb => ?_).mono fun b hb _ => ?_
     ·have hne : b ≠ w.heap.size + 1 + 1 := by
       rcases hb with hb | hb
       ·have := hX b hb; omega
       ·omega
      rw [Below.heap_setCell _ _ _ _ (by simpa using hne), Below.heap_setCell _ _ _ _ (by simpa using hne)]
     ·rcases hb with hb | hb
      ·exact Or.inl (hXX b hb)
      ·exact Or.inr (by omega)
    ·exact (HB.out.setCell (by simp; omega) _).setCell (by simp; omega) _
def Evs (P : World → Prop) (w : World) : Prop := ∀ w', Below w.heap.size w w' → P w'
theorem Evs.now {P : World → Prop} {w : World} (h : Evs P w) : P w := h w (Below.refl _ _)
theorem Evs.later {P : World → Prop} {w w' : World} (h : Evs P w) (hb : Below w.heap.size w w') : Evs P w' := fun w'' hb' => h w'' (hb.trans (hb'.mono hb.size))
theorem Evs.alloc {P : World → Prop} {w : World} (h : Evs P w) (o : Obj) : Evs P (w.alloc o) := h.later ((Below.refl _ _).alloc (Nat.le_refl _) o)
def YB (X : Nat → Prop) (n N b : Nat) : Prop := b < N ∧ (X b ∨ n ≤ b)
structure StF (Y : Nat → Prop) (rs : List Pr) (t : Tm) (ps : List (List Int)) (aa : Option Addr) (ca B3 g7 : Nat) (fv : Nat → Value) (u : Value) (W0 wr : World) : Prop where
 k1 : Blk wr B3 #[.string t.name, .slice aa t.args.length ca] 27
 s1 : Sl wr Y aa t.args
 pl : ∀ i (h : i < ps.length), wr.cell? ⟨g7, i, none⟩ = some (fv i) ∧ PV wr Y (fv i) ps[i]
 qv : QV wr Y u rs
 bl : Below W0.heap.size W0 wr
theorem stF_old {X : Nat → Prop} {n : Nat} {rs : List Pr} {t : Tm} {ps : List (List Int)} {aa : Option Addr} {ca B3 g7 : Nat} {fv : Nat → Value} {u : Value} {W0 : World} (h : Evs (StF (YB X n W0.heap.size) rs t ps aa ca B3 g7 fv u W0) W0) : Evs (StF (fun b => b < W0.heap.size) rs t ps aa ca B3 g7 fv u W0) W0 := fun w' hb =>
 ⟨(h w' hb).k1, (h w' hb).s1.mono fun b hx _ => hx.1, fun i hi => ⟨((h w' hb).pl i hi).1, ((h w' hb).pl i hi).2.mono fun b hx _ => hx.1⟩, (h w' hb).qv.mono fun b hx _ => hx.1, (h w' hb).bl⟩
def StoInv (Y : Nat → Prop) (rs : List Pr) (t : Tm) (ps : List (List Int)) (W0 : World) (v o : Value) (wr : World) : Prop :=
 ∃ (i : Nat) (xs : List Value), i ≤ ps.length ∧ o = .int .i64 (i : Int) ∧ Row wr W0.heap.size 27 Y v ((ps.take i).flatMap (stAt rs t)) xs ∧ (∀ y ∈ (ps.take i).flatMap (stAt rs t), sizeL [y] ≤ 2000) ∧ Below W0.heap.size W0 wr
def stK (rs : List Pr) (t x : Tm) (p : List Int) (k : Nat) : List Tm := (rs.take k).filterMap fun r => (fitT r x).map fun y => putT y p t
theorem stK_none {rs : List Pr} {t x : Tm} {p : List Int} {k : Nat} (h : k < rs.length) (hf : fitT rs[k] x = none) : stK rs t x p (k + 1) = stK rs t x p k := by
 unfold stK
 rw [List.take_succ_eq_append_getElem h, List.filterMap_append]
 simp [hf]
theorem stK_some {rs : List Pr} {t x z : Tm} {p : List Int} {k : Nat} (h : k < rs.length) (hf : fitT rs[k] x = some z) : stK rs t x p (k + 1) = stK rs t x p k ++ [putT z p t] := by
 unfold stK
 rw [List.take_succ_eq_append_getElem h, List.filterMap_append]
 simp [hf]
theorem stK_len (rs : List Pr) (t x : Tm) (p : List Int) (k : Nat) : (stK rs t x p k).length ≤ k := Nat.le_trans (List.length_filterMap_le _ _) (by simp; omega)
theorem stK_all {rs : List Pr} {t x : Tm} {p : List Int} (h : atT t p = some x) : stK rs t x p rs.length = stAt rs t p := by
 unfold stK stAt
 rw [h, List.take_length]
theorem stAt_len (rs : List Pr) (t : Tm) (p : List Int) : (stAt rs t p).length ≤ rs.length := by
 unfold stAt
 split
 ·exact List.length_filterMap_le _ _
 ·simp
theorem flat_len {rs : List Pr} {t : Tm} (h40 : rs.length ≤ 40) : ∀ ps : List (List Int), (ps.flatMap (stAt rs t)).length ≤ 40 * ps.length
 | [] => by simp
 | p :: ps => by
  have h1 := flat_len (t := t) h40 ps
  have h2 := stAt_len rs t p
  rw [List.flatMap_cons, List.length_append, List.length_cons]
  omega
theorem flat_next {rs : List Pr} {t : Tm} {ps : List (List Int)} {i : Nat} (h : i < ps.length) : (ps.take (i + 1)).flatMap (stAt rs t) = (ps.take i).flatMap (stAt rs t) ++ stAt rs t ps[i] := by
 rw [List.take_succ_eq_append_getElem h, List.flatMap_append]
 simp
def StiInv (Y : Nat → Prop) (rs : List Pr) (t x : Tm) (p : List Int) (l0 : List Tm) (a9 : Option Addr) (c9 B9 : Nat) (W0 : World) (v o : Value) (wr : World) : Prop :=
 ∃ (k : Nat) (xs : List Value), k ≤ rs.length ∧ o = .int .i64 (k : Int) ∧ Row wr W0.heap.size 27 Y v (l0 ++ stK rs t x p k) xs ∧ (∀ y ∈ l0 ++ stK rs t x p k, sizeL [y] ≤ 2000) ∧ Blk wr B9 #[.string x.name, .slice a9 x.args.length c9] 27 ∧ W0.heap.size ≤ B9 ∧ some B9 ≠ v.ownBlock ∧ Below W0.heap.size W0 wr
def StoPostY (rs : List Pr) (t : Tm) (X : Nat → Prop) (w : World) (e : Ending) (w' : World) : Prop :=
 Below w.heap.size w w' ∧ ((∃ v, (∀ y ∈ stAll rs t, sizeL [y] ≤ 2000) ∧ e = .returned (.tuple #[v, .int .i64 0]) ∧ ∃ N xs, w.heap.size ≤ N ∧ Row w' N 27 (YB X w.heap.size N) v (stAll rs t) xs) ∨ ((∃ y ∈ stAll rs t, 2000 < sizeL [y]) ∧ e = .returned (.tuple #[.slice none 0 0, .int .i64 8])))
def StoPost (rs : List Pr) (t : Tm) (w : World) (e : Ending) (w' : World) : Prop :=
 Below w.heap.size w w' ∧ ((∃ v, (∀ y ∈ stAll rs t, sizeL [y] ≤ 2000) ∧ e = .returned (.tuple #[v, .int .i64 0]) ∧ ∃ N xs, w.heap.size ≤ N ∧ Row w' N 27 (fun b => b < N) v (stAll rs t) xs) ∨ ((∃ y ∈ stAll rs t, 2000 < sizeL [y]) ∧ e = .returned (.tuple #[.slice none 0 0, .int .i64 8])))
theorem put_ge (x : Tm) : ∀ (p : List Int) (t y : Tm), atT t p = some y → sizeL [x] ≤ sizeL [putT x p t]
 | [], t, y, _ => by simp [putT]
 | i :: r, t, y, h => by
  obtain ⟨k, hk, rfl, h2⟩ := atT_cons h
  have ih := put_ge x r _ y h2
  obtain ⟨s, l⟩ := t
  have e : sizeL [putT x ((k : Int) :: r) ⟨s, l⟩] = 1 + sizeL (putL (putT x r) (k : Int) 0 l) := by rw [putT]; simp [sizeL]
  have h3 := sizeL_take (putL (putT x r) (k : Int) 0 l) k (by rw [putL_length]; exact hk)
  have h4 := sizeL_take_le (putL (putT x r) (k : Int) 0 l) (k + 1)
  rw [putL_get _ _ _ _ _ hk, if_pos (by simp)] at h3
  omega
theorem stF_ev {Y : Nat → Prop} {rs : List Pr} {t : Tm} {ps : List (List Int)} {aa : Option Addr} {ca B3 g7 : Nat} {fv : Nat → Value} {u : Value} {W0 : World} (h : StF Y rs t ps aa ca B3 g7 fv u W0 W0) (hg : g7 < W0.heap.size) : Evs (StF Y rs t ps aa ca B3 g7 fv u W0) W0 := fun w' hb =>
 ⟨h.k1.below hb h.k1.lt, h.s1.later hb, fun i hi => ⟨(hb.cell (p := ⟨g7, i, none⟩) hg).trans (h.pl i hi).1, (h.pl i hi).2.later hb⟩, h.qv.later hb, hb⟩
def AtW (Y : Nat → Prop) (t x : Tm) (W0 : World) (v : Value) (l : List Tm) (o : Value) (wc : World) : Prop :=
 ∃ (B9 : Nat) (a9 : Option Addr) (c9 : Nat) (xs : List Value), o = .pointer (some ⟨B9, 0, none⟩) ∧ Blk wc B9 #[.string x.name, .slice a9 x.args.length c9] 27 ∧ Sl wc Y a9 x.args ∧ W0.heap.size ≤ B9 ∧ some B9 ≠ v.ownBlock ∧ Row wc W0.heap.size 27 Y v l xs ∧ Below W0.heap.size W0 wc
theorem atW_endA {Y : Nat → Prop} {t x : Tm} {W0 w w1 : World} {v : Value} {l : List Tm} {xs : List Value} {a9 : Option Addr} {c9 : Nat} (hr : Row w W0.heap.size 27 Y v l xs) (hB : Below W0.heap.size W0 w) (hb : Below w.heap.size w w1) (hs : Sl w1 Y a9 x.args) :
  AtW Y t x W0 v l (.pointer (some ⟨w1.heap.size, 0, none⟩)) (w1.alloc (.cells #[.string x.name, .slice a9 x.args.length c9] 27)) := by
 have hb2 := hb.alloc hb.size (.cells #[.string x.name, .slice a9 x.args.length c9] 27)
 have h1 := hB.size
 have h2 := hb.size
 refine ⟨w1.heap.size, a9, c9, xs, rfl, Blk.new w1 _ _, hs.later ((Below.refl _ _).alloc (Nat.le_refl _) _), by omega, fun e => ?_, hr.below hb2, hB.trans (hb2.mono hB.size)⟩
 have := (hr.own.lt _ e.symm).2
 omega
theorem atW_endB {Y : Nat → Prop} {t x : Tm} {W0 w w1 : World} (hY : ∀ b, Y b → b < W0.heap.size) {v : Value} {l : List Tm} {xs : List Value} {a9 : Option Addr} {c9 : Nat} (hr : Row w W0.heap.size 27 Y v l xs) (hB : Below W0.heap.size W0 w) (hb : Below w.heap.size w w1) (hz : Blk w1 w.heap.size #[.string ⟨#[]⟩, .slice none 0 0] 27) (hs : Sl w1 Y a9 x.args) :
  Below w.heap.size w ((w1.setCell ⟨w.heap.size, 0, none⟩ (.string x.name)).setCell ⟨w.heap.size, 1, none⟩ (.slice a9 x.args.length c9)) ∧ AtW Y t x W0 v l (.pointer (some ⟨w.heap.size, 0, none⟩)) ((w1.setCell ⟨w.heap.size, 0, none⟩ (.string x.name)).setCell ⟨w.heap.size, 1, none⟩ (.slice a9 x.args.length c9)) := by
 have hb2 : Below w.heap.size w ((w1.setCell ⟨w.heap.size, 0, none⟩ (.string x.name)).setCell ⟨w.heap.size, 1, none⟩ (.slice a9 x.args.length c9)) := (hb.setCell (by simp) _).setCell (by simp) _
 have h1 := hB.size
 refine ⟨hb2, w.heap.size, a9, c9, xs, rfl, (hz.set 0 _).set 1 _, hs.kept fun b hb => ?_, h1, fun e => ?_, hr.below hb2, hB.trans (hb2.mono hB.size)⟩
 ·have hlt : b < W0.heap.size := hY b hb
  rw [Below.heap_setCell _ _ _ _ (by simp; omega), Below.heap_setCell _ _ _ _ (by simp; omega)]
 ·have := (hr.own.lt _ e.symm).2
  omega
theorem cell_term_new (w : World) (a b : Value) (T : Nat) : ∀ j u, ([a, b] : List Value)[j]? = some u → (w.alloc (.cells #[a, b] T)).cell? ((⟨w.heap.size, 0, none⟩ : Addr).add j) = some u := fun j u h => by
 have hb := Blk.new w #[a, b] T
 have h1 : (⟨w.heap.size, 0, none⟩ : Addr).add j = ⟨w.heap.size, j, none⟩ := by
  by_cases h0 : j = 0
  ·subst h0; simp [Addr.add]
  ·simp [Addr.add, h0]
 rw [h1, hb.cell j]
 simpa using h
theorem terms_append {w w1 : World} {N : Nat} {Y : Nat → Prop} {v : Value} {l : List Tm} {xs : List Value} (h : Row w N 27 Y v l xs) (hN : N ≤ w.heap.size) (hY : ∀ b, Y b → b < N) (hb : Below w.heap.size w w1) (t : Tm) (a : Option Addr) (c : Nat) (ht : Sl w1 (fun b => Y b ∨ w.heap.size ≤ b) a t.args) (hn : l.length ≤ 1000000) :
  ∃ g cap w3, (Builtin.append_ #[25, 25] 25 #[v, .slice (some ⟨w1.heap.size, 0, none⟩) 1 1]).run Tryz.prog (w1.alloc (.cells #[.string t.name, .slice a t.args.length c] 27)) = .ok (.slice (some ⟨g, 0, none⟩) (l.length + 1) cap) w3 ∧ Row w3 N 27 Y (.slice (some ⟨g, 0, none⟩) (l.length + 1) cap) (l ++ [t]) (xs ++ [.string t.name, .slice a t.args.length c]) ∧ (w1.alloc (.cells #[.string t.name, .slice a t.args.length c] 27)).grownBy w3 v.ownBlock ∧ (v.ownBlock = some g ∨ g = (w1.alloc (.cells #[.string t.name, .slice a t.args.length c] 27)).heap.size) := by
 obtain ⟨i0, hi, hz0, hz1, hz2⟩ := info_parts Tryz.infoTerm
 have hbs := hb.size
 obtain ⟨g, cap, w3, hr, ho, hg, hat, hlt⟩ := run_append_lies (P := Tryz.prog) (w := w1.alloc (.cells #[.string t.name, .slice a t.args.length c] 27)) 25 25 N 27 i0 _ 2 40 Tryz.underlying25 hi hz0 hz1 hz2 rfl (by decide) v l.length xs ((h.below hb).own.alloc _)
  ⟨w1.heap.size, 0, none⟩ 1 1 [.string t.name, .slice a t.args.length c] rfl (cell_term_new _ _ _ _) (fun y hy => by simp at hy; rcases hy with rfl | rfl <;> rfl) (by decide) (by unfold maxLen; omega) (by omega) (by simp; omega) _ rfl
 exact ⟨g, cap, w3, hr, h.push hN hY hb ⟨a, c, rfl, ht⟩ _ rfl ho hg hat, hg, hat⟩
def FyW (Y : Nat → Prop) (p : Pr) (x : Tm) (W0 wr : World) (o k f : Value) (wc : World) : Prop :=
 ∃ (U : Nat) (y : Tm) (a : Option Addr) (c : Nat) (ok full : Bool), o = .pointer (some ⟨U, 0, none⟩) ∧ k = .bool ok ∧ f = .bool full ∧ wr.heap.size ≤ U ∧ Blk wc U #[.string y.name, .slice a y.args.length c] 27 ∧ Sl wc (fun b => (Y b ∨ wr.heap.size ≤ b) ∧ b ≠ U) a y.args ∧ Below wr.heap.size wr wc ∧
  ((fitT p x = none ∧ ok = false) ∨ ∃ z, fitT p x = some z ∧ ok = true ∧ (full = true ↔ 2000 < sizeL [z]) ∧ (full = false → y = z))
theorem fyW_endA {Y : Nat → Prop} {p : Pr} {x y : Tm} {W0 wr wd w1 : World} {a : Option Addr} {c : Nat} {ok full : Bool} (hW : W0.heap.size ≤ wr.heap.size) (hd : Below wr.heap.size wr wd) (hb : Below wd.heap.size wd w1) (hs : Sl w1 (fun b => (Y b ∧ b < wd.heap.size) ∨ wd.heap.size ≤ b) a y.args) (hc : (fitT p x = none ∧ ok = false) ∨ ∃ z, fitT p x = some z ∧ ok = true ∧ (full = true ↔ 2000 < sizeL [z]) ∧ (full = false → y = z)) :
  FyW Y p x W0 wr (.pointer (some ⟨w1.heap.size, 0, none⟩)) (.bool ok) (.bool full) (w1.alloc (.cells #[.string y.name, .slice a y.args.length c] 27)) := by
 have h1 := hd.size
 have h2 := hb.size
 refine ⟨w1.heap.size, y, a, c, ok, full, rfl, rfl, rfl, by omega, Blk.new w1 _ _, (hs.mono fun b h hlt => ⟨?_, by omega⟩).later ((Below.refl _ _).alloc (Nat.le_refl _) _), (hd.trans (hb.mono hd.size)).alloc (by omega) _, hc⟩
 rcases h with h | h
 ·exact Or.inl h.1
 ·exact Or.inr (by omega)
theorem fyW_endB {Y : Nat → Prop} {p : Pr} {x y : Tm} {W0 wr wd w1 : World} (hY : ∀ b, Y b → b < W0.heap.size) {a : Option Addr} {c : Nat} {ok full : Bool} (hW : W0.heap.size ≤ wr.heap.size) (hd : Below wr.heap.size wr wd) (hb : Below wd.heap.size wd w1) (hz : Blk w1 wd.heap.size #[.string ⟨#[]⟩, .slice none 0 0] 27) (hs : Sl w1 (fun b => (Y b ∧ b < wd.heap.size + 1) ∨ wd.heap.size + 1 ≤ b) a y.args) (hc : (fitT p x = none ∧ ok = false) ∨ ∃ z, fitT p x = some z ∧ ok = true ∧ (full = true ↔ 2000 < sizeL [z]) ∧ (full = false → y = z)) :
  Below wr.heap.size wr ((w1.setCell ⟨wd.heap.size, 0, none⟩ (.string y.name)).setCell ⟨wd.heap.size, 1, none⟩ (.slice a y.args.length c)) ∧ FyW Y p x W0 wr (.pointer (some ⟨wd.heap.size, 0, none⟩)) (.bool ok) (.bool full) ((w1.setCell ⟨wd.heap.size, 0, none⟩ (.string y.name)).setCell ⟨wd.heap.size, 1, none⟩ (.slice a y.args.length c)) := by
 have h1 := hd.size
 have hb2 : Below wr.heap.size wr ((w1.setCell ⟨wd.heap.size, 0, none⟩ (.string y.name)).setCell ⟨wd.heap.size, 1, none⟩ (.slice a y.args.length c)) := ((hd.trans (hb.mono hd.size)).setCell (by simp; omega) _).setCell (by simp; omega) _
 refine ⟨hb2, wd.heap.size, y, a, c, ok, full, rfl, rfl, rfl, h1, (hz.set 0 _).set 1 _, ?_, hb2, hc⟩
 refine (hs.kept fun b hb => ?_).mono fun b h hlt => ⟨?_, ?_⟩
 ·have hne : b ≠ wd.heap.size := by
   rcases hb with h | h
   ·have := hY b h.1; omega
   ·omega
  rw [Below.heap_setCell _ _ _ _ (by simpa using hne), Below.heap_setCell _ _ _ _ (by simpa using hne)]
 ·rcases h with h | h
  ·exact Or.inl h.1
  ·exact Or.inr (by omega)
 ·rcases h with h | h
  ·have := hY b h.1; omega
  ·omega
theorem great_in {rs : List Pr} {t x z : Tm} {ps : List (List Int)} {p : List Int} {r : Pr} (hp : p ∈ ps) (hr : r ∈ rs) (hx : atT t p = some x) (hf : fitT r x = some z) : putT z p t ∈ ps.flatMap (stAt rs t) := by
 refine List.mem_flatMap.2 ⟨p, hp, ?_⟩
 unfold stAt
 rw [hx]
 exact List.mem_filterMap.2 ⟨r, hr, by rw [hf]; rfl⟩
theorem atOf_good {t x : Tm} {p : List Int} (hx : atT t p = some x) (v pv : Value) (w : World) (X : Nat → Prop) (hv : TV w X v t) (hp : PV w X pv p) :
  Calls Tryz.prog 40 #[v, pv] w fun e w' => ∃ (a9 : Option Addr) (c9 : Nat), e = .returned (.tuple #[.agg #[.string x.name, .slice a9 x.args.length c9], .bool true]) ∧ Sl w' X a9 x.args ∧ Below w.heap.size w w' := by
 refine (atOf_any p t v pv w X hv hp).mono ?_
 rintro e w' ⟨v', rfl, hyes, _, hb⟩
 obtain ⟨a, c, rfl, hs⟩ := hyes x hx
 rw [hx]
 exact ⟨a, c, rfl, hs.later hb, hb⟩
theorem st_start {rs : List Pr} {t : Tm} {aa : Option Addr} {ca : Nat} {u : Value} {w w1 : World} {X : Nat → Prop} (hu : QV w X u rs) (hs : Sl w X aa t.args) (hb : Below (w.alloc (.cells #[.string t.name, .slice aa t.args.length ca] 27)).heap.size (w.alloc (.cells #[.string t.name, .slice aa t.args.length ca] 27)) w1) {g7 : Nat} {xs7 : List Value} {Z : Nat → Prop} (hZ : ∀ b, Z b → w.heap.size ≤ b) (hr : RowP w1 Z (plcT t) xs7) (hg : g7 < w1.heap.size) (hc : ∀ j u, xs7[j]? = some u → w1.cell? ⟨g7, j, none⟩ = some u) :
  ∃ fv, Evs (StF (YB X w.heap.size w1.heap.size) rs t (plcT t) aa ca w.heap.size g7 fv u w1) w1 := by
 have hbw := ((Below.refl w.heap.size w).alloc (Nat.le_refl _) (.cells #[.string t.name, .slice aa t.args.length ca] 27)).trans (hb.mono (by simp))
 refine ⟨fun i => (xs7[i]?).getD (.bool false), stF_ev ⟨(Blk.new w _ _).below hb (by simp), (hs.later hbw).mono fun b hx h => ⟨h, Or.inl hx⟩, fun i hi => ?_, (hu.later hbw).mono fun b hx h => ⟨h, Or.inl hx⟩, Below.refl _ _⟩ hg⟩
 obtain ⟨u, h1, h2⟩ := hr.get i hi
 simp only [h1, Option.getD_some]
 exact ⟨hc i u h1, h2.mono fun b hx h => ⟨h, Or.inr (hZ b hx)⟩⟩
set_option maxHeartbeats 20000000 in
theorem stepsOfY_any (rs : List Pr) (t : Tm) (aa : Option Addr) (ca : Nat) (u : Value) (w : World) (X : Nat → Prop) (hu : QV w X u rs) (hs : Sl w X aa t.args) (h40 : rs.length ≤ 40) (hrz : ∀ p ∈ rs, sizeL [p.l] ≤ 1000000 ∧ sizeL [p.r] ≤ 1000000) (hz : sizeL [t] ≤ 2000) :
  Calls Tryz.prog 17 #[u, .agg #[.string t.name, .slice aa t.args.length ca]] w fun e w' => StoPostY rs t X w e w' := by
 have HU := hide hu
 have HS := hide hs
 obtain ⟨au, cu, rfl, hlu, _⟩ := hu
 clear hs
 go_enter Tryz.func17, Tryz.ntmps17
 go_wp2_with fail
 refine (placesOf_any t _ _ X ⟨_, _, rfl, HS.out.later ((Below.refl _ _).alloc (Nat.le_refl _) _)⟩ (by omega)).mono ?_
 rintro e W0 ⟨v7, xs7, rfl, hown7, hrow7, hb0⟩
 obtain ⟨g7, cap7, rfl, hg7, hg7', hcel7⟩ := owned_val hown7 (by simp [plcT])
 obtain ⟨fv, hst⟩ := st_start (ca := ca) HU.out HS.out hb0 (fun b hb => by have h9 := hb.1; simp at h9; omega) hrow7 hg7' hcel7
 have A0 := hide hst
 have HBW : Hid (Below w.heap.size w W0) := ((Below.refl w.heap.size w).alloc (Nat.le_refl _) _).trans (hb0.mono (by simp))
 have HAT := hide (fun p hp => plc_at p t hp)
 have HPS : Hid ((plcT t).length ≤ 2000) := by unfold Hid; rw [plcT_len]; exact hz
 have HALLS : Hid (stAll rs t = (plcT t).flatMap (stAt rs t)) := rfl
 generalize plcT t = ps at *
 clear hown7 hrow7 hb0 hcel7 hst hg7 HS HU
 go_wp2_with fail
 go_loopw [7, 8] (fun v o wr => StoInv (YB X w.heap.size W0.heap.size) rs t ps W0 v o wr) (fun v o wr => ps.length - (intOf o).toNat)
 case atStart => exact ⟨0, [], Nat.zero_le _, rfl, Row.start _ _ _ _, by simp, Below.refl _ _⟩
 case round =>
  obtain ⟨i, xs, hi, rfl, hrow, hall, hb⟩ := hrel
  have HROW := hide hrow
  have HALL := hide hall
  have HB := hide hb
  clear hrow hall hb
  by_cases hlt : i < ps.length
  ·have hlt2 : (i : Int) < (ps.length : Int) := by omega
   have hi2000 : i ≤ 2000 := by have := HPS.out; omega
   have A1 : Hid (Evs (StF (YB X w.heap.size W0.heap.size) rs t ps aa ca w.heap.size g7 fv (.slice au rs.length cu) W0) wr) := A0.out.later HB.out
   obtain ⟨x, hx⟩ := HAT.out ps[i] (List.getElem_mem hlt)
   have HX := hide hx
   clear hx
   have HNX := hide (flat_next (rs := rs) (t := t) hlt)
   obtain ⟨l0, hl0⟩ : ∃ l0, l0 = (ps.take i).flatMap (stAt rs t) := ⟨_, rfl⟩
   have HLEN : Hid (l0.length ≤ 80000) := by
    have h1 := flat_len (t := t) h40 (ps.take i)
    have h2 := HPS.out
    unfold Hid
    rw [hl0]
    simp only [List.length_take] at h1
    omega
   rw [← hl0] at HROW HALL HNX
   clear hl0
   have PLW : Hid (∀ w', StF (YB X w.heap.size W0.heap.size) rs t ps aa ca w.heap.size g7 fv (.slice au rs.length cu) W0 w' → w'.cell? ⟨g7, i, none⟩ = some (fv i) ∧ PV w' (YB X w.heap.size W0.heap.size) (fv i) ps[i]) := fun w' h => h.pl i hlt
   obtain ⟨pa, pc, hpv, _, _⟩ := (PLW.out _ A1.out.now).2
   have HPV := hide hpv
   clear hpv
   have HPZ := hide (List.getElem_mem hlt)
   generalize ps[i] = pz at *
   go_upto_region 6 with fail
   go_cut [9] (fun o wc => AtW (YB X w.heap.size W0.heap.size) t x W0 u7 l0 o wc)
   case first =>
    have BD : Hid (Below wr.heap.size wr wr.drew) := below_drewN (Below.refl _ _) 1
    have A2 : Hid (Evs (StF (YB X w.heap.size W0.heap.size) rs t ps aa ca w.heap.size g7 fv (.slice au rs.length cu) W0) wr.drew) := A1.out.later BD.out
    refine wp_region_held_drew (S := StF (YB X w.heap.size W0.heap.size) rs t ps aa ca w.heap.size g7 fv (.slice au rs.length cu) W0) (by kernel_rfl) A2.out.now (fun hHeld => ?_)
    refine tkq (v := ?_) 0 rfl ?_ ?_
    rotate_left
    ·intro w' hSw
     have c0 : w'.cell? ⟨w.heap.size, 0, none⟩ = some (.string t.name) := hSw.k1.cell 0
     have c1 : w'.cell? ⟨w.heap.size, 1, none⟩ = some (.slice aa t.args.length ca) := hSw.k1.cell 1
     go_simp <;> with_reducible rfl
    try simp only [Act.put, sq]
    refine tkq (v := ?_) 1 rfl ?_ ?_
    rotate_left
    ·intro w' hSw
     go_simp <;> with_reducible rfl
    try simp only [Act.put, sq]
    refine tkq (v := ?_) 2 rfl ?_ ?_
    rotate_left
    ·intro w' hSw
     go_simp <;> with_reducible rfl
    try simp only [Act.put, sq]
    refine tkq (v := ?_) 3 rfl ?_ ?_
    rotate_left
    ·intro w' hSw
     go_simp <;> with_reducible rfl
    try simp only [Act.put, sq]
    refine tkq (v := ?_) 4 rfl ?_ ?_
    rotate_left
    ·intro w' hSw
     have c0 := (PLW.out _ hSw).1
     go_simp <;> with_reducible rfl
    try simp only [Act.put, sq]
    generalize wr.drew = wd at *
    refine wpAnyH_ready (rs := [5, 9]) (by kernel_rfl) (by simp) ?_
    refine AllReadyH.cons rfl (fun K hK => ?_) (AllReadyH.cons rfl (fun K hK => ?_) AllReadyH.nil)
    ·go_simp
     go_at_call 40
     refine (atOf_good HX.out _ _ _ (YB X w.heap.size W0.heap.size) ⟨_, _, rfl, A2.out.now.s1⟩ (PLW.out _ A2.out.now).2).mono ?_
     rintro e w5 ⟨a9, c9, rfl, hs9, hb5⟩
     have A5 := hide (A2.out.later hb5)
     have S9 := hide hs9
     have B5 := hide (BD.out.trans (hb5.mono BD.out.size))
     clear hs9 hb5
     go_simp
     refine hK.out _ _ (by exact A5.out.now) (fun hHeld => ?_)
     clear hK K
     try simp only [Act.put, sq]
     refine tkq (v := ?_) 6 rfl ?_ ?_
     rotate_left
     ·intro w' hSw
      go_simp <;> with_reducible rfl
     try simp only [Act.put, sq]
     refine tkq (v := ?_) 7 rfl ?_ ?_
     rotate_left
     ·intro w' hSw
      go_simp <;> with_reducible rfl
     try simp only [Act.put, sq]
     refine tkq (v := ?_) 8 rfl ?_ ?_
     rotate_left
     ·intro w' hSw
      go_simp <;> with_reducible rfl
     try simp only [Act.put, sq]
     refine rdq 9 rfl fun K hK => ?_
     go_simp
     refine hK.out _ _ (by exact (A5.out.alloc _).now) (fun hHeld => ?_)
     clear hK K
     try simp only [Act.put, sq]
     refine rdq 10 rfl fun K hK => ?_
     go_simp
     refine hK.out _ _ (by exact (A5.out.alloc _).now) (fun hHeld => ?_)
     clear hK K
     try simp only [Act.put, sq]
     refine tkq (v := ?_) 11 rfl ?_ ?_
     rotate_left
     ·intro w' hSw
      go_simp <;> with_reducible rfl
     try simp only [Act.put, sq]
     refine wpAnyH_done (by kernel_rfl) ?_ _
     go_wp2_with fail
     go_meet
     exact atW_endA HROW.out HB.out B5.out S9.out
    ·go_simp
     refine hK.out _ _ (by exact (A2.out.alloc _).now) (fun hHeld => ?_)
     clear hK K
     try simp only [Act.put, sq]
     have AZ := hide (A2.out.alloc (.cells #[.string ⟨#[]⟩, .slice none 0 0] 27))
     have UZ := hide (Blk.new wd #[.string ⟨#[]⟩, .slice none 0 0] 27)
     refine rdq 5 rfl fun K hK => ?_
     go_simp
     go_at_call 40
     refine (atOf_good HX.out _ _ _ (YB X w.heap.size W0.heap.size) ⟨_, _, rfl, AZ.out.now.s1⟩ (PLW.out _ AZ.out.now).2).mono ?_
     rintro e w5 ⟨a9, c9, rfl, hs9, hb5⟩
     have A5 := hide (AZ.out.later hb5)
     have S9 := hide hs9
     have U5 := hide (UZ.out.below hb5 UZ.out.lt)
     have B5 := hide (((Below.refl wd.heap.size wd).alloc (Nat.le_refl _) (.cells #[.string ⟨#[]⟩, .slice none 0 0] 27)).trans (hb5.mono (by simp)))
     clear hs9 hb5
     go_simp
     refine hK.out _ _ (by exact A5.out.now) (fun hHeld => ?_)
     clear hK K
     try simp only [Act.put, sq]
     refine tkq (v := ?_) 6 rfl ?_ ?_
     rotate_left
     ·intro w' hSw
      go_simp <;> with_reducible rfl
     try simp only [Act.put, sq]
     refine tkq (v := ?_) 7 rfl ?_ ?_
     rotate_left
     ·intro w' hSw
      go_simp <;> with_reducible rfl
     try simp only [Act.put, sq]
     refine tkq (v := ?_) 8 rfl ?_ ?_
     rotate_left
     ·intro w' hSw
      go_simp <;> with_reducible rfl
     try simp only [Act.put, sq]
     have z0 := U5.out.c0
     have z1 := U5.out.c1
     have zf := U5.out.frozen
     have zl : wd.heap.size < w5.heap.size := U5.out.lt
     have UP := hide (atW_endB (fun b (h : YB X w.heap.size W0.heap.size b) => h.1) (t := t) (c9 := c9) (HROW.out.below BD.out) (HB.out.trans (BD.out.mono HB.out.size)) B5.out U5.out S9.out)
     refine rdq 10 rfl fun K hK => ?_
     go_simp
     refine hK.out _ _ (by exact (A2.out.later UP.out.1).now) (fun hHeld => ?_)
     clear hK K
     try simp only [Act.put, sq]
     refine tkq (v := ?_) 11 rfl ?_ ?_
     rotate_left
     ·intro w' hSw
      go_simp <;> with_reducible rfl
     try simp only [Act.put, sq]
     refine wpAnyH_done (by kernel_rfl) ?_ _
     go_wp2_with fail
     go_meet
     exact UP.out.2
   obtain ⟨B9, a9, c9, xs9, rfl, hk9, hs9, hB9, hne9, hrow9, hb9⟩ := hcut
   have S9 : Hid (∀ w', Below W0.heap.size W0 w' → Sl w' (YB X w.heap.size W0.heap.size) a9 x.args) := fun w' hb => hs9.kept fun b h => (hb.block b h.1).trans (hb9.block b h.1).symm
   have K9 := hide hk9
   have NE9 := hide hne9
   have ROW9 := hide hrow9
   have BW9 := hide hb9
   have HB9 := hide hB9
   clear hk9 hs9 hne9 hrow9 hb9 hB9 HROW A1
   go_wp2_with fail
   go_loopw [7, 11] (fun v o wr => StiInv (YB X w.heap.size W0.heap.size) rs t x pz l0 a9 c9 B9 W0 v o wr) (fun v o wr => rs.length - (intOf o).toNat)
   case atStart => exact ⟨0, xs9, Nat.zero_le _, rfl, by simpa [stK] using ROW9.out, by simpa [stK] using HALL.out, K9.out, HB9.out, NE9.out, BW9.out⟩
   case round =>
    obtain ⟨k, xs', hk, rfl, hrow, hall', hk9, _, hne, hb⟩ := hrel
    have ROWI := hide hrow
    have ALLI := hide hall'
    have K9I := hide hk9
    have NEI := hide hne
    have BI := hide hb
    clear hrow hall' hk9 hne hb K9 NE9 ROW9 BW9
    by_cases hkl : k < rs.length
    ·have hkl2 : (k : Int) < (rs.length : Int) := by omega
     obtain ⟨bq, oq, a1, c1, a2, c2, hau, d0, d1, d2, d3, hq1, hq2⟩ := (A0.out wr BI.out).qv.get k hkl
     have HNONE := hide (stK_none (t := t) (x := x) (p := pz) hkl)
     have HSOME := hide (fun z => stK_some (t := t) (x := x) (z := z) (p := pz) hkl)
     have HMEM := hide (List.getElem_mem hkl)
     have HRZ := hide (hrz _ (List.getElem_mem hkl))
     have Q1 := hide hq1
     have Q2 := hide hq2
     have D := hide (And.intro d0 (And.intro d1 (And.intro d2 d3)))
     clear hq1 hq2 d0 d1 d2 d3
     generalize rs[k] = r at *
     subst hau
     have HWS : Hid (W0.heap.size ≤ wr.heap.size) := BI.out.size
     go_upto_region 10 with fail
     go_cut [12, 13, 14] (fun o k f wc => FyW (YB X w.heap.size W0.heap.size) r x W0 wr o k f wc)
     case first =>
      have BD : Hid (Below wr.heap.size wr wr.drew) := below_drewN (Below.refl _ _) 1
      refine wp_region_held_drew (S := fun w' => Below wr.heap.size wr w') (by kernel_rfl) BD.out (fun hHeld => ?_)
      refine tkq (v := ?_) 0 rfl ?_ ?_
      rotate_left
      ·intro w' hSw
       go_simp <;> with_reducible rfl
      try simp only [Act.put, sq]
      refine tkq (v := ?_) 1 rfl ?_ ?_
      rotate_left
      ·intro w' hSw
       go_simp <;> with_reducible rfl
      try simp only [Act.put, sq]
      refine tkq (v := ?_) 2 rfl ?_ ?_
      rotate_left
      ·intro w' hSw
       go_simp <;> with_reducible rfl
      try simp only [Act.put, sq]
      refine tkq (v := ?_) 3 rfl ?_ ?_
      rotate_left
      ·intro w' hSw
       have c0 := cell_later hSw D.out.1
       have c1 := cell_later hSw D.out.2.1
       have c2 := cell_later hSw D.out.2.2.1
       have c3 := cell_later hSw D.out.2.2.2
       go_simp <;> with_reducible rfl
      try simp only [Act.put, sq]
      refine tkq (v := ?_) 4 rfl ?_ ?_
      rotate_left
      ·intro w' hSw
       have c0 : w'.cell? ⟨B9, 0, none⟩ = some (.string x.name) := (K9I.out.below hSw K9I.out.lt).cell 0
       have c1 : w'.cell? ⟨B9, 1, none⟩ = some (.slice a9 x.args.length c9) := (K9I.out.below hSw K9I.out.lt).cell 1
       go_simp <;> with_reducible rfl
      try simp only [Act.put, sq]
      generalize wr.drew = wd at *
      refine wpAnyH_ready (rs := [5, 10]) (by kernel_rfl) (by simp) ?_
      refine AllReadyH.cons rfl (fun K hK => ?_) (AllReadyH.cons rfl (fun K hK => ?_) AllReadyH.nil)
      ·go_simp
       go_at_call 41
       refine (docFits_any r x a1 a2 a9 c1 c2 c9 _ (YB X w.heap.size W0.heap.size) (Q1.out.later BD.out) (Q2.out.later BD.out) (S9.out _ (BI.out.trans (BD.out.mono BI.out.size))) HRZ.out.1 HRZ.out.2).mono ?_
       rintro e w5 ⟨y, ay, cy, ok, full, rfl, hsy, hb5, hcy⟩
       have HC := hide hcy
       have SY := hide hsy
       have B5 := hide hb5
       have B5w := hide (BD.out.trans (hb5.mono BD.out.size))
       clear hsy hb5 hcy
       go_simp
       refine hK.out _ _ (by exact B5w.out) (fun hHeld => ?_)
       clear hK K
       try simp only [Act.put, sq]
       refine tkq (v := ?_) 6 rfl ?_ ?_
       rotate_left
       ·intro w' hSw
        go_simp <;> with_reducible rfl
       try simp only [Act.put, sq]
       refine tkq (v := ?_) 7 rfl ?_ ?_
       rotate_left
       ·intro w' hSw
        go_simp <;> with_reducible rfl
       try simp only [Act.put, sq]
       refine tkq (v := ?_) 8 rfl ?_ ?_
       rotate_left
       ·intro w' hSw
        go_simp <;> with_reducible rfl
       try simp only [Act.put, sq]
       refine tkq (v := ?_) 9 rfl ?_ ?_
       rotate_left
       ·intro w' hSw
        go_simp <;> with_reducible rfl
       try simp only [Act.put, sq]
       refine rdq 10 rfl fun K hK => ?_
       go_simp
       refine hK.out _ _ (by exact B5w.out.alloc B5w.out.size _) (fun hHeld => ?_)
       clear hK K
       try simp only [Act.put, sq]
       refine rdq 11 rfl fun K hK => ?_
       go_simp
       refine hK.out _ _ (by exact B5w.out.alloc B5w.out.size _) (fun hHeld => ?_)
       clear hK K
       try simp only [Act.put, sq]
       refine tkq (v := ?_) 12 rfl ?_ ?_
       rotate_left
       ·intro w' hSw
        go_simp <;> with_reducible rfl
       try simp only [Act.put, sq]
       refine tkq (v := ?_) 13 rfl ?_ ?_
       rotate_left
       ·intro w' hSw
        go_simp <;> with_reducible rfl
       try simp only [Act.put, sq]
       refine wpAnyH_done (by kernel_rfl) ?_ _
       go_wp2_with fail
       go_meet
       exact fyW_endA HWS.out BD.out B5.out SY.out HC.out
      ·go_simp
       refine hK.out _ _ (by exact BD.out.alloc BD.out.size _) (fun hHeld => ?_)
       clear hK K
       try simp only [Act.put, sq]
       have BZ := hide (BD.out.alloc BD.out.size (.cells #[.string ⟨#[]⟩, .slice none 0 0] 27))
       have UZ := hide (Blk.new wd #[.string ⟨#[]⟩, .slice none 0 0] 27)
       refine rdq 5 rfl fun K hK => ?_
       go_simp
       go_at_call 41
       refine (docFits_any r x a1 a2 a9 c1 c2 c9 _ (YB X w.heap.size W0.heap.size) (Q1.out.later BZ.out) (Q2.out.later BZ.out) (S9.out _ (BI.out.trans (BZ.out.mono BI.out.size))) HRZ.out.1 HRZ.out.2).mono ?_
       rintro e w5 ⟨y, ay, cy, ok, full, rfl, hsy, hb5, hcy⟩
       have HC := hide hcy
       have SY : Hid (Sl w5 (fun b => (YB X w.heap.size W0.heap.size b ∧ b < wd.heap.size + 1) ∨ wd.heap.size + 1 ≤ b) ay y.args) := hsy.mono fun b h _ => by simpa using h
       have U5 := hide (UZ.out.below hb5 UZ.out.lt)
       have B5 := hide (((Below.refl wd.heap.size wd).alloc (Nat.le_refl _) (.cells #[.string ⟨#[]⟩, .slice none 0 0] 27)).trans (hb5.mono (by simp)))
       have B5w := hide (BZ.out.trans (hb5.mono BZ.out.size))
       clear hsy hb5 hcy
       go_simp
       refine hK.out _ _ (by exact B5w.out) (fun hHeld => ?_)
       clear hK K
       try simp only [Act.put, sq]
       refine tkq (v := ?_) 6 rfl ?_ ?_
       rotate_left
       ·intro w' hSw
        go_simp <;> with_reducible rfl
       try simp only [Act.put, sq]
       refine tkq (v := ?_) 7 rfl ?_ ?_
       rotate_left
       ·intro w' hSw
        go_simp <;> with_reducible rfl
       try simp only [Act.put, sq]
       refine tkq (v := ?_) 8 rfl ?_ ?_
       rotate_left
       ·intro w' hSw
        go_simp <;> with_reducible rfl
       try simp only [Act.put, sq]
       refine tkq (v := ?_) 9 rfl ?_ ?_
       rotate_left
       ·intro w' hSw
        go_simp <;> with_reducible rfl
       try simp only [Act.put, sq]
       have z0 := U5.out.c0
       have z1 := U5.out.c1
       have zf := U5.out.frozen
       have zl : wd.heap.size < w5.heap.size := U5.out.lt
       have UP := hide (fyW_endB (fun b (h : YB X w.heap.size W0.heap.size b) => h.1) (c := cy) HWS.out BD.out B5.out U5.out SY.out HC.out)
       refine rdq 11 rfl fun K hK => ?_
       go_simp
       refine hK.out _ _ (by exact UP.out.1) (fun hHeld => ?_)
       clear hK K
       try simp only [Act.put, sq]
       refine tkq (v := ?_) 12 rfl ?_ ?_
       rotate_left
       ·intro w' hSw
        go_simp <;> with_reducible rfl
       try simp only [Act.put, sq]
       refine tkq (v := ?_) 13 rfl ?_ ?_
       rotate_left
       ·intro w' hSw
        go_simp <;> with_reducible rfl
       try simp only [Act.put, sq]
       refine wpAnyH_done (by kernel_rfl) ?_ _
       go_wp2_with fail
       go_meet
       exact UP.out.2
     obtain ⟨U, y, ay, cy, ok, full, rfl, rfl, rfl, hU, hkU, hsU, hbU, hcU⟩ := hcut
     have BU := hide hbU
     have KU := hide hkU
     have SU := hide hsU
     have BWU := hide (BI.out.trans (hbU.mono BI.out.size))
     cases ok with
     | false =>
      have HF : Hid (fitT r x = none) := by
       rcases hcU with h | ⟨z, _, h, _⟩
       ·exact h.1
       ·cases h
      clear hcU hbU hkU hsU
      go_wp2_with fail
      go_roundw
      case rel => exact ⟨k + 1, xs', by omega, by go_num, by rw [HNONE.out HF.out]; exact ROWI.out.below BU.out, by rw [HNONE.out HF.out]; exact ALLI.out, K9I.out.below BU.out K9I.out.lt, HB9.out, NEI.out, BWU.out⟩
      case measure => simp [intOf]; omega
     | true =>
      obtain ⟨z, hf, hfull, hyz⟩ : ∃ z, fitT r x = some z ∧ (full = true ↔ 2000 < sizeL [z]) ∧ (full = false → y = z) := by
       rcases hcU with h | ⟨z, h1, _, h2, h3⟩
       ·exact absurd h.2 (by decide)
       ·exact ⟨z, h1, h2, h3⟩
      have HF := hide hf
      have HIN : Hid (putT z pz t ∈ stAll rs t) := by
       unfold Hid
       rw [HALLS.out]
       exact great_in HPZ.out HMEM.out HX.out hf
      clear hcU hbU hkU hsU hf
      cases full with
      | true =>
       have HG : Hid (2000 < sizeL [putT z pz t]) := Nat.lt_of_lt_of_le (hfull.1 rfl) (put_ge z pz t x HX.out)
       clear hfull hyz
       go_wp2_with fail
       refine bodyPost_ret (v := .tuple #[.slice none 0 0, .int .i64 8]) (by simp [results, Tryz.results17, go_sem]) rfl ?_
       exact ⟨HBW.out.trans (BWU.out.mono HBW.out.size), Or.inr ⟨⟨_, HIN.out, HG.out⟩, rfl⟩⟩
      | false =>
       have hyz' := hyz rfl
       subst hyz'
       clear hfull hyz
       have HSTEP := hide (HSOME.out y HF.out)
       go_upto_region 14 with fail
       have KUd : Hid (Blk wc.drew U #[.string y.name, .slice ay y.args.length cy] 27) := KU.out.drewN 1
       have BUd : Hid (Below wr.heap.size wr wc.drew) := BU.out.trans ((below_drewN (Below.refl wc.heap.size wc) 1).mono BU.out.size)
       have SUd : Hid (Sl wc.drew (fun b => (YB X w.heap.size W0.heap.size b ∨ wr.heap.size ≤ b) ∧ b ≠ U) ay y.args) := SU.out.later (below_drewN (Below.refl _ _) 1)
       refine wp_region_held_drew (S := fun w' => Below wr.heap.size wr w') (by kernel_rfl) BUd.out (fun hHeld => ?_)
       refine tkq (v := ?_) 0 rfl ?_ ?_
       rotate_left
       ·intro w' hSw
        have c0 : w'.cell? ⟨w.heap.size, 0, none⟩ = some (.string t.name) := (A0.out _ (BI.out.trans (hSw.mono BI.out.size))).k1.cell 0
        have c1 : w'.cell? ⟨w.heap.size, 1, none⟩ = some (.slice aa t.args.length ca) := (A0.out _ (BI.out.trans (hSw.mono BI.out.size))).k1.cell 1
        go_simp <;> with_reducible rfl
       try simp only [Act.put, sq]
       refine tkq (v := ?_) 1 rfl ?_ ?_
       rotate_left
       ·intro w' hSw
        go_simp <;> with_reducible rfl
       try simp only [Act.put, sq]
       refine tkq (v := ?_) 2 rfl ?_ ?_
       rotate_left
       ·intro w' hSw
        go_simp <;> with_reducible rfl
       try simp only [Act.put, sq]
       refine tkq (v := ?_) 3 rfl ?_ ?_
       rotate_left
       ·intro w' hSw
        go_simp <;> with_reducible rfl
       try simp only [Act.put, sq]
       refine tkq (v := ?_) 4 rfl ?_ ?_
       rotate_left
       ·intro w' hSw
        have c0 := (PLW.out _ (A0.out _ (BI.out.trans (hSw.mono BI.out.size)))).1
        go_simp <;> with_reducible rfl
       try simp only [Act.put, sq]
       clear KU SU BU BWU
       generalize wc.drew = wd at *
       have z0 := KUd.out.c0
       have z1 := KUd.out.c1
       refine rdq 5 rfl fun K hK => ?_
       go_simp
       refine hK.out _ _ (by exact BUd.out) (fun hHeld => ?_)
       clear hK K
       try simp only [Act.put, sq]
       have AD := hide (A0.out _ (BI.out.trans (BUd.out.mono BI.out.size)))
       refine rdq 6 rfl fun K hK => ?_
       go_simp
       go_at_call 42
       refine (putOf_any y pz t _ _ _ _ (fun b => (YB X w.heap.size W0.heap.size b ∨ wr.heap.size ≤ b) ∧ b ≠ U) ⟨_, _, rfl, AD.out.s1.mono fun b h _ => ⟨Or.inl h, by have := HWS.out; have := h.1; omega⟩⟩ ((PLW.out _ AD.out).2.mono fun b h _ => ⟨Or.inl h, by have := HWS.out; have := h.1; omega⟩) ⟨_, _, rfl, SUd.out⟩ (by omega)).mono ?_
       rintro e w6 ⟨v6, rfl, ⟨a6, c6, hv6, hs6⟩, hb6⟩
       subst hv6
       have B6 := hide (BUd.out.trans (hb6.mono BUd.out.size))
       have K6 := hide (KUd.out.below hb6 KUd.out.lt)
       have HLU : Hid (U < wd.heap.size) := KUd.out.lt
       have S6 := hide hs6
       clear hs6 hb6 z0 z1
       go_simp
       refine hK.out _ _ (by exact B6.out) (fun hHeld => ?_)
       clear hK K
       try simp only [Act.put, sq]
       have z0 := K6.out.c0
       have z1 := K6.out.c1
       have zf := K6.out.frozen
       have BF := hide ((B6.out.setCell (p := ⟨U, 0, none⟩) hU (.string (putT y pz t).name)).setCell (p := ⟨U, 1, none⟩) hU (.slice a6 (putT y pz t).args.length c6))
       have KF := hide ((K6.out.set 0 (.string (putT y pz t).name)).set 1 (.slice a6 (putT y pz t).args.length c6))
       have SF : Hid (Sl ((w6.setCell ⟨U, 0, none⟩ (.string (putT y pz t).name)).setCell ⟨U, 1, none⟩ (.slice a6 (putT y pz t).args.length c6)) (fun b => YB X w.heap.size W0.heap.size b ∨ wr.heap.size ≤ b) a6 (putT y pz t).args) := (S6.out.kept fun b hb => by
        have hne : b ≠ U := by
         rcases hb with h | h
         ·exact h.2
         ·have := HLU.out; omega
        rw [Below.heap_setCell _ _ _ _ (by simpa using hne), Below.heap_setCell _ _ _ _ (by simpa using hne)]).mono fun b h _ => by
        rcases h with h | h
        ·exact h.1
        ·exact Or.inr (by have := HLU.out; omega)
       refine rdq 7 rfl fun K hK => ?_
       go_simp
       refine hK.out _ _ (by exact BF.out) (fun hHeld => ?_)
       clear hK K
       try simp only [Act.put, sq]
       refine wpAnyH_done (by kernel_rfl) ?_ _
       clear K6 S6 B6 KUd BUd SUd z0 z1 zf AD
       have HGE : Hid (sizeL [putT y pz t] = sizeL [putT y pz t]) := rfl
       generalize putT y pz t = yt at *
       generalize (w6.setCell ⟨U, 0, none⟩ (.string yt.name)).setCell ⟨U, 1, none⟩ (.slice a6 yt.args.length c6) = wf at *
       have z0 : wf.cell? ⟨U, 0, none⟩ = some (.string yt.name) := KF.out.cell 0
       have z1 : wf.cell? ⟨U, 1, none⟩ = some (.slice a6 yt.args.length c6) := KF.out.cell 1
       go_wp2_with fail
       refine (size_any yt _ _ _ (fun b => YB X w.heap.size W0.heap.size b ∨ wr.heap.size ≤ b) ⟨_, _, rfl, SF.out⟩ (by decide) (by decide)).mono ?_
       rintro e w7 ⟨rfl, hb7⟩
       have B7 := hide (BF.out.trans (hb7.mono BF.out.size))
       have K7 := hide (KF.out.below hb7 KF.out.lt)
       have S7 := hide (SF.out.later hb7)
       clear hb7 BF KF SF z0 z1
       by_cases hg : 2000 < sizeL [yt]
       ·have hm : min (sizeL [yt] : Int) (2000 + 1) = 2001 := by omega
        rw [hm]
        have HG := hide hg
        clear hg hm
        go_wp2_with fail
        refine bodyPost_ret (v := .tuple #[.slice none 0 0, .int .i64 8]) (by simp [results, Tryz.results17, go_sem]) rfl ?_
        exact ⟨HBW.out.trans ((BI.out.trans (B7.out.mono BI.out.size)).mono HBW.out.size), Or.inr ⟨⟨_, HIN.out, HG.out⟩, rfl⟩⟩
       ·have hm : min (sizeL [yt] : Int) (2000 + 1) = (sizeL [yt] : Int) := by omega
        rw [hm]
        have hle : ¬ (2000 : Int) < (sizeL [yt] : Int) := by omega
        have HG : Hid (sizeL [yt] ≤ 2000) := by unfold Hid; omega
        have hlen : (l0 ++ stK rs t x pz k).length ≤ 1000000 := by have h1 := stK_len rs t x pz k; have h2 := HLEN.out; rw [List.length_append]; omega
        obtain ⟨g, cap, w8, hrun, hrow8, hg8, hat8⟩ := terms_append ROWI.out HWS.out (fun b h => h.1) B7.out yt a6 c6 S7.out hlen
        rw [List.length_append] at hrun hrow8
        have HRUN := hide hrun
        have hltr := ROWI.out.own.lt
        have ROW8 : Hid (Row w8 W0.heap.size 27 (YB X w.heap.size W0.heap.size) (.slice (some ⟨g, 0, none⟩) (l0.length + (stK rs t x pz k).length + 1) cap) (l0 ++ stK rs t x pz (k + 1)) (xs' ++ [.string yt.name, .slice a6 yt.args.length c6])) := by
         unfold Hid
         rw [HSTEP.out, ← List.append_assoc]
         exact hrow8
        have ALL8 : Hid (∀ q ∈ l0 ++ stK rs t x pz (k + 1), sizeL [q] ≤ 2000) := by
         unfold Hid
         rw [HSTEP.out, ← List.append_assoc]
         intro q hq
         rcases List.mem_append.1 hq with h | h
         ·exact ALLI.out q h
         ·rw [List.mem_singleton.1 h]; exact HG.out
        have B7w := BI.out.trans (B7.out.mono BI.out.size)
        have BW8 : Hid (Below W0.heap.size W0 w8) := (B7w.alloc B7w.size _).grown hg8 (by have := B7w.size; simp; omega) (fun j hj => (hltr j hj).1)
        have K98 : Hid (Blk w8 B9 #[.string x.name, .slice a9 x.args.length c9] 27) := ((K9I.out.below B7.out K9I.out.lt).alloc _).grown hg8 NEI.out
        have NE8 : Hid (some B9 ≠ (Value.slice (some ⟨g, 0, none⟩) (l0.length + (stK rs t x pz k).length + 1) cap).ownBlock) := by
         unfold Hid
         intro h
         have h9 : B9 = g := by simpa [Value.ownBlock] using h
         rcases hat8 with e | e
         ·exact NEI.out (by rw [e, h9])
         ·have h1 := K9I.out.lt
          have h2 := B7.out.size
          simp at e
          omega
        have z0 : w7.cell? ⟨U, 0, none⟩ = some (.string yt.name) := K7.out.cell 0
        have z1 : w7.cell? ⟨U, 1, none⟩ = some (.slice a6 yt.args.length c6) := K7.out.cell 1
        clear hrun hrow8 hg8 hat8 hltr hm hg B7w
        go_wp2_with (at_builtin; refine wpList_append_eq rfl _ _ _ _ rfl rfl rfl HRUN.out ?_)
        go_roundw
        case rel => exact ⟨k + 1, _, by omega, by go_num, ROW8.out, ALL8.out, K98.out, HB9.out, NE8.out, BW8.out⟩
        case measure => simp [intOf]; omega
    ·have hkr : k = rs.length := by omega
     have HL : Hid (l0 ++ stK rs t x pz k = (ps.take (i + 1)).flatMap (stAt rs t)) := by
      unfold Hid
      rw [hkr, stK_all HX.out, HNX.out]
     have R2 := ROWI.out
     have A2 := ALLI.out
     rw [HL.out] at R2 A2
     have R3 := hide R2
     have A3 := hide A2
     clear R2 A2
     go_wp2_with fail
     go_roundw
     case rel => exact ⟨i + 1, xs', by omega, by go_num, R3.out, A3.out, BI.out⟩
     case measure => simp [intOf]; omega
  ·go_wp2_with fail
   refine bodyPost_ret (v := .tuple #[u7, .int .i64 0]) (by simp [results, Tryz.results17, go_sem]) rfl ?_
   have htk : ps.take i = ps := List.take_of_length_le (by omega)
   have hr := HROW.out
   have ha := HALL.out
   rw [htk, ← HALLS.out] at hr ha
   exact ⟨HBW.out.trans (HB.out.mono HBW.out.size), Or.inl ⟨u7, ha, rfl, W0.heap.size, xs, HBW.out.size, hr⟩⟩
theorem stepsOf_any (rs : List Pr) (t : Tm) (aa : Option Addr) (ca : Nat) (u : Value) (w : World) (X : Nat → Prop) (hu : QV w X u rs) (hs : Sl w X aa t.args) (h40 : rs.length ≤ 40) (hrz : ∀ p ∈ rs, sizeL [p.l] ≤ 1000000 ∧ sizeL [p.r] ≤ 1000000) (hz : sizeL [t] ≤ 2000) :
  Calls Tryz.prog 17 #[u, .agg #[.string t.name, .slice aa t.args.length ca]] w fun e w' => StoPost rs t w e w' := by
 refine (stepsOfY_any rs t aa ca u w X hu hs h40 hrz hz).mono ?_
 rintro e w' ⟨hb, ⟨v, h1, h2, N, xs, h3, h4⟩ | h⟩
 ·refine ⟨hb, Or.inl ⟨v, h1, h2, N, xs, h3, h4.own, h4.row.imp fun a l hs => hs.mono fun b hx _ => hx.imp (fun h => h.1) id⟩⟩
 ·exact ⟨hb, Or.inr h⟩
theorem Tryz.infoByte : (Tryz.prog.info? 5).map (fun i => (i.zero, i.size, i.bytes)) = some (some (.int .u8 0), 1, 1) := by kernel_rfl
theorem Tryz.sizeBuilder : (Tryz.prog.info? 117).map (·.size) = some 2 := by kernel_rfl
theorem Tryz.liesBuilder : liesAt Tryz.prog Tryz.prog.depth 117 (2 / Tryz.prog.cellsOf 117) 0 117 1 = true := by kernel_rfl
def Bld (w : World) (B b : Nat) (bs : List Value) (v : Value) : Prop :=
 B ≤ b ∧ (∃ p, (p = .pointer none ∨ p = .pointer (some ⟨b, 0, none⟩)) ∧ w.heap[b]? = some (.cells #[p, v] 117 (0, 0))) ∧ w.ownsRow B 5 1 v bs.length bs
def BFr (w w' : World) (b : Nat) (v v' : Value) : Prop :=
 w'.os = w.os ∧ w'.tape = w.tape ∧ w'.output = w.output ∧ w.heap.size ≤ w'.heap.size ∧ (∀ k, k < w.heap.size → k ≠ b → some k ≠ v.ownBlock → w'.heap[k]? = w.heap[k]?) ∧ (∀ k, v'.ownBlock = some k → v.ownBlock = some k ∨ w.heap.size ≤ k)
theorem BFr.refl (w : World) (b : Nat) (v : Value) : BFr w w b v v := ⟨rfl, rfl, rfl, Nat.le_refl _, fun _ _ _ _ => rfl, fun _ h => Or.inl h⟩
theorem BFr.trans {w w1 w2 : World} {b : Nat} {v v1 v2 : Value} (h : BFr w w1 b v v1) (h1 : BFr w1 w2 b v1 v2) : BFr w w2 b v v2 := by
 obtain ⟨a1, a2, a3, a4, a5, a6⟩ := h
 obtain ⟨c1, c2, c3, c4, c5, c6⟩ := h1
 refine ⟨c1.trans a1, c2.trans a2, c3.trans a3, Nat.le_trans a4 c4, fun k hk hb hv => ?_, fun k hk => ?_⟩
 ·refine (c5 k (Nat.lt_of_lt_of_le hk a4) hb (fun e => ?_)).trans (a5 k hk hb hv)
  rcases a6 k e.symm with h | h
  ·exact hv h.symm
  ·omega
 ·rcases c6 k hk with h | h
  ·exact a6 k h
  ·exact Or.inr (Nat.le_trans a4 h)
theorem BFr.of_below {w w' : World} (hb : Below w.heap.size w w') (b : Nat) (v : Value) : BFr w w' b v v := ⟨hb.os, hb.tape, hb.output, hb.size, fun k hk _ _ => hb.block k hk, fun _ h => Or.inl h⟩
theorem bd_ne {w : World} {B b : Nat} {bs : List Value} {v : Value} (h : Bld w B b bs v) : v.ownBlock ≠ some b := by
 obtain ⟨_, ⟨p, _, hb⟩, hown⟩ := h
 exact Lib.ownBlock_ne hown hb (by decide)
set_option maxHeartbeats 1000000 in
set_option maxRecDepth 100000 in
theorem copyCheck_any (B b : Nat) (bs : List Value) (v : Value) (w : World) (h : Bld w B b bs v) :
  Calls Tryz.prog 124 #[.pointer (some ⟨b, 0, none⟩)] w fun e w' => e = .returned (.tuple #[]) ∧ w'.heap[b]? = some (.cells #[.pointer (some ⟨b, 0, none⟩), v] 117 (0, 0)) ∧ w'.ownsRow B 5 1 v bs.length bs ∧ BFr w w' b v v := by
 obtain ⟨j, hj, hjs⟩ := Option.map_eq_some_iff.1 Tryz.sizeBuilder
 have hne := bd_ne h
 obtain ⟨hB, ⟨p, hp, hbk⟩, hown⟩ := h
 have h0 : w.cell? ⟨b, 0, none⟩ = some p := by rw [Lib.cell_of_heap hbk]; rfl
 have hsh : w.shape? b = some (117, 2) := by simp [World.shape?, hbk]
 have hfz : w.frozen? ⟨b, 0, none⟩ = false := Lib.frozen_of_heap hbk 0
 rcases hp with rfl | rfl
 ·have HF : Hid ((w.setCell ⟨b, 0, none⟩ (.pointer (some ⟨b, 0, none⟩))).heap[b]? = some (.cells #[.pointer (some ⟨b, 0, none⟩), v] 117 (0, 0)) ∧ (w.setCell ⟨b, 0, none⟩ (.pointer (some ⟨b, 0, none⟩))).ownsRow B 5 1 v bs.length bs ∧ BFr w (w.setCell ⟨b, 0, none⟩ (.pointer (some ⟨b, 0, none⟩))) b v v) := by
   refine ⟨by simp [World.setCell, Array.getElem?_modify, hbk], ?_, rfl, rfl, rfl, by simp [World.setCell], fun k hk hkb _ => Below.heap_setCell _ _ _ _ (by simpa using hkb), fun _ h => Or.inl h⟩
   refine hown.kept (w' := w.setCell ⟨b, 0, none⟩ (.pointer (some ⟨b, 0, none⟩))) (row := some b) ⟨rfl, rfl, rfl, by simp [World.setCell], fun k hk hkb => Below.heap_setCell _ _ _ _ (by simp at hkb; simpa using hkb)⟩ (Or.inr hne)
  have HOWN := hide hown
  clear hown
  go_enter Tryz.func124, Tryz.ntmps124
  go_wp2_with fail
  rw [Lib.run_to_unsafe w ⟨b, 0, none⟩ Tryz.underlying114 Tryz.underlying185 hj (by rw [hjs]; decide) hsh (Nat.zero_lt_succ 1)]
  simp only [Result.andThen]
  rw [Oper.upon_value]
  go_wp2_with fail
  rw [run_callFunc_extern Tryz.func137 (by kernel_rfl) (by kernel_rfl) (by kernel_rfl) (e := Extern.AbiNoEscape.same) (by kernel_rfl)]
  rw [Lib.run_noEscape]
  simp only [Result.andThen]
  rw [Oper.upon_value]
  go_wp2_with fail
  rw [Lib.run_from_unsafe w ⟨b, 0, none⟩ Tryz.underlying185 Tryz.underlying114 hj hsh Tryz.liesBuilder]
  simp only [Result.andThen]
  rw [Oper.upon_value]
  go_wp2_with fail
  go_end0
  exact ⟨rfl, HF.out⟩
 ·have HOWN := hide hown
  go_enter Tryz.func124, Tryz.ntmps124
  go_wp2_with fail
  rw [Lib.run_neq_ptr_same w _ Tryz.underlying114 hj]
  go_wp2_with fail
  go_end0
  exact ⟨rfl, hbk, HOWN.out, BFr.refl _ _ _⟩
theorem bd_lt {w : World} {b : Nat} {o : Obj} (h : w.heap[b]? = some o) : b < w.heap.size := by
 apply Classical.byContradiction
 intro hn
 rw [Array.getElem?_eq_none (by omega)] at h; cases h
theorem bd_put {w w2 : World} {B b : Nat} {bs bs' : List Value} {v v' : Value} (hB : B ≤ b) (hBw : B ≤ w.heap.size) (hbk : w.heap[b]? = some (.cells #[.pointer (some ⟨b, 0, none⟩), v] 117 (0, 0))) (hown : w.ownsRow B 5 1 v bs.length bs) (hown' : w2.ownsRow B 5 1 v' bs'.length bs') (hg : w.grownBy w2 v.ownBlock)
  (hat : ∀ k, v'.ownBlock = some k → v.ownBlock = some k ∨ w.heap.size ≤ k) : Bld (w2.setCell ⟨b, 1, none⟩ v') B b bs' v' ∧ BFr w (w2.setCell ⟨b, 1, none⟩ v') b v v' := by
 have hne : v.ownBlock ≠ some b := Lib.ownBlock_ne hown hbk (by decide)
 have hlt := bd_lt hbk
 have hb2 : w2.heap[b]? = some (.cells #[.pointer (some ⟨b, 0, none⟩), v] 117 (0, 0)) := by rw [hg.block b hlt (fun e => hne e.symm)]; exact hbk
 have hne' : v'.ownBlock ≠ some b := Lib.ownBlock_ne hown' hb2 (by decide)
 refine ⟨⟨hB, ⟨_, Or.inr rfl, by simp [World.setCell, Array.getElem?_modify, hb2]⟩, ?_⟩, hg.os, hg.tape, hg.output, by simp [World.setCell]; exact hg.size, fun k hk hkb hv => ?_, hat⟩
 ·exact hown'.kept (w' := w2.setCell ⟨b, 1, none⟩ v') (row := some b) ⟨rfl, rfl, rfl, by simp [World.setCell], fun k hk hkb => Below.heap_setCell _ _ _ _ (by simp at hkb; simpa using hkb)⟩ (Or.inr hne')
 ·rw [Below.heap_setCell _ _ _ _ (by simpa using hkb)]; exact hg.block k hk hv
theorem str_at {w w' : World} {B : Nat} {v v' : Value} {n : Nat} {xs : List Value} {s : ByteArray} {ty : TypeId} (hown : w.ownsRow B 5 1 v n xs) (hsm : n + s.size ≤ 2000000000) (hr : (Builtin.append_ #[115, 9] ty #[v, .string s]).run Tryz.prog w = .ok v' w')
  (hnil : v' = .slice none 0 0 ↔ v = .slice none 0 0 ∧ s.size = 0) : ∀ k, v'.ownBlock = some k → v.ownBlock = some k ∨ w.heap.size ≤ k := by
 obtain ⟨i0, hi, hz0, hz1, hz2⟩ := info_parts Tryz.infoByte
 have hsrc : Src Tryz.prog i0.size 9 (.string s) s.size (byteCells s) w := by rw [hz1]; exact Src.ofString w Tryz.underlying9 s
 have hlx := hown.1
 intro k hk
 rcases hown.2 with ⟨rfl, rfl⟩ | ⟨g, cap, cur, rfl, hBg, hh, hnc, hcm, hcs, htk⟩
 ·by_cases h0 : s.size = 0
  ·have := hnil.2 ⟨rfl, h0⟩
   rw [this] at hk; cases hk
  ·have hg := run_append_grow_src (P := Tryz.prog) w 115 9 ty 5 i0 (.int .u8 0) Tryz.underlying115 hi hz0 none 0 0 [] (by simpa using run_firstCells_none w.drew i0.size 0 0 0) (.string s) s.size (byteCells s) hsrc (by omega) (by omega) (by rw [hz2]; have := growslice_fits (need := 0 + s.size) (old := 0) (bytes := 1) (by omega) (by omega); omega)
   rw [hr] at hg
   simp only [Result.ok.injEq] at hg
   rw [hg.1] at hk
   simp [Value.ownBlock] at hk
   right; omega
 ·by_cases hroom : n + s.size ≤ cap
  ·have hc : ∀ j, j < (byteCells s).length → (w.cell? ⟨g, 0 + n * i0.size + j, none⟩).isSome = true := fun j hj => by
    rw [byteCells_length] at hj
    rw [Lib.cell_of_heap hh, hz1]
    simp; omega
   have hf : ∀ j, j < (byteCells s).length → w.frozen? ⟨g, 0 + n * i0.size + j, none⟩ = false := fun j hj => Lib.frozen_of_heap hh _
   have hg := run_append_room_src (P := Tryz.prog) w 115 9 ty 5 i0 Tryz.underlying115 hi g 0 n cap (.string s) s.size (byteCells s) hsrc hroom hc hf
   rw [hr] at hg
   simp only [Result.ok.injEq] at hg
   rw [hg.1] at hk
   simp [Value.ownBlock] at hk
   left; simp [Value.ownBlock, hk]
  ·have hfc := run_firstCells_some (P := Tryz.prog) w.drew i0.size n ⟨g, 0, none⟩ n cap xs (by rw [hz1]; exact hlx) (fun j u hj => by have := hown.cells (g := g) rfl j u hj; simpa using this)
   have hg := run_append_grow_src (P := Tryz.prog) w 115 9 ty 5 i0 (.int .u8 0) Tryz.underlying115 hi hz0 (some ⟨g, 0, none⟩) n cap xs hfc (.string s) s.size (byteCells s) hsrc (by omega) (by omega) (by rw [hz2]; have := growslice_fits (need := n + s.size) (old := cap) (bytes := 1) (by omega) (by omega); omega)
   rw [hr] at hg
   simp only [Result.ok.injEq] at hg
   rw [hg.1] at hk
   simp [Value.ownBlock] at hk
   right; omega
set_option maxHeartbeats 1000000 in
set_option maxRecDepth 100000 in
theorem writeByte_any (B b : Nat) (bs : List Value) (v : Value) (c : Int) (w : World) (h : Bld w B b bs v) (hlen : bs.length ≤ 1000000000) (hBw : B ≤ w.heap.size) :
  Calls Tryz.prog 100 #[.pointer (some ⟨b, 0, none⟩), .int .u8 c] w fun e w' => e = .returned .nilIface ∧ ∃ v', Bld w' B b (bs ++ [.int .u8 c]) v' ∧ BFr w w' b v v' := by
 obtain ⟨i0, hi, hz0, hz1, hz2⟩ := info_parts Tryz.infoByte
 have hB := h.1
 have H := hide h
 clear h
 go_enter Tryz.func100, Tryz.ntmps100
 go_wp2_with (go_at_call 124; refine (copyCheck_any B b bs v _ H.out).mono ?_)
 rintro e w1 ⟨rfl, hbk, hown, hfr⟩
 have c0 : w1.cell? ⟨b, 0, none⟩ = some (.pointer (some ⟨b, 0, none⟩)) := by rw [Lib.cell_of_heap hbk]; rfl
 have c1 : w1.cell? ⟨b, 1, none⟩ = some v := by rw [Lib.cell_of_heap hbk]; rfl
 have hlt := bd_lt hbk
 have hne : v.ownBlock ≠ some b := Lib.ownBlock_ne hown hbk (by decide)
 have hBw1 : B ≤ w1.heap.size := Nat.le_trans hBw hfr.2.2.2.1
 obtain ⟨g, cap, w2, hr2, hown2, hg2, hat2, _⟩ := run_append_lies (P := Tryz.prog) (w := w1.alloc (.cells #[.int .u8 c] 5)) 115 115 B 5 i0 _ 1 1 Tryz.underlying115 hi hz0 hz1 hz2 rfl (by decide) v bs.length bs (hown.alloc _)
  ⟨w1.heap.size, 0, none⟩ 1 1 [.int .u8 c] rfl (cell_one_new _ _ _) (fun x hx => by simp at hx; subst hx; rfl) (by decide) (by unfold maxLen; omega) (by omega) (by simp; omega) _ rfl
 have hg3 : w1.grownBy w2 v.ownBlock := grown_trans (grown_of_below ((Below.refl _ _).alloc (Nat.le_refl _) _) v.ownBlock) hg2 (fun k hk => Or.inl hk)
 have HPUT := hide (bd_put (bs' := bs ++ [.int .u8 c]) hB hBw1 hbk hown (by simpa using hown2) hg3 (fun k hk => by
  simp [Value.ownBlock] at hk
  subst hk
  rcases hat2 with e | e
  ·exact Or.inl e
  ·right; simp at e; omega))
 have hb2 : w2.heap[b]? = some (.cells #[.pointer (some ⟨b, 0, none⟩), v] 117 (0, 0)) := by rw [hg3.block b hlt (fun e => hne e.symm)]; exact hbk
 have d0 : w2.cell? ⟨b, 0, none⟩ = some (.pointer (some ⟨b, 0, none⟩)) := by rw [Lib.cell_of_heap hb2]; rfl
 have d1 : w2.cell? ⟨b, 1, none⟩ = some v := by rw [Lib.cell_of_heap hb2]; rfl
 have f1 : w2.frozen? ⟨b, 1, none⟩ = false := Lib.frozen_of_heap hb2 1
 have HR := hide hr2
 have HFR := hide hfr
 clear hr2 hown hown2 hg2 hg3 hat2 hbk hfr hb2
 go_wp2_with (at_builtin; refine wpList_append_eq rfl _ _ _ _ rfl rfl rfl HR.out ?_)
 go_ret
 exact ⟨rfl, _, HPUT.out.1, HFR.out.trans HPUT.out.2⟩
set_option maxHeartbeats 1000000 in
set_option maxRecDepth 100000 in
theorem writeString_any (B b : Nat) (bs : List Value) (v : Value) (s : ByteArray) (w : World) (h : Bld w B b bs v) (hlen : bs.length + s.size ≤ 1000000000) (hBw : B ≤ w.heap.size) :
  Calls Tryz.prog 99 #[.pointer (some ⟨b, 0, none⟩), .string s] w fun e w' => e = .returned (.tuple #[.int .i64 s.size, .nilIface]) ∧ ∃ v', Bld w' B b (bs ++ Lib.strCells s) v' ∧ BFr w w' b v v' := by
 obtain ⟨i0, hi, hz0, hz1, hz2⟩ := info_parts Tryz.infoByte
 have hB := h.1
 have H := hide h
 clear h
 go_enter Tryz.func99, Tryz.ntmps99
 go_wp2_with (go_at_call 124; refine (copyCheck_any B b bs v _ H.out).mono ?_)
 rintro e w1 ⟨rfl, hbk, hown, hfr⟩
 have c0 : w1.cell? ⟨b, 0, none⟩ = some (.pointer (some ⟨b, 0, none⟩)) := by rw [Lib.cell_of_heap hbk]; rfl
 have c1 : w1.cell? ⟨b, 1, none⟩ = some v := by rw [Lib.cell_of_heap hbk]; rfl
 have hlt := bd_lt hbk
 have hne : v.ownBlock ≠ some b := Lib.ownBlock_ne hown hbk (by decide)
 have hBw1 : B ≤ w1.heap.size := Nat.le_trans hBw hfr.2.2.2.1
 obtain ⟨v2, w2, hr2, hown2, hg2, hnil2⟩ := Lib.run_append_own_string (P := Tryz.prog) w1 B 115 9 115 5 i0 Tryz.underlying115 Tryz.underlying9 hi hz0 hz1 hz2 v bs.length bs hown s (by unfold maxLen; omega) (by omega) hBw1
 have hat := str_at hown (by omega) hr2 hnil2
 have HPUT := hide (bd_put (bs' := bs ++ Lib.strCells s) hB hBw1 hbk hown (by simpa [Lib.strCells_length] using hown2) hg2 hat)
 have hb2 : w2.heap[b]? = some (.cells #[.pointer (some ⟨b, 0, none⟩), v] 117 (0, 0)) := by rw [hg2.block b hlt (fun e => hne e.symm)]; exact hbk
 have d0 : w2.cell? ⟨b, 0, none⟩ = some (.pointer (some ⟨b, 0, none⟩)) := by rw [Lib.cell_of_heap hb2]; rfl
 have d1 : w2.cell? ⟨b, 1, none⟩ = some v := by rw [Lib.cell_of_heap hb2]; rfl
 have f1 : w2.frozen? ⟨b, 1, none⟩ = false := Lib.frozen_of_heap hb2 1
 obtain ⟨ao, n', cap, rfl⟩ : ∃ ao n' cap, v2 = .slice ao n' cap := by
  rcases hown2.2 with ⟨hv, _⟩ | ⟨g, cap, cur, hv, _⟩
  ·exact ⟨_, _, _, hv⟩
  ·exact ⟨_, _, _, hv⟩
 have HR := hide hr2
 have HFR := hide hfr
 clear hr2 hown hown2 hg2 hat hnil2 hbk hfr hb2
 go_wp2_with (at_builtin; refine wpList_append_eq rfl _ _ _ _ rfl rfl rfl HR.out ?_)
 go_ret2
 exact ⟨rfl, _, HPUT.out.1, HFR.out.trans HPUT.out.2⟩
open Go.RowKit Go.Shelf
def cl_ren : Go.Shelf.Ren := ⟨fun | 41 => 118 | n => n, fun | 22 => 25 | 23 => 27 | 4 => 4 | n => n, fun | n => n⟩
theorem cl_lays : Go.Proofs.SlLaysE0.n41 Tryz.prog cl_ren := {
 mixed := by kernel_rfl
 f41 := ⟨Tryz.f118.name, by decide, Tryz.func118.trans (congrArg some (by kernel_rfl))⟩
 t4 := Tryz.underlying4
 a4 := Tryz.isAgg4
 z4 := Tryz.sizeOf4
 v4 := Tryz.zeroValue4
 t22 := Tryz.underlying25
 a22 := Tryz.isAgg25
 z22 := Tryz.sizeOf25
 v22 := Tryz.zeroValue25 }
theorem cloneT_any (b off n c : Nat) (news : List Value) (w : World) (hl : news.length = n * 2) (hn : n ≤ 1000000) (hc : ∀ j u, news[j]? = some u → w.cell? ⟨b, off + j, none⟩ = some u) (h1 : ∀ u ∈ news, u.oneCell' = true) :
  Calls Tryz.prog 118 #[.slice (some ⟨b, off, none⟩) n c] w fun e w' => ∃ v', e = .returned v' ∧ w'.ownsRow w.heap.size 27 2 v' n news ∧ v' ≠ .slice none 0 0 ∧ Below w.heap.size w w' := by
 obtain ⟨i0, hi, hz0, hz1, hz2⟩ := info_parts Tryz.infoTerm
 exact AnyE.slices_Clone cl_lays i0 _ 2 40 hi hz0 hz1 hz2 rfl (by decide) Tryz.sizeOf27 b off n c news w hl (by unfold maxLen; omega) (by omega) hc h1
theorem RowT.put {w : World} {X : Nat → Prop} {y : Tm} {a : Option Addr} {c : Nat} (hy : Sl w X a y.args) : ∀ {l : List Tm} {xs : List Value} (k : Nat), RowT w X l xs → k < l.length → RowT w X (l.set k y) ((xs.set (k * 2) (.string y.name)).set (k * 2 + 1) (.slice a y.args.length c))
  | [], xs, k, h, hk => by simp at hk
  | t :: l, xs, 0, h, _ => by
    obtain ⟨a', c', r, rfl, h1, h2⟩ := h
    exact ⟨a, c, r, by simp, hy, h2⟩
  | t :: l, xs, k + 1, h, hk => by
    obtain ⟨a', c', r, rfl, h1, h2⟩ := h
    refine ⟨a', c', (r.set (k * 2) (.string y.name)).set (k * 2 + 1) (.slice a y.args.length c), ?_, h1, RowT.put hy k h2 (by simpa using hk)⟩
    have e : (k + 1) * 2 = k * 2 + 1 + 1 := by omega
    rw [e]
    simp
theorem putL_set (f : Tm → Tm) : ∀ (l : List Tm) (j k : Nat) (h : k < l.length), putL f ((j + k : Nat) : Int) j l = l.set k (f l[k])
  | [], j, k, h => by simp at h
  | a :: r, j, 0, h => by
    simp only [Nat.add_zero, putL, if_true, List.set_cons_zero, List.getElem_cons_zero]
    have : ∀ (r : List Tm) (m : Nat), j < m → putL f (j : Int) m r = r := fun r => by
      induction r with
      | nil => intro m _; rfl
      | cons b r ih => intro m hm; rw [putL, if_neg (by omega), ih (m + 1) (by omega)]
    rw [this r (j + 1) (by omega)]
  | a :: r, j, k + 1, h => by
    rw [putL, if_neg (by omega)]
    have := putL_set f r (j + 1) k (by simpa using h)
    rw [show j + (k + 1) = j + 1 + k by omega, this]
    simp
theorem owns_mono {w : World} {N M e z n : Nat} {v : Value} {xs : List Value} (h : w.ownsRow N e z v n xs) (hM : M ≤ N) : w.ownsRow M e z v n xs :=
  ⟨h.1, h.2.imp id fun ⟨g, cap, cur, h1, h2, h3⟩ => ⟨g, cap, cur, h1, Nat.le_trans hM h2, h3⟩⟩
theorem ownsRow_put2 {w : World} {N e z n G cap O i j : Nat} {u u' : Value} {xs : List Value} (h : w.ownsRow N e z (.slice (some ⟨G, 0, none⟩) n cap) n xs) (hO : O ≠ G) : ((w.setCell ⟨O, i, none⟩ u).setCell ⟨O, j, none⟩ u').ownsRow N e z (.slice (some ⟨G, 0, none⟩) n cap) n xs := by
  obtain ⟨hl, h1⟩ := h
  refine ⟨hl, ?_⟩
  rcases h1 with h1 | ⟨g, cap', cur, hv, hg, hh, hr⟩
  · exact Or.inl h1
  · refine Or.inr ⟨g, cap', cur, hv, hg, ?_, hr⟩
    have e : g = G := by simp at hv; exact hv.1.symm
    rw [Below.heap_setCell _ _ _ _ (by simp; omega), Below.heap_setCell _ _ _ _ (by simp; omega)]
    exact hh
def KpM (W : World) (N : Nat) (s : ByteArray) (n : Nat) (xs : List Value) (o7 : Value) (wc : World) : Prop :=
  ∃ G O cap : Nat, o7 = .pointer (some ⟨O, 0, none⟩) ∧ N ≤ G ∧ N ≤ O ∧ G ≠ O ∧ Blk wc O #[.string s, .slice (some ⟨G, 0, none⟩) n cap] 27 ∧ wc.ownsRow N 27 2 (.slice (some ⟨G, 0, none⟩) n cap) n xs ∧ Below N W wc
theorem kpM_last {W w1 : World} {N n G cap : Nat} {s : ByteArray} {xs : List Value} (hN : W.heap.size = N) (hown : w1.ownsRow N 27 2 (.slice (some ⟨G, 0, none⟩) n cap) n xs) (hb : Below N W w1) :
    KpM W N s n xs (.pointer (some ⟨w1.heap.size, 0, none⟩)) (w1.alloc (.cells #[.string s, .slice (some ⟨G, 0, none⟩) n cap] 27)) := by
  have hl := hown.lt G rfl
  have hs := hb.size
  exact ⟨G, w1.heap.size, cap, rfl, hl.1, by omega, by omega, Blk.new _ _ _, hown.alloc _, hb.alloc (by omega) _⟩
theorem kpM_first {W w1 : World} {N n G cap O : Nat} {s : ByteArray} {xs : List Value} (hO : N ≤ O) (hB : Blk w1 O #[.string ⟨#[]⟩, .slice none 0 0] 27) (hGO : O < G) (hown : w1.ownsRow N 27 2 (.slice (some ⟨G, 0, none⟩) n cap) n xs) (hb : Below N W w1) :
    KpM W N s n xs (.pointer (some ⟨O, 0, none⟩)) ((w1.setCell ⟨O, 0, none⟩ (.string s)).setCell ⟨O, 1, none⟩ (.slice (some ⟨G, 0, none⟩) n cap)) := by
  have hl := hown.lt G rfl
  refine ⟨G, O, cap, rfl, hl.1, hO, by omega, ?_, ownsRow_put2 hown (by omega), (hb.setCell (by simpa using hO) _).setCell (by simpa using hO) _⟩
  have := (hB.set 0 (.string s)).set 1 (.slice (some ⟨G, 0, none⟩) n cap)
  simpa using this
theorem kput_fin {w w5 : World} {X : Nat → Prop} {l : List Tm} {k G R M T n9 c9 : Nat} {xs : List Value} {cur : Array Value} {s9 : ByteArray} {a9 : Option Addr} {y : Tm} (hX : ∀ b, X b → b < w.heap.size) (hk : k < l.length) (hl : l.length ≤ 9223372036854775807) (hrt : RowT w X l xs) (hcx : cur.toList.take (l.length * 2) = xs) (hG : w.heap.size ≤ G) (hGM : G < M) (hR : w.heap.size ≤ R) (hRG : R ≠ G) (hRM : R < M) (GB : Blk w5 G cur T) (hb : Below w.heap.size w w5)
    (ht : TV w5 (fun b => (X b ∧ b < M) ∨ M ≤ b) (.agg #[.string s9, .slice a9 n9 c9]) y) : ∀ wF : World, (∀ b, b ≠ R → wF.heap[b]? = ((w5.setCell ⟨G, k * 2, none⟩ (.string s9)).setCell ⟨G, k * 2 + 1, none⟩ (.slice a9 n9 c9)).heap[b]?) → Sl wF (fun b => X b ∨ w.heap.size ≤ b) (some ⟨G, 0, none⟩) (l.set k y) := by
  intro wF hF
  obtain ⟨a', c', e, hs9⟩ := ht
  simp at e
  obtain ⟨rfl, rfl, rfl, rfl⟩ := e
  have keep : ∀ b, b ≠ G → b ≠ R → wF.heap[b]? = w5.heap[b]? := fun b h1 h2 => by
    rw [hF b h2, Below.heap_setCell _ _ _ _ (by simpa using h1), Below.heap_setCell _ _ _ _ (by simpa using h1)]
  have h1 : RowT wF (fun b => X b ∨ w.heap.size ≤ b) l xs := hrt.imp fun a kk hs => (hs.kept fun b hb2 => by
    have := hX b hb2
    rw [keep b (by omega) (by omega), hb.block b this]).mono fun b hb2 _ => Or.inl hb2
  have h2 : Sl wF (fun b => X b ∨ w.heap.size ≤ b) a9 y.args := (hs9.kept fun b hb2 => by
    rcases hb2 with hb2 | hb2
    · have := hX b hb2.1
      exact keep b (by omega) (by omega)
    · exact keep b (by omega) (by omega)).mono fun b hb2 _ => by
    rcases hb2 with hb2 | hb2
    · exact Or.inl hb2.1
    · exact Or.inr (by omega)
  have h3 := RowT.put (c := c9) h2 k h1 hk
  have hBF : Blk wF G ((cur.setIfInBounds (k * 2) (.string y.name)).setIfInBounds (k * 2 + 1) (.slice a9 y.args.length c9)) T := by
    have h4 := (GB.set (k * 2) (.string y.name)).set (k * 2 + 1) (.slice a9 y.args.length c9)
    unfold Blk at *
    rw [hF G (fun e => hRG e.symm)]
    exact h4
  refine ⟨by simpa using hl, Or.inr ⟨G, 0, rfl, lies_of_rowT G (Or.inr hG) _ _ 0 h3 (fun _ _ h => h) fun j u hj => ?_⟩⟩
  rw [Nat.zero_add]
  refine (hBF.cell j).trans ?_
  rw [← hcx, ← List.take_set, ← List.take_set, List.getElem?_take] at hj
  split at hj
  · rw [← Array.getElem?_toList]
    simpa using hj
  · cases hj
set_option maxHeartbeats 4000000 in
theorem kputY_any (x : Tm) (zs : List Int) : ∀ (t : Tm) (v p u : Value) (w : World) (X Y : Nat → Prop), TV w X v t → PV w Y p zs → TV w X u x → (atT t zs).isSome = true → sizeL [t] ≤ 1000000 →
    Calls Tryz.prog 90 #[v, p, u] w fun e w' => ∃ v', e = .returned v' ∧ TV w' (fun b => (X b ∧ b < w.heap.size) ∨ w.heap.size ≤ b) v' (putT x zs t) ∧ Below w.heap.size w w' := by
  induction zs with
  | nil =>
    intro t v p u w X Y hv hp hu hat hsm
    obtain ⟨a, c, rfl, hs⟩ := hv
    obtain ⟨ax, cx, rfl, hsx⟩ := hu
    obtain ⟨pa, pc, rfl, hzl, hz⟩ := hp
    have HU := hide hsx
    go_enter Tryz.func90, Tryz.ntmps90
    go_wp2_with fail
    refine bodyPost_ret (v := .agg #[.string x.name, .slice ax x.args.length cx]) (by simp [results, Tryz.results90, go_sem]) rfl ⟨_, rfl, ?_, ?_⟩
    · exact ⟨ax, cx, by simp [putT], (HU.out.mono (Y := fun b => (X b ∧ b < w.heap.size) ∨ w.heap.size ≤ b) fun b h1 h2 => Or.inl ⟨h1, h2⟩).later (below3 _ _ _)⟩
    · exact below3 _ _ _
  | cons z zs ih =>
    intro t v p u w X0 Y0 hv0 hp0 hu0 hat hsm
    have IH := hide ih
    clear ih
    obtain ⟨X, Y, hX, hYY, hXX, hv, hp, hu⟩ : ∃ X Y : Nat → Prop, (∀ b, X b → b < w.heap.size) ∧ (∀ b, Y b → b < w.heap.size) ∧ (∀ b, X b → X0 b) ∧ TV w X v t ∧ PV w Y p (z :: zs) ∧ TV w X u x := ⟨fun b => X0 b ∧ b < w.heap.size, fun b => Y0 b ∧ b < w.heap.size, fun _ h => h.2, fun _ h => h.2, fun _ h => h.1, hv0.mono fun b h1 h2 => ⟨h1, h2⟩, hp0.mono fun b h1 h2 => ⟨h1, h2⟩, hu0.mono fun b h1 h2 => ⟨h1, h2⟩⟩
    clear hv0 hp0 hu0
    obtain ⟨a, c, rfl, hs⟩ := hv
    obtain ⟨ax, cx, rfl, hsx⟩ := hu
    have HU := hide (show TV w X (.agg #[.string x.name, .slice ax x.args.length cx]) x from ⟨ax, cx, rfl, hsx⟩)
    clear hsx
    obtain ⟨pa, pc, rfl, hzl, hz⟩ := hp
    obtain ⟨b, o, rfl, hxb, hcell⟩ := hz.resolve_left (fun h => by cases h)
    have h0 := hcell 0 (by simp)
    simp only [Nat.add_zero, List.getElem_cons_zero] at h0
    have hzl' : zs.length + 1 ≤ 9223372036854775807 ∧ zs.length + 1 ≤ pc := by simpa using hzl
    obtain ⟨hzl1, hzl2⟩ := hzl'
    obtain ⟨s, l⟩ := t
    have hz1 : sizeL [(⟨s, l⟩ : Tm)] = 1 + sizeL l := by simp [sizeL]
    rw [hz1] at hsm
    clear hz1
    have hlen := sizeL_len l
    rw [atT] at hat
    split at hat
    case isFalse => cases hat
    case isTrue hzk =>
    obtain ⟨k, rfl⟩ : ∃ k : Nat, z = (k : Int) := ⟨z.toNat, by omega⟩
    have hk : k < l.length := by simpa using hzk.2
    have HAT : Hid ((atT l[k] zs).isSome = true) := hide (by simpa using hat)
    obtain ⟨sa, HSA, HT⟩ : ∃ sa : Option Addr, Hid ((if pc = 1 then some (⟨b, o, none⟩ : Addr) else some ⟨b, o + 1, none⟩) = sa) ∧ Hid (PV w Y (.slice sa zs.length (pc - 1)) zs) := by
      by_cases h1 : pc = 1
      · refine ⟨_, rfl, ?_⟩
        have : zs = [] := List.length_eq_zero_iff.1 (by omega)
        subst this
        exact ⟨_, _, rfl, by simp, Or.inl rfl⟩
      · refine ⟨_, rfl, ?_⟩
        rw [if_neg h1]
        exact PV.tail ⟨hzl1, hzl2⟩ hxb hcell
    simp only [List.length_cons] at *
    clear hcell hzl hz hat hzk
    go_enter Tryz.func90, Tryz.ntmps90
    go_upto_region 3 with fail
    have hB3 : Below w.heap.size w (((w.alloc (.cells #[.string s, .slice a l.length c] 27)).alloc (.cells #[.string x.name, .slice ax x.args.length cx] 27)).alloc (.cells #[.string ⟨#[]⟩, .slice none 0 0] 27)) := below3 _ _ _
    have hz3 : (((w.alloc (.cells #[.string s, .slice a l.length c] 27)).alloc (.cells #[.string x.name, .slice ax x.args.length cx] 27)).alloc (.cells #[.string ⟨#[]⟩, .slice none 0 0] 27)).heap.size = w.heap.size + 3 := by simp
    obtain ⟨ba, oa, rfl, hlies⟩ := hs.2.resolve_left (fun e => by rw [e] at hk; simp at hk)
    obtain ⟨xs, hrt, hxc⟩ := rowT_of_lies l ba oa hlies
    have HRT := hide hrt
    have hbal : ba < w.heap.size := hX _ (lies_get _ _ _ hlies 0 (by omega)).1
    have CL : Hid (∀ w', Below w.heap.size w w' → Calls Tryz.prog 118 #[.slice (some ⟨ba, oa, none⟩) l.length c] w' fun e w'' => ∃ G cap, e = .returned (.slice (some ⟨G, 0, none⟩) l.length cap) ∧ w''.ownsRow w'.heap.size 27 2 (.slice (some ⟨G, 0, none⟩) l.length cap) l.length xs ∧ Below w'.heap.size w' w'') := fun w' hb => by
      refine (cloneT_any ba oa l.length c xs w' hrt.len (by omega) (fun j u hj => (hb.cell (p := ⟨ba, oa + j, none⟩) hbal).trans (hxc j u hj)) hrt.one).mono ?_
      rintro e w'' ⟨v', rfl, ho, hne, hb2⟩
      rcases ho.2 with ⟨h1, _⟩ | ⟨g, cap, cur, hv, _⟩
      · exact absurd h1 hne
      · subst hv
        exact ⟨g, cap, rfl, ho, hb2⟩
    go_cut [7] (fun o7 wc => KpM (((w.alloc (.cells #[.string s, .slice (some ⟨ba, oa, none⟩) l.length c] 27)).alloc (.cells #[.string x.name, .slice ax x.args.length cx] 27)).alloc (.cells #[.string ⟨#[]⟩, .slice none 0 0] 27)) (w.heap.size + 3) s l.length xs o7 wc)
    case first =>
      have T3 : Blk (((w.alloc (.cells #[.string s, .slice (some ⟨ba, oa, none⟩) l.length c] 27)).alloc (.cells #[.string x.name, .slice ax x.args.length cx] 27)).alloc (.cells #[.string ⟨#[]⟩, .slice none 0 0] 27)) w.heap.size #[.string s, .slice (some ⟨ba, oa, none⟩) l.length c] 27 := ((Blk.new w _ _).alloc _).alloc _
      have HB3 := hide hB3
      generalize (((w.alloc (.cells #[.string s, .slice (some ⟨ba, oa, none⟩) l.length c] 27)).alloc (.cells #[.string x.name, .slice ax x.args.length cx] 27)).alloc (.cells #[.string ⟨#[]⟩, .slice none 0 0] 27)) = W at *
      have t0 := T3.c0
      have t1 := T3.c1
      have HS0 := hide (And.intro t0 t1)
      have KP : Hid (∀ w', Below (w.heap.size + 3) W w' → w'.cell? ⟨w.heap.size, 0, none⟩ = some (.string s) ∧ w'.cell? ⟨w.heap.size, 1, none⟩ = some (.slice (some ⟨ba, oa, none⟩) l.length c)) := fun w' hb => ⟨(hb.cell (p := ⟨w.heap.size, 0, none⟩) (by simp)).trans t0, (hb.cell (p := ⟨w.heap.size, 1, none⟩) (by simp)).trans t1⟩
      have HD : Hid (Below (w.heap.size + 3) W W.drew) := (Below.refl _ _).drew
      have HA : Hid (∀ o, Below (w.heap.size + 3) W (W.drew.alloc o)) := fun o => ((Below.refl _ _).drew).alloc (by simp; omega) o
      have CL2 : Hid (∀ w', Below (w.heap.size + 3) W w' → Calls Tryz.prog 118 #[.slice (some ⟨ba, oa, none⟩) l.length c] w' fun e w'' => ∃ G cap, e = .returned (.slice (some ⟨G, 0, none⟩) l.length cap) ∧ w''.ownsRow w'.heap.size 27 2 (.slice (some ⟨G, 0, none⟩) l.length cap) l.length xs ∧ Below w'.heap.size w' w'' ∧ Below (w.heap.size + 3) W w'') := fun w' hb => (CL.out w' (HB3.out.trans (hb.mono (by omega)))).mono fun e w'' ⟨G, cap, h1, h2, h3⟩ => ⟨G, cap, h1, h2, h3, hb.trans (h3.mono (by have := hb.size; omega))⟩
      have HZ3 := hide hz3
      have nW : w.heap.size ≠ W.heap.size := by omega
      clear hz3
      go_region_held3 (fun w' => w'.cell? ⟨w.heap.size, 0, none⟩ = some (.string s) ∧ w'.cell? ⟨w.heap.size, 1, none⟩ = some (.slice (some ⟨ba, oa, none⟩) l.length c)) (first | exact hS | exact HS0.out | exact KP.out _ (HA.out _) | exact ⟨set2_keep hS.1 nW, set2_keep hS.2 nW⟩ | go_keep)
        (first
          | (go_at_call 118;
              first
                | (refine (CL2.out _ (by first | exact Below.refl _ _ | exact HD.out)).mono ?_; rintro e w5 ⟨G, cap, rfl, ho5, hb5, hB5⟩; have hS := KP.out _ hB5)
                | (refine (CL2.out _ (by exact HA.out (.cells #[.string ⟨#[]⟩, .slice none 0 0] 27))).mono ?_; rintro e w5 ⟨G, cap, rfl, ho5, hb5, hB5⟩; have hS := KP.out _ hB5; have QB : Blk w5 W.heap.size #[.string ⟨#[]⟩, .slice none 0 0] 27 := (Blk.new W.drew _ _).below hb5 (by simp); have q0 : w5.cell? ⟨W.heap.size, 0, none⟩ = some (.string ⟨#[]⟩) := QB.cell 0; have q1 : w5.cell? ⟨W.heap.size, 1, none⟩ = some (.slice none 0 0) := QB.cell 1; have qf := QB.frozen)))
      all_goals have hGl := ho5.lt G rfl
      all_goals go_wp2_with fail
      all_goals go_meet
      all_goals first
        | exact kpM_last (by exact HZ3.out) (owns_mono ho5 (by have := HZ3.out; simp; omega)) hB5
        | (have hz3 := HZ3.out; have e : W.heap.size = w.heap.size + 3 := hz3; exact kpM_first (by omega) QB (by have := hGl.1; simp at this; omega) (owns_mono ho5 (by simp; omega)) hB5)
    case rest =>
      obtain ⟨G, O, cap, rfl, hG3, hO3, hGO, hBO, hown, hbw⟩ := hcut
      have T3 : Blk (((w.alloc (.cells #[.string s, .slice (some ⟨ba, oa, none⟩) l.length c] 27)).alloc (.cells #[.string x.name, .slice ax x.args.length cx] 27)).alloc (.cells #[.string ⟨#[]⟩, .slice none 0 0] 27)) w.heap.size #[.string s, .slice (some ⟨ba, oa, none⟩) l.length c] 27 := ((Blk.new w _ _).alloc _).alloc _
      have X3 : Blk (((w.alloc (.cells #[.string s, .slice (some ⟨ba, oa, none⟩) l.length c] 27)).alloc (.cells #[.string x.name, .slice ax x.args.length cx] 27)).alloc (.cells #[.string ⟨#[]⟩, .slice none 0 0] 27)) (w.heap.size + 1) #[.string x.name, .slice ax x.args.length cx] 27 := by
        have := (Blk.new (w.alloc (.cells #[.string s, .slice (some ⟨ba, oa, none⟩) l.length c] 27)) #[.string x.name, .slice ax x.args.length cx] 27).alloc (.cells #[.string ⟨#[]⟩, .slice none 0 0] 27)
        rw [World.size_alloc] at this
        exact this
      have hbW : Below w.heap.size w wc := hB3.trans (hbw.mono (by omega))
      have c01 : wc.cell? ⟨w.heap.size, 1, none⟩ = some (.slice (some ⟨ba, oa, none⟩) l.length c) := (hbw.cell (p := ⟨w.heap.size, 1, none⟩) (by simp)).trans (T3.cell 1)
      have cz : wc.cell? ⟨b, o, none⟩ = some (.int .i64 (k : Int)) := (hbW.cell (p := ⟨b, o, none⟩) (by simpa using hYY b hxb)).trans h0
      have hkl : (k : Int) < (l.length : Int) := by omega
      have x0 : wc.cell? ⟨w.heap.size + 1, 0, none⟩ = some (.string x.name) := (hbw.cell (p := ⟨w.heap.size + 1, 0, none⟩) (by simp)).trans (X3.cell 0)
      have x1 : wc.cell? ⟨w.heap.size + 1, 1, none⟩ = some (.slice ax x.args.length cx) := (hbw.cell (p := ⟨w.heap.size + 1, 1, none⟩) (by simp)).trans (X3.cell 1)
      obtain ⟨b1, o1, a', c', hae, d0, d1, hx⟩ := hs.get hbW (fun b hb _ => hX b hb) k hk
      have eba : b1 = ba ∧ o1 = oa := by simp at hae; exact ⟨hae.1.symm, hae.2.symm⟩
      obtain ⟨rfl, rfl⟩ := eba
      have o1' := hBO.c1
      have HX := hide hx
      have hszk : sizeL [l[k]] ≤ 1000000 := by
        have := sizeL_take l k hk; have := sizeL_take_le l (k + 1); omega
      have hslq : ∀ w' : World, Sem.run Tryz.prog (Instr.slice 22 (.slice (some ⟨b, o, none⟩) (zs.length + 1) pc) (some (.int .i64 1)) none none) w' = .ok (.slice sa zs.length (pc - 1)) w' := fun w' => by
        rw [slice_tail_run b o zs.length pc hzl2 w', HSA.out]
      have hnG : ∀ b, b < w.heap.size + 3 → b ≠ G := fun b hb => by omega
      have hlen9 := hs.1
      have hput : putT x ((k : Int) :: zs) ⟨s, l⟩ = ⟨s, l.set k (putT x zs l[k])⟩ := by
        have := putL_set (putT x zs) l 0 k hk
        rw [Nat.zero_add] at this
        rw [putT, this]
      have PU : Hid (∀ w', Below wc.heap.size wc w' → Calls Tryz.prog 90 #[.agg #[.string l[k].name, .slice a' l[k].args.length c'], .slice sa zs.length (pc - 1), .agg #[.string x.name, .slice ax x.args.length cx]] w' fun e w'' => ∃ s9 a9 n9 c9, e = .returned (.agg #[.string s9, .slice a9 n9 c9]) ∧ TV w'' (fun b => (X b ∧ b < w'.heap.size) ∨ w'.heap.size ≤ b) (.agg #[.string s9, .slice a9 n9 c9]) (putT x zs l[k]) ∧ Below wc.heap.size wc w'') := fun w' hb => by
        refine (IH.out l[k] _ _ _ w' X Y (HX.out.later hb) ((HT.out.later hbW).later hb) ((HU.out.later hbW).later hb) HAT.out hszk).mono ?_
        rintro e w'' ⟨v', rfl, ht, hb2⟩
        obtain ⟨a9, c9, rfl, hs9⟩ := ht
        exact ⟨_, a9, _, c9, rfl, ⟨a9, c9, rfl, hs9⟩, hb.trans (hb2.mono hb.size)⟩
      have hcs6 : wc.cell? ⟨O, 1, none⟩ = some (.slice (some ⟨G, 0, none⟩) l.length cap) ∧ wc.cell? ⟨w.heap.size, 1, none⟩ = some (.slice (some ⟨b1, o1, none⟩) l.length c) ∧ wc.cell? ⟨b1, o1 + k * 2, none⟩ = some (.string l[k].name) ∧ wc.cell? ⟨b1, o1 + k * 2 + 1, none⟩ = some (.slice a' l[k].args.length c') ∧ wc.cell? ⟨w.heap.size + 1, 0, none⟩ = some (.string x.name) ∧ wc.cell? ⟨w.heap.size + 1, 1, none⟩ = some (.slice ax x.args.length cx) := ⟨o1', c01, d0, d1, x0, x1⟩
      have HS0 := hide hcs6
      have hOl : O < wc.heap.size := hBO.lt
      have hszc : w.heap.size + 3 ≤ wc.heap.size := by have := hbw.size; omega
      have KP : Hid (∀ w', Below wc.heap.size wc w' → w'.cell? ⟨O, 1, none⟩ = some (.slice (some ⟨G, 0, none⟩) l.length cap) ∧ w'.cell? ⟨w.heap.size, 1, none⟩ = some (.slice (some ⟨b1, o1, none⟩) l.length c) ∧ w'.cell? ⟨b1, o1 + k * 2, none⟩ = some (.string l[k].name) ∧ w'.cell? ⟨b1, o1 + k * 2 + 1, none⟩ = some (.slice a' l[k].args.length c') ∧ w'.cell? ⟨w.heap.size + 1, 0, none⟩ = some (.string x.name) ∧ w'.cell? ⟨w.heap.size + 1, 1, none⟩ = some (.slice ax x.args.length cx)) := fun w' hb => ⟨(hb.cell (p := ⟨O, 1, none⟩) hOl).trans o1', (hb.cell (p := ⟨w.heap.size, 1, none⟩) (by simp; omega)).trans c01, (hb.cell (p := ⟨b1, o1 + k * 2, none⟩) (by simp; omega)).trans d0, (hb.cell (p := ⟨b1, o1 + k * 2 + 1, none⟩) (by simp; omega)).trans d1, (hb.cell (p := ⟨w.heap.size + 1, 0, none⟩) (by simp; omega)).trans x0, (hb.cell (p := ⟨w.heap.size + 1, 1, none⟩) (by simp; omega)).trans x1⟩
      obtain ⟨cur, hGb, hcur, hcx, hcap⟩ : ∃ cur : Array Value, Blk wc G cur 27 ∧ cur.size = cap * 2 ∧ cur.toList.take (l.length * 2) = xs ∧ l.length ≤ cap := by
        rcases hown.2 with ⟨h1, _⟩ | ⟨g, cap', cur, hv, _, hh, hnc, _, hz, ht⟩
        · cases h1
        · simp at hv
          obtain ⟨rfl, rfl⟩ := hv
          exact ⟨cur, hh, hz, ht, hnc⟩
      have HGB := hide hGb
      obtain ⟨y0, hy0⟩ : ∃ y, cur[k * 2]? = some y := ⟨_, Array.getElem?_eq_getElem (by omega)⟩
      obtain ⟨y1, hy1⟩ : ∃ y, cur[k * 2 + 1]? = some y := ⟨_, Array.getElem?_eq_getElem (by omega)⟩
      have nO : O ≠ G := fun e => hGO e.symm
      have n1 : w.heap.size ≠ G := by omega
      have n2 : b1 ≠ G := by omega
      have n3 : w.heap.size + 1 ≠ G := by omega
      have n4 : w.heap.size + 1 + 1 ≠ G := by omega
      have hRc : Blk wc (w.heap.size + 1 + 1) #[.string ⟨#[]⟩, .slice none 0 0] 27 := by
        have h1 := Blk.new ((w.alloc (.cells #[.string s, .slice (some ⟨b1, o1, none⟩) l.length c] 27)).alloc (.cells #[.string x.name, .slice ax x.args.length cx] 27)) #[.string ⟨#[]⟩, .slice none 0 0] 27
        rw [World.size_alloc, World.size_alloc] at h1
        unfold Blk at *
        rw [hbw.block _ (by omega)]
        exact h1
      have hGl : G < wc.heap.size := hGb.lt
      clear o1' c01 d0 d1 x0 x1 hcs6
      go_wp2_with fail
      go_region_held3 (fun w' => w'.cell? ⟨O, 1, none⟩ = some (.slice (some ⟨G, 0, none⟩) l.length cap) ∧ w'.cell? ⟨w.heap.size, 1, none⟩ = some (.slice (some ⟨b1, o1, none⟩) l.length c) ∧ w'.cell? ⟨b1, o1 + k * 2, none⟩ = some (.string l[k].name) ∧ w'.cell? ⟨b1, o1 + k * 2 + 1, none⟩ = some (.slice a' l[k].args.length c') ∧ w'.cell? ⟨w.heap.size + 1, 0, none⟩ = some (.string x.name) ∧ w'.cell? ⟨w.heap.size + 1, 1, none⟩ = some (.slice ax x.args.length cx)) (first | exact hS | exact HS0.out | exact ⟨set2_keep hS.1 nO, set2_keep hS.2.1 n1, set2_keep hS.2.2.1 n2, set2_keep hS.2.2.2.1 n2, set2_keep hS.2.2.2.2.1 n3, set2_keep hS.2.2.2.2.2 n3⟩ | go_keep)
        (first
          | (go_at_call 90; refine (PU.out _ (by first | exact Below.refl _ _ | exact (Below.refl _ _).drew)).mono ?_; rintro e w5 ⟨s9, a9, n9, c9, rfl, ht5, hb5⟩; have hS := KP.out _ hb5; have GB := HGB.out.below hb5 hGl; have gf := GB.frozen; have g0 : w5.cell? ⟨G, k * 2, none⟩ = some y0 := (GB.cell (k * 2)).trans hy0; have g1 : w5.cell? ⟨G, k * 2 + 1, none⟩ = some y1 := (GB.cell (k * 2 + 1)).trans hy1))
      all_goals
        have OB := (hBO.below hb5 hOl)
        have OB9 := (OB.setOther (k * 2) (.string s9) nO).setOther (k * 2 + 1) (.slice a9 n9 c9) nO
        have GB9 := (GB.set (k * 2) (.string s9)).set (k * 2 + 1) (.slice a9 n9 c9)
        have hR5 := ((hRc.below hb5 (by omega)).setOther (k * 2) (.string s9) n4).setOther (k * 2 + 1) (.slice a9 n9 c9) n4
        have hb9 : Below w.heap.size w ((w5.setCell ⟨G, k * 2, none⟩ (.string s9)).setCell ⟨G, k * 2 + 1, none⟩ (.slice a9 n9 c9)) := ((hbW.trans (hb5.mono (by omega))).setCell (p := ⟨G, k * 2, none⟩) (by simp; omega) _).setCell (p := ⟨G, k * 2 + 1, none⟩) (by simp; omega) _
        have HFIN := hide (kput_fin (R := w.heap.size + 1 + 1) hX hk hlen9 HRT.out hcx (by omega) (by exact hGl) (by omega) n4 (by have := hszc; simp; omega) GB (hbW.trans (hb5.mono (by omega))) ht5)
        have hGx9 := hb5.size
        generalize ((w5.setCell ⟨G, k * 2, none⟩ (.string s9)).setCell ⟨G, k * 2 + 1, none⟩ (.slice a9 n9 c9)) = w9 at *
        have u0 := OB9.c0
        have u1 := OB9.c1
        have r20 := hR5.c0
        have r21 := hR5.c1
        have rf := hR5.frozen
        go_wp2_with fail
        refine bodyPost_ret (v := .agg #[.string s, .slice (some ⟨G, 0, none⟩) l.length cap]) (by simp [results, Tryz.results90, go_sem, r20, r21, World.cell?_setCell_same, World.cell?_setCell_other]) rfl ⟨_, rfl, ?_, ?_⟩
        · refine ⟨some ⟨G, 0, none⟩, cap, ?_, ?_⟩
          · rw [hput]; simp
          · rw [hput]
            exact (HFIN.out _ (fun b hb => by rw [Below.heap_setCell _ _ _ _ (by simpa using hb), Below.heap_setCell _ _ _ _ (by simpa using hb)])).mono fun b hb _ => hb.imp (fun h => ⟨hXX b h, hX b h⟩) id
        · exact (hb9.setCell (by simp; omega) _).setCell (by simp; omega) _
set_option maxHeartbeats 1000000 in
theorem term2_ok (t : Tm) (v u : Value) (w : World) (X Y : Nat → Prop) (hv : TV w X v t) (hu : TV w Y u t) :
  Calls Tryz.prog 27 #[v, .int .i64 0, u, .int .i64 0] w fun e w' => e = .returned (.bool true) ∧ Below w.heap.size w w' := by
 obtain ⟨a, c, rfl, hs⟩ := hv
 obtain ⟨a2, c2, rfl, hs2⟩ := hu
 have HV := hide (show TV w X (.agg #[.string t.name, .slice a t.args.length c]) t from ⟨a, c, rfl, hs⟩)
 have HU := hide (show TV w Y (.agg #[.string t.name, .slice a2 t.args.length c2]) t from ⟨a2, c2, rfl, hs2⟩)
 clear hs hs2
 go_enter Tryz.func27, Tryz.ntmps27
 go_wp2_with fail
 refine (same_any t _ _ _ X Y (by exact HV.out.later (below2 _ _)) (by exact HU.out.later (below2 _ _))).mono ?_
 rintro e w1 ⟨rfl, hb1⟩
 go_wp2_with fail
 go_ret
 exact ⟨rfl, (below2 _ _).trans (hb1.mono (by simp; omega))⟩
theorem may_size {t : Tm} (h : mayE t = 0) : sizeL [t] ≤ 1000000 := by
 unfold mayE at h
 split at h
 ·omega
 ·omega
theorem may_le {t : Tm} (h : mayE t = 0) : sizeL [t] ≤ 400 := by
 unfold mayE at h
 split at h
 ·omega
 ·omega
theorem size_set : ∀ (l : List Tm) (k : Nat) (h : k < l.length) (y : Tm), sizeL (l.set k y) + sizeL [l[k]] = sizeL l + sizeL [y]
 | [], k, h, y => by simp at h
 | ⟨s, a⟩ :: l, 0, h, ⟨s', a'⟩ => by simp [sizeL]; omega
 | ⟨s, a⟩ :: l, k + 1, h, y => by
  have := size_set l k (by simpa using h) y
  simp only [List.set_cons_succ, List.getElem_cons_succ]
  have e1 : sizeL (⟨s, a⟩ :: l.set k y) = 1 + sizeL a + sizeL (l.set k y) := by simp [sizeL]
  have e2 : sizeL (⟨s, a⟩ :: l) = 1 + sizeL a + sizeL l := by simp [sizeL]
  omega
theorem TV.bfr {w w' : World} {X : Nat → Prop} {v q q' : Value} {t : Tm} {b : Nat} (h : TV w X v t) (hf : BFr w w' b q q') (hX : ∀ x, X x → x ≠ b ∧ some x ≠ q.ownBlock) : TV w' X v t := by
 have h1 : TV w (fun x => X x ∧ x < w.heap.size) v t := h.mono fun b h1 h2 => ⟨h1, h2⟩
 have h2 : TV w' (fun x => X x ∧ x < w.heap.size) v t := h1.kept fun x hx => hf.2.2.2.2.1 x hx.2 (hX x hx.1).1 (hX x hx.1).2
 exact h2.mono fun b hx _ => hx.1
theorem Sl.bfr {w w' : World} {X : Nat → Prop} {a : Option Addr} {q q' : Value} {l : List Tm} {b : Nat} (h : Sl w X a l) (hf : BFr w w' b q q') (hX : ∀ x, X x → x ≠ b ∧ some x ≠ q.ownBlock) : Sl w' X a l := by
 have h1 : Sl w (fun x => X x ∧ x < w.heap.size) a l := h.mono fun b h1 h2 => ⟨h1, h2⟩
 have h2 : Sl w' (fun x => X x ∧ x < w.heap.size) a l := h1.kept fun x hx => hf.2.2.2.2.1 x hx.2 (hX x hx.1).1 (hX x hx.1).2
 exact h2.mono fun b hx _ => hx.1
theorem Bld.alloc {w : World} {B b : Nat} {bs : List Value} {v : Value} (h : Bld w B b bs v) (o : Obj) : Bld (w.alloc o) B b bs v := by
 obtain ⟨hB, ⟨p, hp, hb⟩, hown⟩ := h
 exact ⟨hB, ⟨p, hp, by rw [Below.heap_alloc _ _ _ (bd_lt hb)]; exact hb⟩, hown.alloc o⟩
theorem Bld.lt {w : World} {B b : Nat} {bs : List Value} {v : Value} (h : Bld w B b bs v) : b < w.heap.size := by
 obtain ⟨_, ⟨p, _, hb⟩, _⟩ := h
 exact bd_lt hb
theorem Bld.old {w : World} {B b : Nat} {bs : List Value} {v : Value} (h : Bld w B b bs v) {x : Nat} (hx : x < B) : x ≠ b ∧ some x ≠ v.ownBlock := by
 refine ⟨by have := h.1; omega, fun e => ?_⟩
 have := (h.2.2.lt x e.symm).1; omega
theorem Blk.bfr {w w' : World} {b k T : Nat} {q q' : Value} {cs : Array Value} (h : Blk w k cs T) (hf : BFr w w' b q q') (hk : k ≠ b) (hq : some k ≠ q.ownBlock) : Blk w' k cs T := by
 unfold Blk at *; rw [hf.2.2.2.2.1 k (Blk.lt h) hk hq]; exact h
def bytesV (l : List UInt8) : List Value := l.map fun b => Value.int .u8 b.toNat
theorem bytesV_len (l : List UInt8) : (bytesV l).length = l.length := by simp [bytesV]
theorem bytesV_str (pre : List UInt8) (s : ByteArray) : bytesV pre ++ Lib.strCells s = bytesV (pre ++ s.data.toList) := by simp [bytesV, Lib.strCells]
theorem bytesV_one (pre : List UInt8) (c : UInt8) : bytesV pre ++ [.int .u8 c.toNat] = bytesV (pre ++ [c]) := by simp [bytesV]
theorem Bld.box {w : World} {B b : Nat} {bs : List Value} {v : Value} (h : Bld w B b bs v) : w.heap.size ≠ b ∧ some w.heap.size ≠ v.ownBlock := by
 refine ⟨by have := h.lt; omega, fun e => ?_⟩
 have := (h.2.2.lt _ e.symm).2; omega
theorem own_box {w wr : World} {b : Nat} {q0 q : Value} {o : Obj} (h : some w.heap.size ≠ q0.ownBlock) (hf : BFr (w.alloc o) wr b q0 q) : some w.heap.size ≠ q.ownBlock := fun e => by
 rcases hf.2.2.2.2.2 _ e.symm with h1 | h1
 ·exact h h1.symm
 ·simp at h1; omega
def WrInv (w : World) (B b : Nat) (v0 : Value) (pre : List UInt8) (s : ByteArray) (l : List Tm) (i : Value) (wr : World) : Prop :=
 ∃ (k : Nat) (q : Value), k ≤ l.length ∧ i = .int .i64 k ∧ Bld wr B b (bytesV (pre ++ s.data.toList ++ 40 :: txtL (l.take k))) q ∧ BFr w wr b v0 q
theorem wr_take0 (pre : List UInt8) (s : ByteArray) (l : List Tm) : pre ++ s.data.toList ++ ([40] : List UInt8) = pre ++ s.data.toList ++ 40 :: txtL (l.take 0) := by simp [txtL]
theorem wr_take1 (pre : List UInt8) (s : ByteArray) (l : List Tm) (h : 0 < l.length) : pre ++ s.data.toList ++ 40 :: txtL (l.take 0) ++ txtL [l[0]'h] = pre ++ s.data.toList ++ 40 :: txtL (l.take (0 + 1)) := by
 rw [List.take_succ_eq_append_getElem h]; simp [txtL]
theorem wr_takeS (pre : List UInt8) (s : ByteArray) (l : List Tm) (k : Nat) (hk : 0 < k) (h : k < l.length) : pre ++ s.data.toList ++ 40 :: txtL (l.take k) ++ ([44] : List UInt8) ++ txtL [l[k]] = pre ++ s.data.toList ++ 40 :: txtL (l.take (k + 1)) := by
 have h1 : l.take k ≠ [] := by
  intro e
  have h3 := congrArg List.length e
  rw [List.length_take] at h3
  simp only [List.length_nil] at h3
  omega
 rw [List.take_succ_eq_append_getElem h, txtL_append _ _ h1 (by simp)]; simp
theorem wr_end (pre : List UInt8) (s : ByteArray) (l : List Tm) (h : l ≠ []) : pre ++ s.data.toList ++ 40 :: txtL l ++ ([41] : List UInt8) = pre ++ txtL [(⟨s, l⟩ : Tm)] := by
 rw [txtL_one, if_neg (by simpa using h)]; simp
theorem wr_len (pre : List UInt8) (s : ByteArray) (l : List Tm) (k : Nat) (h : l ≠ []) (hk : k ≤ l.length) : (pre ++ s.data.toList ++ 40 :: txtL (l.take k)).length ≤ pre.length + (txtL [(⟨s, l⟩ : Tm)]).length := by
 by_cases h0 : k = 0
 ·subst h0
  rw [txtL_one, if_neg (by simpa using h)]
  simp [txtL]
 ·have h1 := txtTo_len s l k hk
  unfold txtTo at h1
  rw [if_neg h0] at h1
  simp only [List.length_append] at *
  omega
set_option maxHeartbeats 2000000 in
theorem write_any (t : Tm) : ∀ (v q0 : Value) (pre : List UInt8) (B b : Nat) (w : World) (X : Nat → Prop), TV w X v t → (∀ x, X x → x < B) → Bld w B b (bytesV pre) q0 → B ≤ w.heap.size → pre.length + (txtL [t]).length ≤ 900000000 →
  Calls Tryz.prog 75 #[.pointer (some ⟨b, 0, none⟩), v] w fun e w' => e = .returned (.tuple #[]) ∧ ∃ q, Bld w' B b (bytesV (pre ++ txtL [t])) q ∧ BFr w w' b q0 q := by
 induction t using Tm.ind with
 | h s l ih =>
  intro v q0 pre B b w X hv hX hbd hB hsm
  have IH := hide ih
  clear ih
  obtain ⟨a, c, rfl, hs⟩ := hv
  have hl := hs.1
  have hsz : s.size ≤ (txtL [(⟨s, l⟩ : Tm)]).length := by
   rw [txtL_one]; have h2 : s.data.toList.length = s.size := by rw [Array.length_toList]; rfl
   simp only [List.length_append]; omega
  have HBD := hide hbd
  have hbox := hbd.box
  clear hbd
  go_enter Tryz.func75, Tryz.ntmps75
  go_wp2_with fail
  refine (writeString_any B b _ q0 s _ (by exact HBD.out.alloc _) (by rw [bytesV_len]; omega) (by simp; omega)).mono ?_
  rintro e w1 ⟨rfl, q1, hbd1, hfr1⟩
  rw [bytesV_str] at hbd1
  have K1 := hide ((Blk.new w #[.string s, .slice a l.length c] 27).bfr hfr1 hbox.1 hbox.2)
  have HFR1 := hide hfr1
  have HW0 := hide (BFr.of_below ((Below.refl w.heap.size w).alloc (Nat.le_refl _) (.cells #[.string s, .slice a l.length c] 27)) b q0)
  have c1 := K1.out.c1
  have HBD1 := hide hbd1
  clear hfr1 hbd1
  by_cases hn : l = []
  ·subst hn
   have HE := hide (txt_nil s)
   go_wp2_with fail
   refine bodyPost_ret (v := .tuple #[]) (by simp [results, Tryz.results75, go_sem]) rfl ?_
   exact ⟨rfl, q1, by rw [HE.out]; exact HBD1.out, HW0.out.trans HFR1.out⟩
  ·have hlp : 0 < l.length := List.length_pos_iff.2 hn
   have hlp' : (((l.length : Nat) : Int) == 0) = false := by simp; omega
   have HN := hide hn
   have hw0 := wr_len pre s l 0 hn (Nat.zero_le _)
   have hp1 : (bytesV (pre ++ s.data.toList)).length ≤ 900000000 := by rw [bytesV_len]; simp only [List.length_append, List.length_cons] at hw0 ⊢; omega
   clear hn hw0
   go_wp2_with fail
   refine (writeByte_any B b _ q1 40 _ (by exact HBD1.out) (by omega) (by have := HFR1.out.2.2.2.1; simp at this; omega)).mono ?_
   rintro e w2 ⟨rfl, q2, hbd2, hfr2⟩
   have hbd2' : Bld w2 B b (bytesV (pre ++ s.data.toList ++ 40 :: txtL (l.take 0))) q2 := by
    have h3 := bytesV_one (pre ++ s.data.toList) 40
    rw [← wr_take0, ← h3]; exact hbd2
   have HBD2 := hide hbd2'
   have HFR2 := hide (HFR1.out.trans hfr2)
   have K2 := hide (K1.out.bfr hfr2 hbox.1 (own_box hbox.2 HFR1.out))
   have c2 := K2.out.c1
   clear hbd2 hbd2' hfr2 c1
   go_wp2_with fail
   go_loopw [19] (fun i wr => WrInv (w.alloc (.cells #[.string s, .slice a l.length c] 27)) B b q0 pre s l i wr) (fun i wr => l.length - (intOf i).toNat)
   case atStart => exact ⟨0, q2, Nat.zero_le _, rfl, HBD2.out, HFR2.out⟩
   case round =>
    obtain ⟨k, q, hk, rfl, hbdk, hfrk⟩ := hrel
    have HBK := hide hbdk
    have HFK := hide hfrk
    have hwl := wr_len pre s l k HN.out hk
    have hBr : B ≤ wr.heap.size := by have := hfrk.2.2.2.1; simp at this; omega
    by_cases hlt : k < l.length
    ·have hsr := (hs.later ((Below.refl w.heap.size w).alloc (Nat.le_refl _) (.cells #[.string s, .slice a l.length c] 27))).bfr hfrk (fun x hx => HBD.out.old (hX x hx))
     obtain ⟨bx, o, a', c', rfl, d0, d1, hx⟩ := hsr.get (Below.refl wr.heap.size wr) (fun _ _ h => h) k hlt
     have HX := hide hx
     have hwl2 := wr_len pre s l (k + 1) HN.out (by omega)
     clear hbdk hfrk hsr hx
     by_cases hk0 : k = 0
     ·subst hk0
      simp only [Nat.zero_mul, Nat.add_zero] at d0 d1
      have HE := hide (wr_take1 pre s l hlt)
      have hln : (pre ++ s.data.toList ++ 40 :: txtL (l.take 0)).length + (txtL [l[0]]).length ≤ 900000000 := by
       rw [← HE.out] at hwl2; simp only [List.length_append] at hwl2 ⊢; omega
      clear hwl hwl2
      go_wp2_with fail
      refine (IH.out _ (List.getElem_mem hlt) _ q _ B b _ X (by exact HX.out.alloc _) hX (by exact HBK.out.alloc _) (by simp; omega) hln).mono ?_
      rintro e w5 ⟨rfl, q5, hbd5, hfr5⟩
      have HBD5 := hide hbd5
      have HFR5 := hide (HFK.out.trans ((BFr.of_below ((Below.refl wr.heap.size wr).alloc (Nat.le_refl _) _) b q).trans hfr5))
      clear hbd5 hfr5
      go_wp2_with fail
      go_roundw
      case rel => exact ⟨0 + 1, q5, by omega, by go_num, by rw [← HE.out]; exact HBD5.out, HFR5.out⟩
      case measure => simp [intOf]; omega
     ·have hkp : 0 < k := by omega
      have HE := hide (wr_takeS pre s l k hkp hlt)
      have hln : (pre ++ s.data.toList ++ 40 :: txtL (l.take k) ++ ([44] : List UInt8)).length + (txtL [l[k]]).length ≤ 900000000 := by
       rw [← HE.out] at hwl2; simp only [List.length_append] at hwl2 ⊢; omega
      have hbk : (bytesV (pre ++ s.data.toList ++ 40 :: txtL (l.take k))).length ≤ 1000000000 := by rw [bytesV_len]; omega
      clear hwl hwl2 hk0
      go_wp2_with fail
      refine (writeByte_any B b _ q 44 _ (by exact HBK.out.alloc _) hbk (by simp; omega)).mono ?_
      rintro e w4 ⟨rfl, q4, hbd4, hfr4⟩
      have hbd4' : Bld w4 B b (bytesV (pre ++ s.data.toList ++ 40 :: txtL (l.take k) ++ ([44] : List UInt8))) q4 := by
       have h3 := bytesV_one (pre ++ s.data.toList ++ 40 :: txtL (l.take k)) 44
       rw [← h3]; exact hbd4
      have HX4 := hide ((HX.out.alloc (.cells #[.string l[k].name, .slice a' l[k].args.length c'] 27)).bfr hfr4 (fun x hx => HBK.out.old (hX x hx)))
      have hb4 := HBK.out.box
      have K4 := hide ((Blk.new wr #[.string l[k].name, .slice a' l[k].args.length c'] 27).bfr hfr4 hb4.1 hb4.2)
      have e0 := K4.out.c0
      have e1 := K4.out.c1
      have hB4 : B ≤ w4.heap.size := by have := hfr4.2.2.2.1; simp at this; omega
      have HBD4 := hide hbd4'
      have HFR4 := hide (HFK.out.trans ((BFr.of_below ((Below.refl wr.heap.size wr).alloc (Nat.le_refl _) _) b q).trans hfr4))
      clear hbd4 hbd4' hfr4 hb4
      go_wp2_with fail
      refine (IH.out _ (List.getElem_mem hlt) _ q4 _ B b _ X (by exact HX4.out) hX (by exact HBD4.out) hB4 hln).mono ?_
      rintro e w5 ⟨rfl, q5, hbd5, hfr5⟩
      have HBD5 := hide hbd5
      have HFR5 := hide (HFR4.out.trans hfr5)
      clear hbd5 hfr5
      go_wp2_with fail
      go_roundw
      case rel => exact ⟨k + 1, q5, by omega, by go_num, by rw [← HE.out]; exact HBD5.out, HFR5.out⟩
      case measure => simp [intOf]; omega
    ·have htk : l.take k = l := List.take_of_length_le (by omega)
     have hbk : (bytesV (pre ++ s.data.toList ++ 40 :: txtL (l.take k))).length ≤ 1000000000 := by rw [bytesV_len]; omega
     rw [htk] at hbdk hbk
     have HBE := hide hbdk
     have HE := hide (wr_end pre s l HN.out)
     clear hbdk hfrk hwl htk
     go_wp2_with fail
     refine (writeByte_any B b _ q 41 _ (by exact HBE.out) hbk hBr).mono ?_
     rintro e w4 ⟨rfl, q4, hbd4, hfr4⟩
     have hbd4' : Bld w4 B b (bytesV (pre ++ txtL [(⟨s, l⟩ : Tm)])) q4 := by
      have h3 := bytesV_one (pre ++ s.data.toList ++ 40 :: txtL l) 41
      rw [← HE.out, ← h3]; exact hbd4
     have HBD4 := hide hbd4'
     have HFR4 := hide (HW0.out.trans (HFK.out.trans hfr4))
     clear hbd4 hbd4' hfr4
     go_wp2_with fail
     go_end0
     exact ⟨rfl, q4, HBD4.out, HFR4.out⟩
theorem Sl.grown {w w' : World} {X : Nat → Prop} {a : Option Addr} {l : List Tm} {r : Option Nat} (h : Sl w X a l) (hg : w.grownBy w' r) (hX : ∀ b, X b → some b ≠ r) : Sl w' X a l := by
 have h1 : Sl w (fun b => X b ∧ b < w.heap.size) a l := h.mono fun b h1 h2 => ⟨h1, h2⟩
 have h2 : Sl w' (fun b => X b ∧ b < w.heap.size) a l := h1.kept fun b hx => hg.block b hx.2 (hX b hx.1)
 exact h2.mono fun b hx _ => hx.1
theorem err_name {s : ByteArray} {l : List Tm} (h : errL [(⟨s, l⟩ : Tm)] = 0) : nameB s = true ∧ errL l = 0 := by
 simp only [errL] at h
 split at h
 ·refine ⟨by assumption, ?_⟩
  split at h
  ·exact absurd h (by decide)
  ·split at h
   ·assumption
   ·exact h
 ·exact absurd h (by decide)
theorem err_mem {l : List Tm} (h : errL l = 0) (k : Nat) (hk : k < l.length) : errL [l[k]] = 0 := by
 induction l generalizing k with
 | nil => simp at hk
 | cons t r ih =>
  rw [errL_cons] at h
  by_cases h0 : errL [t] = 0
  ·rw [if_pos h0] at h
   cases k with
   | zero => exact h0
   | succ k => exact ih h k (by simpa using hk)
  ·rw [if_neg h0] at h; exact absurd h h0
theorem NamesAt.lv {w0 w1 : World} {B : Nat} {q0 q1 : Value} {acc1 : List ByteArray} (h : NamesAt w0 B q0 acc1 q1 w1) : LV Value.string w1 (fun b => B ≤ b) q1 acc1 := LV.of_own h.1
theorem NamesAt.refl {w : World} {B : Nat} {q : Value} {acc : List ByteArray} (h : w.ownsRow B 9 1 q acc.length (acc.map Value.string)) : NamesAt w B q acc q w :=
 ⟨h, grown_of_below (Below.refl _ _) _, fun _ h => Or.inl h⟩
theorem names_append {w : World} {B : Nat} {q : Value} {acc : List ByteArray} (s : ByteArray) (h : w.ownsRow B 9 1 q acc.length (acc.map Value.string)) (hB : B ≤ w.heap.size) (hn : acc.length ≤ 3000000) (A : Nat) (hA : w.heap.size = A) :
  ∃ q2 w3, (Builtin.append_ #[34, 34] 34 #[q, .slice (some ⟨A, 0, none⟩) 1 1]).run Tryz.prog (w.alloc (.cells #[.string s] 9)) = .ok q2 w3 ∧ NamesAt w B q (acc ++ [s]) q2 w3 := by
 subst hA
 obtain ⟨i0, hi, hz0, hz1, hz2⟩ := info_parts Tryz.infoStr
 obtain ⟨g, cap, w3, hr, ho, hg, hat, hlt⟩ := run_append_lies (P := Tryz.prog) (w := w.alloc (.cells #[.string s] 9)) 34 34 B 9 i0 _ 1 16 Tryz.underlying34 hi hz0 hz1 hz2 rfl (by decide) q acc.length (acc.map Value.string) (h.alloc _)
  ⟨w.heap.size, 0, none⟩ 1 1 [.string s] rfl (cell_one_new _ _ _) (fun x hx => by simp at hx; subst hx; rfl) (by decide) (by unfold maxLen; omega) (by omega) (by simp; omega) _ rfl
 refine ⟨_, w3, hr, by simpa using ho, ?_, fun k hk => ?_⟩
 ·exact grown_trans (grown_of_below ((Below.refl _ _).alloc (Nat.le_refl _) _) q.ownBlock) hg (fun k hk => Or.inl hk)
 ·simp [Value.ownBlock] at hk
  subst hk
  rcases hat with e | e
  ·exact Or.inl e
  ·right; simp at e; omega
theorem names_start {w : World} {B : Nat} {q : Value} {acc : List ByteArray} (h : w.ownsRow B 9 1 q acc.length (acc.map Value.string)) (o : Obj) : NamesAt w B q acc q (w.alloc o) := (NamesAt.refl h).below ((Below.refl _ _).alloc (Nat.le_refl _) o)
theorem names_boxed {w w3 : World} {B : Nat} {q q2 : Value} {acc acc2 : List ByteArray} {o : Obj} (h : w.ownsRow B 9 1 q acc.length (acc.map Value.string)) (h2 : NamesAt (w.alloc o) B q acc2 q2 w3) : NamesAt w B q acc2 q2 w3 := (names_start h o).step h2
set_option maxHeartbeats 1000000 in
theorem addNames_any (t : Tm) : ∀ (q v : Value) (acc : List ByteArray) (w : World) (X : Nat → Prop) (B : Nat), TV w X v t → (∀ b, X b → b < B) → B ≤ w.heap.size → w.ownsRow B 9 1 q acc.length (acc.map Value.string) → errL [t] = 0 → acc.length + sizeL [t] ≤ 2000000 →
  Calls Tryz.prog 92 #[q, v] w fun e w' => ∃ q', e = .returned q' ∧ NamesAt w B q (varsP acc (preL [t])) q' w' := by
 induction t using Tm.ind with
 | h s l ih =>
  intro q v acc w X B hv hX hB hown herr hsm
  have IH := hide ih
  clear ih
  obtain ⟨a, c, rfl, hs⟩ := hv
  have hl := hs.1
  obtain ⟨hn, hel⟩ := err_name herr
  have hpos := name_pos hn
  have HEL := hide hel
  have hz : sizeL [(⟨s, l⟩ : Tm)] = 1 + sizeL l := by simp [sizeL]
  rw [hz] at hsm
  have HP : Hid (varsP acc (preL [(⟨s, l⟩ : Tm)]) = varsP (addV acc s) (preL l)) := by simp [Hid, preL, varsP]
  have HOWN := hide hown
  clear hz hn hel herr hown
  cases hvb : varB s with
  | false =>
   have HN := hide (addV_no (acc := acc) hvb)
   have HVB := hide hvb
   clear hvb
   go_enter Tryz.func92, Tryz.ntmps92
   go_wp2_with (go_at_call 65; refine (isVariable_any _ _ hpos).mono ?_; rintro e w' ⟨rfl, rfl⟩; rw [HVB.out])
   go_loopw [0, 25] (fun q' i wr => ∃ k : Nat, k ≤ l.length ∧ i = .int .i64 k ∧ NamesAt w B q (varsP (addV acc s) (preL (l.take k))) q' wr) (fun q' i wr => l.length - (intOf i).toNat)
   case atStart => exact ⟨0, Nat.zero_le _, rfl, by simp only [List.take_zero]; rw [HN.out]; simpa [preL, varsP] using names_start HOWN.out _⟩
   case round =>
    obtain ⟨k, hk, rfl, hna⟩ := hrel
    have HNA := hide hna
    have hlen := varsP_len (preL (l.take k)) (addV acc s)
    rw [preL_length] at hlen
    have hadd := addV_len acc s
    have hBr : B ≤ wr.heap.size := Nat.le_trans hB hna.2.1.size
    by_cases hlt : k < l.length
    ·have hst := sizeL_take l k hlt
     have hst2 := sizeL_take_le l (k + 1)
     have hsr := hs.grown hna.2.1 (fun b hb e => by have h1 := hX b hb; have h2 := (HOWN.out.lt b e.symm).1; omega)
     obtain ⟨b, o, a', c', rfl, d0, d1, hx⟩ := hsr.get (Below.refl wr.heap.size wr) (fun _ _ h => h) k hlt
     have HX := hide hx
     have HT : Hid (varsP (addV acc s) (preL (l.take (k + 1))) = varsP (varsP (addV acc s) (preL (l.take k))) (preL [l[k]])) := by unfold Hid; rw [preL_take l k hlt, varsP_append]
     have HSM : Hid ((varsP (addV acc s) (preL (l.take k))).length + sizeL [l[k]] ≤ 2000000) := by unfold Hid; omega
     clear hna hsr hx hlen hadd hst hst2
     go_wp2_with fail
     refine (IH.out _ (List.getElem_mem hlt) _ _ _ _ X B (by exact HX.out.alloc _) hX (by simp; omega) (by exact HNA.out.1.alloc _) (err_mem HEL.out k hlt) HSM.out).mono ?_
     rintro e w5 ⟨q5, rfl, hna5⟩
     have HFIN := hide ((HNA.out.below ((Below.refl _ _).alloc (Nat.le_refl _) _)).step hna5)
     clear hna5
     go_wp2_with fail
     go_roundw
     case rel => exact ⟨k + 1, by omega, by go_num, by rw [HT.out]; exact HFIN.out⟩
     case measure => simp [intOf]; omega
    ·have htk : l.take k = l := List.take_of_length_le (by omega)
     rw [htk] at hna
     have HNB := hide hna
     clear hna hlen hadd
     go_wp2_with fail
     go_ret
     exact ⟨_, rfl, by rw [HP.out]; exact HNB.out⟩
  | true =>
   have HVB := hide hvb
   cases hin : inB s acc with
   | true =>
    have HN := hide (addV_in hvb hin)
    have HIN := hide hin
    clear hvb hin
    go_enter Tryz.func92, Tryz.ntmps92
    go_wp2_with (first | (go_at_call 65; refine (isVariable_any _ _ hpos).mono ?_; rintro e w' ⟨rfl, rfl⟩; rw [HVB.out]) | (go_at_call 119; refine (contains_any _ _ _ _ _ (LV.of_own (HOWN.out.alloc _))).mono ?_; rintro e w' ⟨rfl, rfl⟩; rw [HIN.out]))
    go_loopw [0, 25] (fun q' i wr => ∃ k : Nat, k ≤ l.length ∧ i = .int .i64 k ∧ NamesAt w B q (varsP (addV acc s) (preL (l.take k))) q' wr) (fun q' i wr => l.length - (intOf i).toNat)
    case atStart => exact ⟨0, Nat.zero_le _, rfl, by simp only [List.take_zero]; rw [HN.out]; simpa [preL, varsP] using names_start HOWN.out _⟩
    case round =>
     obtain ⟨k, hk, rfl, hna⟩ := hrel
     have HNA := hide hna
     have hlen := varsP_len (preL (l.take k)) (addV acc s)
     rw [preL_length] at hlen
     have hadd := addV_len acc s
     have hBr : B ≤ wr.heap.size := Nat.le_trans hB hna.2.1.size
     by_cases hlt : k < l.length
     ·have hst := sizeL_take l k hlt
      have hst2 := sizeL_take_le l (k + 1)
      have hsr := hs.grown hna.2.1 (fun b hb e => by have h1 := hX b hb; have h2 := (HOWN.out.lt b e.symm).1; omega)
      obtain ⟨b, o, a', c', rfl, d0, d1, hx⟩ := hsr.get (Below.refl wr.heap.size wr) (fun _ _ h => h) k hlt
      have HX := hide hx
      have HT : Hid (varsP (addV acc s) (preL (l.take (k + 1))) = varsP (varsP (addV acc s) (preL (l.take k))) (preL [l[k]])) := by unfold Hid; rw [preL_take l k hlt, varsP_append]
      have HSM : Hid ((varsP (addV acc s) (preL (l.take k))).length + sizeL [l[k]] ≤ 2000000) := by unfold Hid; omega
      clear hna hsr hx hlen hadd hst hst2
      go_wp2_with fail
      refine (IH.out _ (List.getElem_mem hlt) _ _ _ _ X B (by exact HX.out.alloc _) hX (by simp; omega) (by exact HNA.out.1.alloc _) (err_mem HEL.out k hlt) HSM.out).mono ?_
      rintro e w5 ⟨q5, rfl, hna5⟩
      have HFIN := hide ((HNA.out.below ((Below.refl _ _).alloc (Nat.le_refl _) _)).step hna5)
      clear hna5
      go_wp2_with fail
      go_roundw
      case rel => exact ⟨k + 1, by omega, by go_num, by rw [HT.out]; exact HFIN.out⟩
      case measure => simp [intOf]; omega
     ·have htk : l.take k = l := List.take_of_length_le (by omega)
      rw [htk] at hna
      have HNB := hide hna
      clear hna hlen hadd
      go_wp2_with fail
      go_ret
      exact ⟨_, rfl, by rw [HP.out]; exact HNB.out⟩
   | false =>
    have HN := hide (addV_yes hvb hin)
    have HIN := hide hin
    clear hvb hin
    obtain ⟨q2, w3, hr2, hna2⟩ := names_append (w := w.alloc (.cells #[.string s, .slice a l.length c] 27)) (B := B) s (HOWN.out.alloc _) (by simp; omega) (by omega) (w.heap.size + 1) (by simp)
    have HR := hide hr2
    have hbox : Blk w3 w.heap.size #[.string s, .slice a l.length c] 27 := (Blk.new w _ _).grown hna2.2.1 (fun e => by have := (HOWN.out.lt _ e.symm).2; omega)
    have hbx1 := hbox.c1
    have HNA2 := hide (names_boxed HOWN.out hna2)
    clear hr2 hna2 hbox
    go_enter Tryz.func92, Tryz.ntmps92
    go_wp2_with (first | (go_at_call 65; refine (isVariable_any _ _ hpos).mono ?_; rintro e w' ⟨rfl, rfl⟩; rw [HVB.out]) | (go_at_call 119; refine (contains_any _ _ _ _ _ (LV.of_own (HOWN.out.alloc _))).mono ?_; rintro e w' ⟨rfl, rfl⟩; rw [HIN.out]) | (at_builtin; refine wpList_append_eq rfl _ _ _ _ rfl rfl rfl HR.out ?_))
    go_loopw [0, 25] (fun q' i wr => ∃ k : Nat, k ≤ l.length ∧ i = .int .i64 k ∧ NamesAt w B q (varsP (addV acc s) (preL (l.take k))) q' wr) (fun q' i wr => l.length - (intOf i).toNat)
    case atStart => exact ⟨0, Nat.zero_le _, rfl, by simp only [List.take_zero]; rw [HN.out]; simpa [preL, varsP] using HNA2.out⟩
    case round =>
     obtain ⟨k, hk, rfl, hna⟩ := hrel
     have HNA := hide hna
     have hlen := varsP_len (preL (l.take k)) (addV acc s)
     rw [preL_length] at hlen
     have hadd := addV_len acc s
     have hBr : B ≤ wr.heap.size := Nat.le_trans hB hna.2.1.size
     by_cases hlt : k < l.length
     ·have hst := sizeL_take l k hlt
      have hst2 := sizeL_take_le l (k + 1)
      have hsr := hs.grown hna.2.1 (fun b hb e => by have h1 := hX b hb; have h2 := (HOWN.out.lt b e.symm).1; omega)
      obtain ⟨b, o, a', c', rfl, d0, d1, hx⟩ := hsr.get (Below.refl wr.heap.size wr) (fun _ _ h => h) k hlt
      have HX := hide hx
      have HT : Hid (varsP (addV acc s) (preL (l.take (k + 1))) = varsP (varsP (addV acc s) (preL (l.take k))) (preL [l[k]])) := by unfold Hid; rw [preL_take l k hlt, varsP_append]
      have HSM : Hid ((varsP (addV acc s) (preL (l.take k))).length + sizeL [l[k]] ≤ 2000000) := by unfold Hid; omega
      clear hna hsr hx hlen hadd hst hst2
      go_wp2_with fail
      refine (IH.out _ (List.getElem_mem hlt) _ _ _ _ X B (by exact HX.out.alloc _) hX (by simp; omega) (by exact HNA.out.1.alloc _) (err_mem HEL.out k hlt) HSM.out).mono ?_
      rintro e w5 ⟨q5, rfl, hna5⟩
      have HFIN := hide ((HNA.out.below ((Below.refl _ _).alloc (Nat.le_refl _) _)).step hna5)
      clear hna5
      go_wp2_with fail
      go_roundw
      case rel => exact ⟨k + 1, by omega, by go_num, by rw [HT.out]; exact HFIN.out⟩
      case measure => simp [intOf]; omega
     ·have htk : l.take k = l := List.take_of_length_le (by omega)
      rw [htk] at hna
      have HNB := hide hna
      clear hna hlen hadd
      go_wp2_with fail
      go_ret
      exact ⟨_, rfl, by rw [HP.out]; exact HNB.out⟩
set_option maxHeartbeats 1000000 in
theorem namesOf_any (t : Tm) (v : Value) (w : World) (X : Nat → Prop) (hv : TV w X v t) :
  Calls Tryz.prog 66 #[v] w fun e w' => ∃ v', e = .returned (.tuple #[v', .int .i64 (mayE t)]) ∧ (mayE t = 0 → LV Value.string w' (fun b => w.heap.size ≤ b) v' (varsP [] (preL [t]))) ∧ (mayE t ≠ 0 → v' = .slice none 0 0) ∧ Below w.heap.size w w' := by
 obtain ⟨X', hX, hv'⟩ : ∃ X' : Nat → Prop, (∀ b, X' b → b < w.heap.size) ∧ TV w X' v t := ⟨fun b => X b ∧ b < w.heap.size, fun _ h => h.2, hv.mono fun b h1 h2 => ⟨h1, h2⟩⟩
 clear hv
 obtain ⟨a, c, rfl, hs⟩ := hv'
 have HV := hide (show TV w X' (.agg #[.string t.name, .slice a t.args.length c]) t from ⟨a, c, rfl, hs⟩)
 clear hs
 go_enter Tryz.func66, Tryz.ntmps66
 go_wp2_with fail
 refine (check_any t _ _ X' (by exact HV.out.alloc _)).mono ?_
 rintro e w1 ⟨rfl, hb1⟩
 have hbk := (Blk.new w #[.string t.name, .slice a t.args.length c] 27).below hb1 (by simp)
 have c0 := hbk.c0
 have c1 := hbk.c1
 have HB := hide (((Below.refl w.heap.size w).alloc (Nat.le_refl _) (.cells #[.string t.name, .slice a t.args.length c] 27)).trans (hb1.mono (by simp)))
 clear hb1 hbk
 by_cases h : mayE t = 0
 ·have HM := hide h
  have HE : Hid (errL [t] = 0 ∧ sizeL [t] ≤ 200) := by
   unfold mayE at h
   split at h
   ·exact absurd h (by decide)
   ·exact ⟨h, by omega⟩
  rw [h]
  clear h
  go_wp2_with fail
  refine (addNames_any t _ _ [] _ X' w1.heap.size (by exact HV.out.later HB.out) (fun b hb => by have := hX b hb; have := HB.out.size; omega) (Nat.le_refl _) (World.ownsRow_nil _ _ _ _) HE.out.1 (by have := HE.out.2; simp; omega)).mono ?_
  rintro e w2 ⟨q2, rfl, hna⟩
  have HNA := hide hna
  clear hna
  go_wp2_with fail
  go_ret2
  refine ⟨q2, by rw [HM.out]; rfl, fun _ => ?_, fun h => absurd HM.out h, ?_⟩
  ·exact HNA.out.lv.mono fun b hb _ => Nat.le_trans HB.out.size hb
  ·exact HB.out.trans ⟨HNA.out.2.1.os, HNA.out.2.1.tape, HNA.out.2.1.output, HNA.out.2.1.size, fun k hk => HNA.out.2.1.block k (Nat.lt_of_lt_of_le hk HB.out.size) (by simp [Value.ownBlock])⟩
 ·have h' : (mayE t == 0) = false := by simpa using h
  have HM := hide h
  clear h
  go_wp2_with fail
  go_ret2
  exact ⟨_, rfl, fun h => absurd h HM.out, fun _ => rfl, HB.out⟩
end Go.Proofs.YtmkendjmfdaedaaGreat
