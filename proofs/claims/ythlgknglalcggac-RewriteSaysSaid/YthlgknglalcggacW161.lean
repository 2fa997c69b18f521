/- Walks: what a rule puts in the place of a term, as the document says. -/
import Derived.Test.YthlgknglalcggacRw1
import Derived.Test.YthlgknglalcggacZBRewriteSaysOwn
import Derived.Test.YthlgknglalcggacW53
import Derived.Test.YthlgknglalcggacW160
namespace Go.Proofs.Ythlgknglalcggac
open Go.RowKit
set_option linter.unusedSimpArgs false
set_option linter.unusedVariables false
set_option maxRecDepth 8000

theorem onSomeR_any (ls : List Bd) (t : Tm) (u v : Value) (w : World) (X : Nat → Prop) (hu : BV w X u ls) (hv : TV w X v t) (hsm : sizeL [t] ≤ 1000000) :
    Calls Try.prog 19 #[u, v] w fun e w' => ∃ (x : Tm) (a6 : Option Addr) (c6 : Nat) (ok : Bool), e = .returned (.tuple #[.agg #[.string x.name, .slice a6 x.args.length c6], .bool ok]) ∧ (ok = true → x = onT ls t) ∧ (ok = true ↔ sizeL [onT ls t] ≤ 2000) ∧ Sl w' (fun b => (X b ∧ b < w.heap.size) ∨ w.heap.size ≤ b) a6 x.args ∧ Below w.heap.size w w' := by
  refine (onAll_any ls t u v w _ hu hv hsm).mono ?_
  rintro e w' ⟨hb, ⟨h1, rfl⟩ | ⟨h1, a6, c6, rfl, hs⟩⟩
  · exact ⟨⟨⟨#[]⟩, []⟩, none, 0, false, rfl, by simp, by simp; omega, ⟨by simp, Or.inl rfl⟩, hb⟩
  · exact ⟨onT ls t, a6, c6, true, rfl, fun _ => rfl, by simp; omega, hs, hb⟩
/-- What it says of a rule and a term. -/
def DFtPost (w : World) (X : Nat → Prop) (p : Pr) (x : Tm) (e : Ending) (w' : World) : Prop :=
  ∃ (y : Tm) (a : Option Addr) (c : Nat) (ok full : Bool), e = .returned (.tuple #[.agg #[.string y.name, .slice a y.args.length c], .bool ok, .bool full]) ∧ Sl w' (fun b => (X b ∧ b < w.heap.size) ∨ w.heap.size ≤ b) a y.args ∧ Below w.heap.size w w' ∧
    ((fitT p x = none ∧ ok = false) ∨ ∃ z, fitT p x = some z ∧ ok = true ∧ (full = true ↔ 2000 < sizeL [z]) ∧ (full = false → y = z))
set_option maxHeartbeats 4000000 in
theorem docFits_any (p : Pr) (x : Tm) (a1 a2 a3 : Option Addr) (c1 c2 c3 : Nat) (w : World) (X : Nat → Prop) (hs1 : Sl w X a1 p.l.args) (hs2 : Sl w X a2 p.r.args) (hs3 : Sl w X a3 x.args) (hz1 : sizeL [p.l] ≤ 1000000) (hz2 : sizeL [p.r] ≤ 1000000) :
    Calls Try.prog 55 #[.agg #[.string p.l.name, .slice a1 p.l.args.length c1, .string p.r.name, .slice a2 p.r.args.length c2], .agg #[.string x.name, .slice a3 x.args.length c3]] w fun e w' => DFtPost w X p x e w' := by
  have S1 := hide (hs1.mono (Y := fun b => X b ∧ b < w.heap.size) fun b h1 h2 => ⟨h1, h2⟩)
  have S2 := hide (hs2.mono (Y := fun b => X b ∧ b < w.heap.size) fun b h1 h2 => ⟨h1, h2⟩)
  have S3 := hide (hs3.mono (Y := fun b => X b ∧ b < w.heap.size) fun b h1 h2 => ⟨h1, h2⟩)
  clear hs1 hs2 hs3
  have K0 := Blk.new w #[.string p.l.name, .slice a1 p.l.args.length c1, .string p.r.name, .slice a2 p.r.args.length c2] 77
  have B0 := (Below.refl w.heap.size w).alloc (Nat.le_refl _) (.cells #[.string p.l.name, .slice a1 p.l.args.length c1, .string p.r.name, .slice a2 p.r.args.length c2] 77)
  have HW : Hid (∃ W, W = ((w.alloc (.cells #[.string p.l.name, .slice a1 p.l.args.length c1, .string p.r.name, .slice a2 p.r.args.length c2] 77)).alloc (.cells #[.string x.name, .slice a3 x.args.length c3] 25)).alloc (.cells #[.string ⟨#[]⟩, .slice none 0 0] 25) ∧ Blk W w.heap.size #[.string p.l.name, .slice a1 p.l.args.length c1, .string p.r.name, .slice a2 p.r.args.length c2] 77 ∧ Blk W (w.heap.size + 1) #[.string x.name, .slice a3 x.args.length c3] 25 ∧ Blk W (w.heap.size + 2) #[.string ⟨#[]⟩, .slice none 0 0] 25 ∧ Below w.heap.size w W) := by
    have K1 := Blk.new (w.alloc (.cells #[.string p.l.name, .slice a1 p.l.args.length c1, .string p.r.name, .slice a2 p.r.args.length c2] 77)) #[.string x.name, .slice a3 x.args.length c3] 25
    have K2 := Blk.new ((w.alloc (.cells #[.string p.l.name, .slice a1 p.l.args.length c1, .string p.r.name, .slice a2 p.r.args.length c2] 77)).alloc (.cells #[.string x.name, .slice a3 x.args.length c3] 25)) #[.string ⟨#[]⟩, .slice none 0 0] 25
    simp only [World.size_alloc] at K1 K2
    exact ⟨_, rfl, (K0.alloc _).alloc _, K1.alloc _, K2, (B0.alloc (by simp) _).alloc (by simp; omega) _⟩
  clear K0 B0
  go_enter Try.func55, Try.ntmps55
  go_wp2_with fail
  obtain ⟨W, hW, k0, k1, k2, bl⟩ := HW.out
  rw [← hW]
  clear hW HW
  have K0 := hide k0
  have K2 := hide k2
  have BW := hide bl
  clear k0 k1 k2 bl
  refine (matchOf_any p.l x _ _ W (fun b => X b ∧ b < w.heap.size) ⟨_, _, rfl, S1.out.later BW.out⟩ ⟨_, _, rfl, S3.out.later BW.out⟩ hz1).mono ?_
  rintro e w3 ⟨hb3, hc⟩
  have B3 := hide (BW.out.trans (hb3.mono BW.out.size))
  have K03 := hide (K0.out.below hb3 K0.out.lt)
  have K23 := hide (K2.out.below hb3 K2.out.lt)
  have HLT : Hid (w.heap.size + 2 < W.heap.size) := K2.out.lt
  clear hb3 K0 K2 BW
  have r0 : w3.cell? ⟨w.heap.size + 2, 0, none⟩ = some (.string ⟨#[]⟩) := K23.out.cell 0
  have r1 : w3.cell? ⟨w.heap.size + 2, 1, none⟩ = some (.slice none 0 0) := K23.out.cell 1
  have rf := K23.out.frozen
  rcases hc with ⟨h0, rfl⟩ | ⟨h', v, l', h0, rfl, hbv, hperm, hsort⟩
  · have HN : Hid (fitT p x = none) := by unfold Hid fitT; rw [h0]; rfl
    clear h0
    go_wp2_with fail
    refine bodyPost_ret (v := .tuple #[.agg #[.string ⟨#[]⟩, .slice none 0 0], .bool false, .bool false]) (by simp [results, Try.results55, go_sem, World.cell?_setCell_same, World.cell?_setCell_other, r0, r1]) rfl ?_
    exact ⟨⟨⟨#[]⟩, []⟩, none, 0, false, false, rfl, ⟨by simp, Or.inl rfl⟩, (B3.out.setCell (by simp; omega) _).setCell (by simp; omega) _, Or.inl ⟨HN.out, rfl⟩⟩
  · have HF : Hid (fitT p x = some (onT l' p.r)) := by
      have ha := (mtT_apart h0 List.Pairwise.nil).1
      unfold Hid fitT
      rw [h0]
      show some (onT h' p.r) = _
      rw [onT_congr (forT_permR hperm ha) p.r]
    have HV := hide hbv
    clear h0 hbv hperm hsort
    have p2 : w3.cell? ⟨w.heap.size, 2, none⟩ = some (.string p.r.name) := K03.out.cell 2
    have p3 : w3.cell? ⟨w.heap.size, 3, none⟩ = some (.slice a2 p.r.args.length c2) := K03.out.cell 3
    go_wp2_with fail
    refine (onSomeR_any l' p.r _ _ _ (fun b => (X b ∧ b < w.heap.size) ∨ W.heap.size ≤ b) (by exact HV.out.mono fun b h _ => h.imp (fun h => h.1) id) ⟨_, _, rfl, (S2.out.later B3.out).mono fun b h _ => Or.inl h⟩ hz2).mono ?_
    rintro e w4 ⟨y, a6, c6, ok, rfl, hy, hok, hs6, hb4⟩
    have hb5 : Below w4.heap.size w4 (w4.alloc (.cells #[.string y.name, .slice a6 y.args.length c6] 25)) := (Below.refl _ _).alloc (Nat.le_refl _) _
    have B4 := hide (B3.out.trans (hb4.mono B3.out.size))
    have K24 := hide (K23.out.below hb4 K23.out.lt)
    have S6 := hide (hs6.mono (Y := fun b => (X b ∧ b < w.heap.size) ∨ w.heap.size + 3 ≤ b) fun b h _ => by
      have h3 := HLT.out
      have h4 := B3.out.size
      have h5 := K23.out.lt
      rcases h with ⟨h | h, _⟩ | h
      · exact Or.inl h
      · exact Or.inr (by omega)
      · exact Or.inr (by omega))
    have HY := hide hy
    have HOK := hide hok
    have hl4 : w.heap.size + 2 < w4.heap.size := K24.out.lt
    clear hs6 hb4 hy hok p2 p3 r0 r1 rf hb5
    have r0 : w4.cell? ⟨w.heap.size + 2, 0, none⟩ = some (.string ⟨#[]⟩) := K24.out.cell 0
    have r1 : w4.cell? ⟨w.heap.size + 2, 1, none⟩ = some (.slice none 0 0) := K24.out.cell 1
    have rf := K24.out.frozen
    go_wp2_with fail
    have KF : Blk (((w4.setCell ⟨w.heap.size + 1 + 1, 0, none⟩ (.string y.name)).setCell ⟨w.heap.size + 1 + 1, 1, none⟩ (.slice a6 y.args.length c6)).alloc (.cells #[.string y.name, .slice a6 y.args.length c6] 25)) (w.heap.size + 1 + 1) #[.string y.name, .slice a6 y.args.length c6] 25 := ((K24.out.set 0 (.string y.name)).set 1 (.slice a6 y.args.length c6)).alloc _
    have BF : Hid (Below w.heap.size w (((w4.setCell ⟨w.heap.size + 1 + 1, 0, none⟩ (.string y.name)).setCell ⟨w.heap.size + 1 + 1, 1, none⟩ (.slice a6 y.args.length c6)).alloc (.cells #[.string y.name, .slice a6 y.args.length c6] 25))) := ((B4.out.setCell (by simp; omega) _).setCell (by simp; omega) _).alloc (by simp [World.setCell]; have := B4.out.size; omega) _
    have SF : Hid (Sl (((w4.setCell ⟨w.heap.size + 1 + 1, 0, none⟩ (.string y.name)).setCell ⟨w.heap.size + 1 + 1, 1, none⟩ (.slice a6 y.args.length c6)).alloc (.cells #[.string y.name, .slice a6 y.args.length c6] 25)) (fun b => (X b ∧ b < w.heap.size) ∨ w.heap.size ≤ b) a6 y.args) := by
      have h1 : Sl ((w4.setCell ⟨w.heap.size + 1 + 1, 0, none⟩ (.string y.name)).setCell ⟨w.heap.size + 1 + 1, 1, none⟩ (.slice a6 y.args.length c6)) (fun b => (X b ∧ b < w.heap.size) ∨ w.heap.size + 3 ≤ b) a6 y.args := S6.out.kept fun b hb => by
        have hne : b ≠ w.heap.size + 1 + 1 := by rcases hb with h | h <;> omega
        rw [Below.heap_setCell _ _ _ _ (by simpa using hne), Below.heap_setCell _ _ _ _ (by simpa using hne)]
      exact (h1.mono fun b hb _ => hb.imp id (fun h => by omega)).later ((Below.refl _ _).alloc (Nat.le_refl _) _)
    generalize (((w4.setCell ⟨w.heap.size + 1 + 1, 0, none⟩ (.string y.name)).setCell ⟨w.heap.size + 1 + 1, 1, none⟩ (.slice a6 y.args.length c6)).alloc (.cells #[.string y.name, .slice a6 y.args.length c6] 25)) = wf at *
    have f0 : wf.cell? ⟨w.heap.size + 1 + 1, 0, none⟩ = some (.string y.name) := KF.cell 0
    have f1 : wf.cell? ⟨w.heap.size + 1 + 1, 1, none⟩ = some (.slice a6 y.args.length c6) := KF.cell 1
    refine bodyPost_ret (v := .tuple #[.agg #[.string y.name, .slice a6 y.args.length c6], .bool true, .bool !ok]) (by simp [results, Try.results55, go_sem, f0, f1]) rfl ?_
    refine ⟨y, a6, c6, true, !ok, rfl, SF.out, BF.out, Or.inr ⟨_, HF.out, rfl, ?_, ?_⟩⟩
    · have h := HOK.out
      cases ok with
      | true => simp at h ⊢; omega
      | false => simp at h ⊢; omega
    · intro h
      exact HY.out (by cases ok with
        | true => rfl
        | false => cases h)
#print axioms docFits_any
end Go.Proofs.Ythlgknglalcggac
