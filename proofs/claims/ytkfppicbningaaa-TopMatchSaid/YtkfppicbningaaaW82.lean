/- Walks: bindings out of a map, in order. -/
import Derived.Test.YtkfppicbningaaaW80
import Derived.Test.YtkfppicbningaaaMapR
namespace Go.Proofs.Ytkfppicbningaaa
open Go.RowKit
set_option linter.unusedSimpArgs false
set_option linter.unusedVariables false
set_option maxRecDepth 8000

/-- What the library's sort does to a row of bindings. -/
def SortBinds : Prop := ∀ (cs : List Bc) (v : Value) (w : World) (N : Nat) (Y : Nat → Prop), BRow w N Y v cs → (∀ b, Y b → b < N) → cs.length < 4611686018427387904 →
  Calls Try.prog 53 #[v, .func (.func 54) #[] #[]] w fun e w' => e = .returned (.tuple #[]) ∧ ∃ cs' : List Bc, cs'.Perm cs ∧ (cs'.Pairwise fun x y => ltB y.1.nm x.1.nm = false) ∧ BRow w' N Y v cs' ∧ w.grownBy w' v.ownBlock

theorem Try.infoBind : (Try.prog.info? 50).map (fun i => (i.zero, i.size, i.bytes)) = some (some (.agg #[.string ByteArray.empty, .string ByteArray.empty, .slice none 0 0]), 3, 56) := by kernel_rfl

theorem cell_three_new (w : World) (c0 c1 c2 : Value) (T : Nat) : ∀ j u, [c0, c1, c2][j]? = some u → (w.alloc (.cells #[c0, c1, c2] T)).cell? ((⟨w.heap.size, 0, none⟩ : Addr).add j) = some u :=
  World.news_of_block (cs := #[c0, c1, c2]) (heap_alloc_new w _)

/-- A binding appended to a row of them. -/
theorem binds_append {w w1 : World} {N : Nat} {Y : Nat → Prop} {v : Value} {cs : List Bc} (h : BRow w N Y v cs) (hN : N ≤ w.heap.size) (hY : ∀ b, Y b → b < N) (hb : Below w.heap.size w w1) (x : Bc) (ht : Sl w1 (fun b => Y b ∨ w.heap.size ≤ b) x.2.1 x.1.t.args) (hn : cs.length ≤ 1000000) (A : Nat) (hA : w1.heap.size = A) :
    ∃ v2 w3, (Builtin.append_ #[24, 24] 24 #[v, .slice (some ⟨A, 0, none⟩) 1 1]).run Try.prog (w1.alloc (.cells #[.string x.1.nm, .string x.1.t.name, .slice x.2.1 x.1.t.args.length x.2.2] 50)) = .ok v2 w3 ∧ BRow w3 N Y v2 (cs ++ [x]) ∧
      (w1.alloc (.cells #[.string x.1.nm, .string x.1.t.name, .slice x.2.1 x.1.t.args.length x.2.2] 50)).grownBy w3 v.ownBlock := by
  subst hA
  obtain ⟨i0, hi, hz0, hz1, hz2⟩ := info_parts Try.infoBind
  have hs := hb.size
  obtain ⟨g, cap, w3, hr, ho, hg, hat, hlt⟩ := run_append_lies (P := Try.prog) (w := w1.alloc (.cells #[.string x.1.nm, .string x.1.t.name, .slice x.2.1 x.1.t.args.length x.2.2] 50)) 24 24 N 50 i0 _ 3 56 Try.underlying24 hi hz0 hz1 hz2 rfl (by decide) v cs.length (flat3 cs) ((h.below hb).own.alloc _)
    ⟨w1.heap.size, 0, none⟩ 1 1 (enc3 x) rfl (cell_three_new _ _ _ _ _) (fun y hy => by simp [enc3] at hy; rcases hy with rfl | rfl | rfl <;> rfl) (by decide) (by unfold maxLen; omega) (by omega) (by simp; omega) _ rfl
  exact ⟨_, w3, hr, h.push hN hY hb ht _ rfl ho hg hat, hg⟩

/-- What is known midway. -/
def IoInv (w : World) (Z : List Bc) (b : Nat) (u : Value) (wr : World) : Prop :=
  ∃ Zr cs : List Bc, RangeAt wr b w.heap.size (Z.map toP) (Zr.map toP) ∧ (cs.map (·.1) ++ Zr.map (·.1)).Perm (Z.map (·.1)) ∧ (∀ x ∈ Zr, x ∈ Z) ∧ BRow wr (w.heap.size + 1) (fun _ => False) u cs ∧ Below w.heap.size w wr ∧ w.heap.size + 1 ≤ wr.heap.size

set_option maxHeartbeats 1000000 in
theorem inOrder_of (HSORT : Hid SortBinds) (Z : List Bc) (b : Nat) (w : World) (X : Nat → Prop) (hM : MapAt w b (Z.map toP)) (hZ : ∀ x ∈ Z, Sl w X x.2.1 x.1.t.args) (hsz : ∀ x ∈ Z, sizeL [x.1.t] ≤ 1000000) (hlen : Z.length ≤ 1000000) (hap : ApartB (Z.map (·.1))) :
    Calls Try.prog 33 #[.map (some b)] w fun e w' => ∃ v ls', e = .returned v ∧ BV w' (fun b => w.heap.size ≤ b) v ls' ∧ ls'.Perm (Z.map (·.1)) ∧ SortedB ls' ∧ Below w.heap.size w w' := by
  have hbl := hM.lt
  obtain ⟨o, hrange, hR0⟩ := hM.range (P := Try.prog) Try.underlying63
  have HR0 := hide hR0
  have HZ := hide hZ
  have HSZ := hide hsz
  have HAP := hide hap
  clear hR0 hZ hsz hap hM
  go_enter Try.func33, Try.ntmps33
  go_wp2_with fail
  go_loopw [3] (fun u wr => IoInv w Z b u wr) (fun u wr => leftAt wr b w.heap.size)
  case atStart =>
    exact ⟨Z, [], HR0.out, by simp, fun _ h => h, BRow.start _ _ _, (Below.refl _ _).alloc (Nat.le_refl _) _, by simp⟩
  case round =>
    obtain ⟨Zr, cs, hR, hP, hsub, hB, hb, hz⟩ := hrel
    have HB := hide hb
    have HR := hide hR
    have HP := hide hP
    have HBR := hide hB
    clear hP hB
    rcases hR.next (P := Try.prog) 0 with ⟨he, hnx⟩ | ⟨p, rem', w1, hpm, hnx, hR1, hz1, ho1, ht1, hu1, hk1, hen⟩
    · have hZr : Zr = [] := by simpa using he
      subst hZr
      have HBV := hide (show cs.length < 4611686018427387904 by have := HP.out.length_eq; simp at this; omega)
      clear hR hb he
      go_wp2_with fail
      refine (HSORT.out cs u3 wr (w.heap.size + 1) (fun _ => False) HBR.out (fun _ h => h.elim) HBV.out).mono ?_
      rintro e w2 ⟨rfl, cs', hp2, hs2, hr2, hg2⟩
      have HR2 := hide hr2
      have HP2 : Hid ((cs'.map (·.1)).Perm (Z.map (·.1))) := (hp2.map _).trans (by simpa using HP.out)
      have HS2 : Hid (SortedB (cs'.map (·.1))) := sortedB_of (HAP.out.perm HP2.out) (List.pairwise_map.2 hs2)
      have HB2 : Hid (Below w.heap.size w w2) := HB.out.grown hg2 HB.out.size (fun j hj => by have := (HBR.out.own.lt j hj).1; omega)
      clear hr2 hp2 hs2 hg2
      go_wp2_with fail
      go_ret
      exact ⟨u3, _, rfl, HR2.out.bv.mono (fun b hb _ => by rcases hb with h | h; exact h.elim; omega), HP2.out, HS2.out, HB2.out⟩
    · obtain ⟨x, Z', hpx, rfl, rfl⟩ := next_lift hpm
      simp only [toP] at hnx hen
      have hxZ : x ∈ Z := hsub x (hpx.symm.subset (by simp))
      have HB1 : Hid (Below w.heap.size w w1) := ⟨ho1.trans hb.os, ht1.trans hb.tape, hu1.trans hb.output, by rw [hz1]; exact hb.size, fun j hj => (hk1 j (by omega)).trans (hb.block j hj)⟩
      have HBR1 := hide (HBR.out.kept (r := w.heap.size) (w' := w1) (by omega) (fun h => h) ho1 ht1 hu1 (by omega) (fun j hj _ => hk1 j hj))
      have HZ1 : Hid (w.heap.size + 1 ≤ w1.heap.size) := by unfold Hid; omega
      have HR1 := hide hR1
      have HX := hide (HZ.out x hxZ)
      have HXS := hide (HSZ.out x hxZ)
      have HP1 : Hid ((cs.map (·.1) ++ [x.1] ++ Z'.map (·.1)).Perm (Z.map (·.1))) := by
        have h1 : (Zr.map (·.1)).Perm (x.1 :: Z'.map (·.1)) := by simpa using hpx.map (·.1)
        have h2 := (h1.append_left (cs.map (·.1))).symm.trans HP.out
        unfold Hid
        simpa using h2
      have HSUB : Hid (∀ y ∈ Z', y ∈ Z) := fun y hy => hsub y (hpx.symm.subset (by simp [hy]))
      have HLEN : Hid (cs.length ≤ 1000000) := by have := HP.out.length_eq; simp at this; unfold Hid; omega
      have HMS : Hid (Z'.length < Zr.length) := by have := hpx.length_eq; simp at this; unfold Hid; omega
      clear hR hb hz1 ho1 ht1 hu1 hk1 hR1 hpm hpx hsub hxZ
      go_wp2_with fail
      have HB2 := hide (HB1.out.alloc HB1.out.size (.cells #[.string x.1.t.name, .slice x.2.1 x.1.t.args.length x.2.2] 28))
      have HBR2 := hide (HBR1.out.below ((Below.refl _ _).alloc (Nat.le_refl _) (.cells #[.string x.1.t.name, .slice x.2.1 x.1.t.args.length x.2.2] 28)))
      have HR2 := hide (HR1.out.below ((Below.refl _ _).alloc (Nat.le_refl _) (.cells #[.string x.1.t.name, .slice x.2.1 x.1.t.args.length x.2.2] 28)) (by have := HZ1.out; omega) HR1.out.lt)
      have HZ2 : Hid (w.heap.size + 1 ≤ (w1.alloc (.cells #[.string x.1.t.name, .slice x.2.1 x.1.t.args.length x.2.2] 28)).heap.size) := by have := HZ1.out; unfold Hid; simp; omega
      clear hnx hen
      generalize w1.alloc (.cells #[.string x.1.t.name, .slice x.2.1 x.1.t.args.length x.2.2] 28) = w2 at *
      refine (copyOf_any x.1.t _ w2 X ⟨_, _, rfl, HX.out.later HB2.out⟩ HXS.out).mono ?_
      rintro e w3 ⟨v3, rfl, ⟨a3, c3, rfl, hs3⟩, hb3⟩
      have hz3 := hb3.size
      obtain ⟨v4, w4, hrun, hB4, hg4⟩ := binds_append HBR2.out HZ2.out (fun _ h => h.elim) hb3 (x.1, a3, c3) (hs3.mono fun b h _ => Or.inr h) HLEN.out w3.heap.size rfl
      have HRUN := hide hrun
      have HB4 := hide hB4
      have hlt := HBR2.out.own.lt
      have HBB : Hid (Below w.heap.size w w4) := ((HB2.out.trans (hb3.mono HB2.out.size)).alloc (by have := HZ2.out; omega) _).grown hg4 (by have := HZ2.out; simp; omega) (fun j hj => by have := (hlt j hj).1; omega)
      have HR4 : Hid (RangeAt w4 b w.heap.size (Z.map toP) (Z'.map toP)) := by
        have hz2 := HZ2.out
        refine HR2.out.kept ?_ ?_
        · rw [hg4.block b (by simp; omega) (HBR2.out.ne (by omega)), Below.heap_alloc _ _ _ (by omega), hb3.block b (by omega)]
        · rw [hg4.block w.heap.size (by simp; omega) (HBR2.out.ne (by omega)), Below.heap_alloc _ _ _ (by omega), hb3.block w.heap.size (by omega)]
      have HZ4 : Hid (w.heap.size + 1 ≤ w4.heap.size) := by have := hg4.size; have := HZ2.out; simp at *; unfold Hid; omega
      clear hs3 hb3 hrun hB4 hg4 hlt hz3
      go_wp2_with (at_builtin; refine wpList_append_eq rfl _ _ _ _ rfl rfl rfl HRUN.out ?_)
      go_roundw
      case rel => exact ⟨Z', _, HR4.out, by simpa using HP1.out, HSUB.out, HB4.out, HBB.out, HZ4.out⟩
      case measure =>
        rw [HR4.out.left, HR.out.left]
        have := HMS.out
        simpa using this
#print axioms inOrder_of
end Go.Proofs.Ytkfppicbningaaa
