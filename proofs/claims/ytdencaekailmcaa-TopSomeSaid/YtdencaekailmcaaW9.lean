/- Walks: a copy of a term. -/
import Derived.Test.YtdencaekailmcaaW8
import Derived.Test.YtdencaekailmcaaZTopSomeOwn
import Derived.Deep.RegionLaw
namespace Go.Proofs.Ytdencaekailmcaa
open Go.RowKit
set_option linter.unusedSimpArgs false
set_option linter.unusedVariables false

theorem below3 {w : World} (o1 o2 o3 : Obj) : Below w.heap.size w (((w.alloc o1).alloc o2).alloc o3) := (below2 o1 o2).alloc (by simp; omega) o3

theorem copy_step {w wr w1 w3 : World} {T k : Nat} {u : Value} {l : List Tm} {xs : List Value} {o1 o2 : Obj} {s s' : ByteArray} {a1 : Option Addr} {n1 c1 g cap : Nat} {c0 : Array Value} (hrow : Row wr (w.heap.size + 3) T (fun _ => False) u (l.take k) xs) (hb : Below w.heap.size w wr)
    (h1 : Blk wr (w.heap.size + 1) c0 T) (h2 : Blk wr (w.heap.size + 1 + 1) #[.string s, u] T) (hsz : w.heap.size + 3 ≤ wr.heap.size) (hlt : k < l.length)
    (hb1 : Below (wr.alloc o1).drew.heap.size (wr.alloc o1).drew w1) (ht : TV w1 (fun b => (wr.alloc o1).drew.heap.size ≤ b) (.agg #[.string s', .slice a1 n1 c1]) l[k])
    (hown : w3.ownsRow (w.heap.size + 3) T 2 (.slice (some ⟨g, 0, none⟩) ((l.take k).length + 1) cap) ((l.take k).length + 1) (xs ++ [.string s', .slice a1 n1 c1])) (hg : (w1.alloc o2).grownBy w3 u.ownBlock) (hat : u.ownBlock = some g ∨ g = (w1.alloc o2).heap.size) :
    let w4 := w3.setCell ⟨w.heap.size + 1 + 1, 1, none⟩ (.slice (some ⟨g, 0, none⟩) ((l.take k).length + 1) cap)
    Row w4 (w.heap.size + 3) T (fun _ => False) (.slice (some ⟨g, 0, none⟩) ((l.take k).length + 1) cap) (l.take (k + 1)) (xs ++ [.string s', .slice a1 n1 c1]) ∧ Below w.heap.size w w4 ∧ Blk w4 (w.heap.size + 1) c0 T ∧ Blk w4 (w.heap.size + 1 + 1) #[.string s, .slice (some ⟨g, 0, none⟩) ((l.take k).length + 1) cap] T ∧ w.heap.size + 3 ≤ w4.heap.size := by
  intro w4
  have hbb : Below wr.heap.size wr (wr.alloc o1).drew := ((Below.refl _ _).alloc (Nat.le_refl _) o1).drew
  have hr1 := hrow.below hbb
  have hlt' := hrow.own.lt
  have hs1 := hb1.size
  have hsg := hg.size
  simp at hs1 hsg
  have hp := hr1.push (w1 := w1) (w2 := w1.alloc o2) (w3 := w3) (by simp; omega) (fun _ h => h.elim) hb1 (ht.mono fun b h _ => Or.inr h) o2 rfl hown hg hat
  have hw3 : Below w.heap.size w w3 := (((hb.trans (hbb.mono (by omega))).trans (hb1.mono (by simp; omega))).alloc (by omega) o2).grown hg (by simp; omega) (fun j hj => by have := (hlt' j hj).1; omega)
  have hA : Below w.heap.size w w4 := hw3.setCell (p := ⟨w.heap.size + 1 + 1, 1, none⟩) (by simp; omega) _
  refine ⟨?_, hA, (copy_blk h1 hb1 hg (fun e => by have := (hlt' _ e.symm).1; omega)).setOther _ _ (by omega), ?_, by simp [w4, World.setCell]; omega⟩
  · rw [List.take_succ_eq_append_getElem hlt]
    exact hp.setCell (by omega) (fun h => h) _
  · exact (copy_blk h2 hb1 hg (fun e => by have := (hlt' _ e.symm).1; omega)).set 1 _

set_option maxHeartbeats 1000000 in
theorem copyOf_any (t : Tm) : ∀ (v : Value) (w : World) (X : Nat → Prop), TV w X v t → sizeL [t] ≤ 1000000 →
    Calls Try.prog 36 #[v] w fun e w' => ∃ v', e = .returned v' ∧ TV w' (fun b => w.heap.size ≤ b) v' t ∧ Below w.heap.size w w' := by
  induction t using Tm.ind with
  | h s l ih =>
    intro v w X hv hsm
    have IH := hide ih
    clear ih
    obtain ⟨a, c, rfl, hs⟩ := hv
    have hl := hs.1
    have hz : sizeL [(⟨s, l⟩ : Tm)] = 1 + sizeL l := by simp [sizeL]
    rw [hz] at hsm
    clear hz
    have hlen := sizeL_len l
    obtain ⟨i0, hi, hz0, hz1, hz2⟩ := info_parts Try.infoTerm
    go_enter Try.func36, Try.ntmps36
    go_wp2_with fail
    go_loopw [12] (fun i wr => ∃ (k : Nat) (u : Value) (xs : List Value), k ≤ l.length ∧ i = .int .i64 k ∧ Row wr (w.heap.size + 3) 28 (fun _ => False) u (l.take k) xs ∧ Below w.heap.size w wr ∧ Blk wr (w.heap.size + 1) #[.string ⟨#[]⟩, .slice none 0 0] 28 ∧ Blk wr (w.heap.size + 1 + 1) #[.string s, u] 28 ∧ w.heap.size + 3 ≤ wr.heap.size) (fun i wr => l.length - (intOf i).toNat)
    case atStart =>
      refine ⟨0, .slice none 0 0, [], Nat.zero_le _, rfl, Row.start _ _ _ _, below3 _ _ _, ?_, ?_, by simp⟩
      · have := ((Blk.new (w.alloc (.cells #[.string s, .slice a l.length c] 28)) #[.string ⟨#[]⟩, .slice none 0 0] 28)).alloc (.cells #[.string s, .slice none 0 0] 28)
        simpa using this
      · have := Blk.new ((w.alloc (.cells #[.string s, .slice a l.length c] 28)).alloc (.cells #[.string ⟨#[]⟩, .slice none 0 0] 28)) #[.string s, .slice none 0 0] 28
        simpa using this
    case round =>
      obtain ⟨k, u, xs, hk, rfl, hrow, hb, hbl1, hbl2, hsz⟩ := hrel
      have HROW := hide hrow
      have HBL1 := hide hbl1
      have HBL2 := hide hbl2
      have HB := hide hb
      clear hrow hbl1
      by_cases hlt : k < l.length
      · obtain ⟨b, o, a', c', rfl, d0, d1, hx⟩ := hs.get hb (fun _ _ h => h) k hlt
        have hc2 : ∀ o, (wr.alloc o).cell? ⟨w.heap.size + 1 + 1, 1, none⟩ = some u := fun o => (hbl2.alloc o).cell 1
        have HX := hide hx
        have hszk : sizeL [l[k]] ≤ 1000000 := by
          have := sizeL_take l k hlt; have := sizeL_take_le l (k + 1); omega
        clear hbl2 hb hx
        go_wp2_with fail
        go_region_law (first
          | (go_simp; go_at_call 36; refine (IH.out _ (List.getElem_mem hlt) _ _ X (by exact (HX.out.alloc _).later (below_drewN (Below.refl _ _) 1)) hszk).mono ?_; rintro e w1 ⟨v1, rfl, ht1, hb1⟩; obtain ⟨a1, c1, rfl, hs1⟩ := ht1; have hc3 : ∀ o, (w1.alloc o).cell? ⟨w.heap.size + 1 + 1, 1, none⟩ = some u := fun o => ((((HBL2.out.alloc _).drewN 1).below hb1 (by simp; omega)).alloc o).cell 1; have hc4 : w1.cell? ⟨w.heap.size + 1 + 1, 1, none⟩ = some u := (((HBL2.out.alloc _).drewN 1).below hb1 (by simp; omega)).cell 1)
          | (refine step_append_lies _ rfl _ _ 26 rfl (w.heap.size + 3) 28 i0 _ 2 40 Try.underlying26 hi hz0 hz1 hz2 rfl (by decide) u (l.take k).length xs rfl (by exact (((HROW.out.below ((Below.refl _ _).alloc (Nat.le_refl _) _)).below (below_drewN (Below.refl _ _) 1)).below hb1).own.alloc _) ⟨w1.heap.size, 0, none⟩ 1 1 [.string l[k].name, .slice a1 l[k].args.length c1] rfl rfl (cell_two_new _ _ _ _) (fun x hx => by simp at hx; rcases hx with rfl | rfl <;> rfl) (by decide) (by unfold maxLen; simp; omega) (by simp; omega) (by have := hb1.size; simp at this ⊢; omega) _ rfl ?_; intro g cap w3 hown3 hgrow3 hat3 hlt3; have hB3 := hide (copy_blk HBL2.out hb1 hgrow3 (HROW.out.ne (Nat.lt_succ_self _))); have hc5 : w3.cell? ⟨w.heap.size + 1 + 1, 1, none⟩ = some u := hB3.out.cell 1; have hf5 := hB3.out.frozen 1))
        all_goals
          have HFIN := hide (copy_step HROW.out HB.out HBL1.out HBL2.out hsz hlt hb1 ⟨a1, c1, rfl, hs1⟩ hown3 hgrow3 hat3)
          clear hown3 hgrow3 hat3 hc2 hc3 hc4
          go_wp2_with fail
          go_roundw
          case rel =>
            have hkl : (l.take k).length = k := by simp; omega
            obtain ⟨r1, r2, r3, r4, r5⟩ := HFIN.out
            simp only [hkl] at r1 r2 r3 r4 r5
            exact ⟨k + 1, _, _, by omega, by go_num, r1, r2, r3, r4, r5⟩
          case measure => simp [intOf]; omega
      · have htk : l.take k = l := List.take_of_length_le (by omega)
        have hc0 := hbl2.cell 0
        have hc1 := hbl2.cell 1
        have hr0 := HBL1.out.cell 0
        have hr1 := HBL1.out.cell 1
        have hrf := HBL1.out.frozen
        obtain ⟨a9, c9, hu9, hsl9⟩ := HROW.out.sl
        rw [htk] at hu9 hsl9
        have HSL := hide hsl9
        subst hu9
        clear hsl9 htk hbl2
        go_wp2_with fail
        refine bodyPost_ret (v := .agg #[.string s, .slice a9 l.length c9]) (by simp [results, Try.results36, go_sem, hr0, hr1, World.cell?_setCell_same, World.cell?_setCell_other]) rfl ⟨_, rfl, ?_, ?_⟩
        · refine ⟨a9, c9, rfl, ?_⟩
          have hk9 : Sl wr (fun b => w.heap.size + 3 ≤ b) a9 l := HSL.out.mono fun b h _ => h.elim False.elim id
          exact ((hk9.kept fun b hb => by rw [Below.heap_setCell _ _ _ _ (by simp; omega), Below.heap_setCell _ _ _ _ (by simp; omega)]).mono fun b hb _ => by omega)
        · exact (HB.out.setCell (by simp) _).setCell (by simp) _
end Go.Proofs.Ytdencaekailmcaa
