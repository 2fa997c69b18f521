/- Walks: brackets whole. Plain: names in brackets. -/
import Derived.Test.YtcdabjekppddjaaGreatDoorBk8
import Derived.Test.YtcdabjekppddjaaGreatDoorBk7
import Derived.Test.YtcdabjekppddjaaGreatDoorCb13
namespace Go.Proofs.YtcdabjekppddjaaGreatDoor
open Go.RowKit
set_option linter.unusedSimpArgs false
set_option linter.unusedVariables false
set_option maxRecDepth 8000

theorem alw_size {v : ByteArray} {t : Tm} (hc : isC t = true) : sizeL [alw (brR v (sizeL [t]) t)] ≤ 5 * sizeL [t] := by
  have h := br_size (v := v) _ t (Nat.le_refl _) hc
  have := size_posC t
  unfold alw
  split
  · omega
  · have e := size_ap ⟨kB, []⟩ (brR v (sizeL [t]) t).1
    have e2 : sizeL [(⟨kB, []⟩ : Tm)] = 1 := by simp [sizeL]
    omega
theorem alw_isC {v : ByteArray} (hv : v ≠ apB) {t : Tm} (hc : isC t = true) : isC (alw (brR v (sizeL [t]) t)) = true := by
  have h1 := (br_law hv (x := ⟨kB, []⟩) (isC_leaf _) _ t (Nat.le_refl _) hc).1
  unfold alw
  split
  · exact h1
  · rw [isC_ap, isC_leaf, h1]; rfl
set_option maxHeartbeats 2000000 in
theorem without_any (nm : ByteArray) (hv : nm ≠ apB) (t : Tm) (hC : isC t = true) (v : Value) (w : World) (X : Nat → Prop) (htv : TV w X v t) :
    Calls Tryz.prog 31 #[.string nm, v] w fun e w' => TPost w X (alw (brR nm (sizeL [t]) t)) e w' := by
  obtain ⟨a, c, rfl, hs⟩ := htv
  have HS : Hid (TV w (fun b => X b ∧ b < w.heap.size) (.agg #[.string t.name, .slice a t.args.length c]) t) := ⟨a, c, rfl, hs.mono fun b h1 h2 => ⟨h1, h2⟩⟩
  have HK : Hid (Blk ((w.alloc (.cells #[.string t.name, .slice a t.args.length c] 24)).alloc (.cells #[.string ⟨#[]⟩, .slice none 0 0] 24)) (w.heap.size + 1) #[.string ⟨#[]⟩, .slice none 0 0] 24) := by
    have h := Blk.new (w.alloc (.cells #[.string t.name, .slice a t.args.length c] 24)) #[.string ⟨#[]⟩, .slice none 0 0] 24
    unfold Hid
    simpa using h
  have HB0 : Hid (Below w.heap.size w ((w.alloc (.cells #[.string t.name, .slice a t.args.length c] 24)).alloc (.cells #[.string ⟨#[]⟩, .slice none 0 0] 24))) := below2 _ _
  have hz0 : ((w.alloc (.cells #[.string t.name, .slice a t.args.length c] 24)).alloc (.cells #[.string ⟨#[]⟩, .slice none 0 0] 24)).heap.size = w.heap.size + 2 := by simp
  have HBR := hide (bracket_any nm hv _ t _ _ _ (Nat.le_refl _) hC (HS.out.later HB0.out))
  obtain ⟨t1, q1, hbr⟩ : ∃ t1 q1, brR nm (sizeL [t]) t = (t1, q1) := ⟨_, _, rfl⟩
  rw [hbr] at HBR ⊢
  clear hs hbr
  go_enter Tryz.func31, Tryz.ntmps31
  go_wp2_with fail
  refine HBR.out.mono ?_
  rintro e w1 ⟨v1, rfl, ⟨a1, c1, rfl, hs1⟩, hb1⟩
  have B1 := hide (HB0.out.trans (hb1.mono (by omega)))
  have K1 := hide (HK.out.below hb1 HK.out.lt)
  have hsz1 := hb1.size
  have S1 : Hid (Sl w1 (fun b => (X b ∧ b < w.heap.size) ∨ w.heap.size + 2 ≤ b) a1 t1.args) := hs1.mono fun b h _ => h.imp id fun h => by omega
  have hw1 : w.heap.size + 2 ≤ w1.heap.size := by omega
  clear hs1 hb1 hsz1 HBR
  go_wp2_with fail
  refine (always_any t1 q1 _ _ _ ⟨_, _, rfl, S1.out⟩).mono ?_
  rintro e w2 ⟨v2, rfl, ⟨a2, c2, rfl, hs2⟩, hb2⟩
  have B2 := hide (B1.out.trans (hb2.mono B1.out.size))
  have K2 := hide (K1.out.below hb2 K1.out.lt)
  have S2 : Hid (Sl w2 (fun b => (X b ∧ b < w.heap.size) ∨ w.heap.size + 2 ≤ b) a2 (alw (t1, q1)).args) := hs2.mono fun b h _ => h.elim id fun h => Or.inr (by omega)
  have r0 : w2.cell? ⟨w.heap.size + 1, 0, none⟩ = some (.string ⟨#[]⟩) := K2.out.cell 0
  have r1 : w2.cell? ⟨w.heap.size + 1, 1, none⟩ = some (.slice none 0 0) := K2.out.cell 1
  have rf : ∀ i, w2.frozen? ⟨w.heap.size + 1, i, none⟩ = false := K2.out.frozen
  clear hs2 hb2
  obtain ⟨t2, ht2⟩ : ∃ t2, alw (t1, q1) = t2 := ⟨_, rfl⟩
  have HT2 := hide ht2
  rw [ht2] at S2 ⊢
  clear ht2
  go_wp2_with fail
  refine bodyPost_ret (v := .agg #[.string t2.name, .slice a2 t2.args.length c2]) (by simp [results, Tryz.results31, go_sem, World.cell?_setCell_same, World.cell?_setCell_other, r0, r1]) rfl ?_
  rw [HT2.out]
  exact cl_end3 S2.out B2.out _ _

theorem bk_end {w w1 : World} {X : Nat → Prop} {x : Tm} {a : Option Addr} {c : Nat} (hs : Sl w1 (fun b => (X b ∧ b < w.heap.size) ∨ w.heap.size + 2 ≤ b) a x.args) (h0 : Below w.heap.size w w1) (u u' : Value) :
    TPost w X x (.returned (.agg #[.string x.name, .slice a x.args.length c])) ((w1.setCell ⟨w.heap.size + 1, 0, none⟩ u).setCell ⟨w.heap.size + 1, 1, none⟩ u') := cl_end3 hs h0 u u'
def BkPost (w : World) (X : Nat → Prop) (t : Tm) (e : Ending) (w' : World) : Prop :=
  ∃ a c, e = .returned (.tuple #[.agg #[.string t.name, .slice a t.args.length c], .int .i64 0]) ∧ Sl w' (fun b => X b ∨ w.heap.size ≤ b) a t.args ∧ Below w.heap.size w w'
end Go.Proofs.YtcdabjekppddjaaGreatDoor
