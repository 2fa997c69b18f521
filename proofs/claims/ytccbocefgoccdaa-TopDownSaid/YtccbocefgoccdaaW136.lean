/- Walks: two terms get numbers; above by paths. -/
import Derived.Test.YtccbocefgoccdaaW135
import Derived.Test.YtccbocefgoccdaaW132
import Derived.Deep.RegionHeld
import Derived.Deep.RegionHeld3
namespace Go.Proofs.Ytccbocefgoccdaa
open Go.RowKit
open Go.WideMaps
set_option linter.unusedSimpArgs false
set_option linter.unusedVariables false
set_option maxRecDepth 8000

def NbS (a b : Tm) (aa : Option Addr) (ca : Nat) (ab : Option Addr) (cb : Nat) (w w' : World) : Prop :=
  Blk w' w.heap.size #[.string a.name, .slice aa a.args.length ca] 27 ∧ Blk w' (w.heap.size + 1) #[.string b.name, .slice ab b.args.length cb] 27 ∧ Ex (w.heap.size + 4) w w'
theorem NbS.step {a b : Tm} {aa ab : Option Addr} {ca cb : Nat} {w w1 w2 : World} (h : NbS a b aa ca ab cb w w1) (hE : Ex (w.heap.size + 4) w1 w2) : NbS a b aa ca ab cb w w2 := ⟨h.1.ex hE (by omega), h.2.1.ex hE (by omega), h.2.2.trans hE⟩
theorem NbS.set {a b : Tm} {aa ab : Option Addr} {ca cb : Nat} {w w1 : World} (h : NbS a b aa ca ab cb w w1) {k : Nat} (hk : w.heap.size + 2 ≤ k) (i : Nat) (v : Value) : NbS a b aa ca ab cb w (w1.setCell ⟨k, i, none⟩ v) := ⟨h.1.setOther i v (by omega), h.2.1.setOther i v (by omega), h.2.2.setNew (by omega) i v⟩
theorem nb_fin {S S0 : List Tm} {a b : Tm} {vx vy : Value} {e : Ending} {w w5 w' : World} (hB : Below w.heap.size w w5) (hq : ExQ (fun b => b = w.heap.size + 2 ∨ b = w.heap.size + 3) w5 w') (he : e = .returned (.tuple #[vx, vy])) (hS : S.length ≤ sizeL [a] + sizeL [b]) (hx : IV w5 (fun b => w.heap.size + 5 ≤ b) S vx a) (hy : IV w5 (fun b => w.heap.size + 5 ≤ b) S vy b) :
    ∃ S vx vy, e = .returned (.tuple #[vx, vy]) ∧ S.length ≤ sizeL [a] + sizeL [b] ∧ IV w' (fun b => w.heap.size ≤ b) S vx a ∧ IV w' (fun b => w.heap.size ≤ b) S vy b ∧ Below w.heap.size w w' := by
  have hz := hB.size
  have key : ∀ v x, IV w5 (fun b => w.heap.size + 5 ≤ b) S v x → IV w' (fun b => w.heap.size ≤ b) S v x := fun v x h =>
    ((h.mono (Y := fun b => w.heap.size + 5 ≤ b ∧ b < w5.heap.size) fun b h1 h2 => ⟨h1, h2⟩).kept fun b hb => hq.block b hb.2 (fun h => by have := hb.1; rcases h with h | h <;> omega)).mono fun b hb _ => by have := hb.1; omega
  exact ⟨S, vx, vy, he, hS, key _ _ hx, key _ _ hy, hB.trans (hq.below hB.size fun b hb => by rcases hb with h | h <;> omega)⟩

set_option maxHeartbeats 4000000 in
theorem numbered_any (a b : Tm) (va vb : Value) (w : World) (X : Nat → Prop) (ea : errL [a] = 0) (eb : errL [b] = 0) (za : sizeL [a] ≤ 20000) (zb : sizeL [b] ≤ 20000) (ha : TV w X va a) (hb : TV w X vb b) :
    Calls Try.prog 34 #[va, vb] w fun e w' => ∃ S vx vy, e = .returned (.tuple #[vx, vy]) ∧ S.length ≤ sizeL [a] + sizeL [b] ∧ IV w' (fun b => w.heap.size ≤ b) S vx a ∧ IV w' (fun b => w.heap.size ≤ b) S vy b ∧ Below w.heap.size w w' := by
  have HA := hide (ha.mono (Y := fun b => X b ∧ b < w.heap.size) fun b h1 h2 => ⟨h1, h2⟩)
  have HB := hide (hb.mono (Y := fun b => X b ∧ b < w.heap.size) fun b h1 h2 => ⟨h1, h2⟩)
  obtain ⟨aa, ca, rfl, hsa⟩ := ha
  obtain ⟨ab, cb, rfl, hsb⟩ := hb
  clear hsa hsb
  have HEA := hide ea
  have HEB := hide eb
  clear ea eb
  have hmm := @run_makeMap Try.prog
  have N0 : Hid (NbS a b aa ca ab cb w (((((w.alloc (.cells #[.string a.name, .slice aa a.args.length ca] 27)).alloc (.cells #[.string b.name, .slice ab b.args.length cb] 27)).alloc (.cells #[.string ⟨#[]⟩, .slice none 0 0, .int .i64 0, .int .i64 0] 83)).alloc (.cells #[.string ⟨#[]⟩, .slice none 0 0, .int .i64 0, .int .i64 0] 83)).alloc (.map #[] 0)).drew ∧ Blk (((((w.alloc (.cells #[.string a.name, .slice aa a.args.length ca] 27)).alloc (.cells #[.string b.name, .slice ab b.args.length cb] 27)).alloc (.cells #[.string ⟨#[]⟩, .slice none 0 0, .int .i64 0, .int .i64 0] 83)).alloc (.cells #[.string ⟨#[]⟩, .slice none 0 0, .int .i64 0, .int .i64 0] 83)).alloc (.map #[] 0)).drew (w.heap.size + 2) #[.string ⟨#[]⟩, .slice none 0 0, .int .i64 0, .int .i64 0] 83 ∧ Blk (((((w.alloc (.cells #[.string a.name, .slice aa a.args.length ca] 27)).alloc (.cells #[.string b.name, .slice ab b.args.length cb] 27)).alloc (.cells #[.string ⟨#[]⟩, .slice none 0 0, .int .i64 0, .int .i64 0] 83)).alloc (.cells #[.string ⟨#[]⟩, .slice none 0 0, .int .i64 0, .int .i64 0] 83)).alloc (.map #[] 0)).drew (w.heap.size + 3) #[.string ⟨#[]⟩, .slice none 0 0, .int .i64 0, .int .i64 0] 83 ∧ MapAt (((((w.alloc (.cells #[.string a.name, .slice aa a.args.length ca] 27)).alloc (.cells #[.string b.name, .slice ab b.args.length cb] 27)).alloc (.cells #[.string ⟨#[]⟩, .slice none 0 0, .int .i64 0, .int .i64 0] 83)).alloc (.cells #[.string ⟨#[]⟩, .slice none 0 0, .int .i64 0, .int .i64 0] 83)).alloc (.map #[] 0)).drew (w.heap.size + 4) (numL 0 []) ∧ Below w.heap.size w (((((w.alloc (.cells #[.string a.name, .slice aa a.args.length ca] 27)).alloc (.cells #[.string b.name, .slice ab b.args.length cb] 27)).alloc (.cells #[.string ⟨#[]⟩, .slice none 0 0, .int .i64 0, .int .i64 0] 83)).alloc (.cells #[.string ⟨#[]⟩, .slice none 0 0, .int .i64 0, .int .i64 0] 83)).alloc (.map #[] 0)).drew) := by
    have k1 := Blk.new w #[.string a.name, .slice aa a.args.length ca] 27
    have e1 : (w.alloc (.cells #[.string a.name, .slice aa a.args.length ca] 27)).heap.size = w.heap.size + 1 := by simp
    have b1 := (Below.refl w.heap.size w).alloc (Nat.le_refl _) (.cells #[.string a.name, .slice aa a.args.length ca] 27)
    generalize (w.alloc (.cells #[.string a.name, .slice aa a.args.length ca] 27)) = w1 at *
    have k2 := Blk.new w1 #[.string b.name, .slice ab b.args.length cb] 27
    have b2 := b1.alloc b1.size (.cells #[.string b.name, .slice ab b.args.length cb] 27)
    have k1' := k1.alloc (.cells #[.string b.name, .slice ab b.args.length cb] 27)
    have e2 : (w1.alloc (.cells #[.string b.name, .slice ab b.args.length cb] 27)).heap.size = w.heap.size + 2 := by simp [e1]
    generalize w1.alloc (.cells #[.string b.name, .slice ab b.args.length cb] 27) = w2 at *
    have k3 := Blk.new w2 #[.string ⟨#[]⟩, .slice none 0 0, .int .i64 0, .int .i64 0] 83
    have b3 := b2.alloc b2.size (.cells #[.string ⟨#[]⟩, .slice none 0 0, .int .i64 0, .int .i64 0] 83)
    have k2' := k2.alloc (.cells #[.string ⟨#[]⟩, .slice none 0 0, .int .i64 0, .int .i64 0] 83)
    have k1'' := k1'.alloc (.cells #[.string ⟨#[]⟩, .slice none 0 0, .int .i64 0, .int .i64 0] 83)
    have e3 : (w2.alloc (.cells #[.string ⟨#[]⟩, .slice none 0 0, .int .i64 0, .int .i64 0] 83)).heap.size = w.heap.size + 3 := by simp [e2]
    generalize w2.alloc (.cells #[.string ⟨#[]⟩, .slice none 0 0, .int .i64 0, .int .i64 0] 83) = w3 at *
    have k4 := Blk.new w3 #[.string ⟨#[]⟩, .slice none 0 0, .int .i64 0, .int .i64 0] 83
    have b4 := b3.alloc b3.size (.cells #[.string ⟨#[]⟩, .slice none 0 0, .int .i64 0, .int .i64 0] 83)
    have k3' := k3.alloc (.cells #[.string ⟨#[]⟩, .slice none 0 0, .int .i64 0, .int .i64 0] 83)
    have k2'' := k2'.alloc (.cells #[.string ⟨#[]⟩, .slice none 0 0, .int .i64 0, .int .i64 0] 83)
    have k1t := k1''.alloc (.cells #[.string ⟨#[]⟩, .slice none 0 0, .int .i64 0, .int .i64 0] 83)
    have e4 : (w3.alloc (.cells #[.string ⟨#[]⟩, .slice none 0 0, .int .i64 0, .int .i64 0] 83)).heap.size = w.heap.size + 4 := by simp [e3]
    generalize w3.alloc (.cells #[.string ⟨#[]⟩, .slice none 0 0, .int .i64 0, .int .i64 0] 83) = w4 at *
    have m5 := MapAt.new w4
    rw [e1] at k2''
    rw [e2] at k3'
    rw [e3] at k4
    rw [e4] at m5
    have b5 := b4.alloc b4.size (.map #[] 0)
    exact ⟨⟨k1t.alloc _, k2''.alloc _, ⟨b5.os, b5.tape, b5.output, b5.size, fun k hk _ => b5.block k hk⟩⟩, k3'.alloc _, k4.alloc _, m5, below_drewN b5 1⟩
  go_enter Try.func34, Try.ntmps34
  go_wp2_with fail
  refine wp_region_held_drew (S := NbS a b aa ca ab cb w) (by kernel_rfl) N0.out.1 (fun hHeld => ?_)
  refine wpAnyH_take (i := 0) (v := ?_) rfl (by kernel_rfl) (by kernel_rfl) (by kernel_rfl) (fun _ _ _ h => h) (Or.inl ⟨by rfl, ?_⟩) (by assumption) ?_
  rotate_left
  · intro w' hSw
    have t0 := hSw.1.cell 0
    have t1 := hSw.1.cell 1
    have u0 := hSw.2.1.cell 0
    have u1 := hSw.2.1.cell 1
    simp only [List.getElem?_toArray, List.getElem?_cons_zero, List.getElem?_cons_succ] at t0 t1 u0 u1
    go_simp <;> with_reducible rfl
  try simp only [Act.put, List.setIfInBounds_toArray, List.set_cons_zero, List.set_cons_succ, List.getElem_toArray, List.getElem_cons_succ, List.getElem_cons_zero]
  refine wpAnyH_take (i := 1) (v := ?_) rfl (by kernel_rfl) (by kernel_rfl) (by kernel_rfl) (fun _ _ _ h => h) (Or.inl ⟨by rfl, ?_⟩) (by assumption) ?_
  rotate_left
  · intro w' hSw
    have t0 := hSw.1.cell 0
    have t1 := hSw.1.cell 1
    have u0 := hSw.2.1.cell 0
    have u1 := hSw.2.1.cell 1
    simp only [List.getElem?_toArray, List.getElem?_cons_zero, List.getElem?_cons_succ] at t0 t1 u0 u1
    go_simp <;> with_reducible rfl
  try simp only [Act.put, List.setIfInBounds_toArray, List.set_cons_zero, List.set_cons_succ, List.getElem_toArray, List.getElem_cons_succ, List.getElem_cons_zero]
  refine wpAnyH_take (i := 3) (v := ?_) rfl (by kernel_rfl) (by kernel_rfl) (by kernel_rfl) (fun _ _ _ h => h) (Or.inl ⟨by rfl, ?_⟩) (by assumption) ?_
  rotate_left
  · intro w' hSw
    have t0 := hSw.1.cell 0
    have t1 := hSw.1.cell 1
    have u0 := hSw.2.1.cell 0
    have u1 := hSw.2.1.cell 1
    simp only [List.getElem?_toArray, List.getElem?_cons_zero, List.getElem?_cons_succ] at t0 t1 u0 u1
    go_simp <;> with_reducible rfl
  try simp only [Act.put, List.setIfInBounds_toArray, List.set_cons_zero, List.set_cons_succ, List.getElem_toArray, List.getElem_cons_succ, List.getElem_cons_zero]
  refine wpAnyH_take (i := 4) (v := ?_) rfl (by kernel_rfl) (by kernel_rfl) (by kernel_rfl) (fun _ _ _ h => h) (Or.inl ⟨by rfl, ?_⟩) (by assumption) ?_
  rotate_left
  · intro w' hSw
    have t0 := hSw.1.cell 0
    have t1 := hSw.1.cell 1
    have u0 := hSw.2.1.cell 0
    have u1 := hSw.2.1.cell 1
    simp only [List.getElem?_toArray, List.getElem?_cons_zero, List.getElem?_cons_succ] at t0 t1 u0 u1
    go_simp <;> with_reducible rfl
  try simp only [Act.put, List.setIfInBounds_toArray, List.set_cons_zero, List.set_cons_succ, List.getElem_toArray, List.getElem_cons_succ, List.getElem_cons_zero]

  have e5 : w.heap.size + 1 + 1 + 1 + 1 = w.heap.size + 4 := rfl
  rw [e5]
  clear e5 hmm
  generalize (((((w.alloc (.cells #[.string a.name, .slice aa a.args.length ca] 27)).alloc (.cells #[.string b.name, .slice ab b.args.length cb] 27)).alloc (.cells #[.string ⟨#[]⟩, .slice none 0 0, .int .i64 0, .int .i64 0] 83)).alloc (.cells #[.string ⟨#[]⟩, .slice none 0 0, .int .i64 0, .int .i64 0] 83)).alloc (.map #[] 0)).drew = w5 at *
  refine wpAnyH_ready (rs := [2]) (by kernel_rfl) (by simp) ?_
  refine AllReadyH.cons rfl (fun K hK => ?_) AllReadyH.nil
  go_simp
  go_at_call 53
  refine (number_any a [] (w.heap.size + 4) _ _ (fun b => X b ∧ b < w.heap.size) HEA.out za (by simp) N0.out.2.2.2.1 (by exact HA.out.later N0.out.2.2.2.2) (fun b hb => by have := hb.2; omega)).mono ?_
  rintro e w6 ⟨S1, v1, rfl, ⟨⟨R1, hR1⟩, hz1⟩, hes1, hm1, hiv1, hex1⟩
  have N1 := hide (N0.out.1.step hex1)
  have R2 := hide (N0.out.2.1.ex hex1 (by omega))
  have R3 := hide (N0.out.2.2.1.ex hex1 (by omega))
  have HB6 : Hid (Below w.heap.size w w6) := ⟨hex1.os.trans N0.out.2.2.2.2.os, hex1.tape.trans N0.out.2.2.2.2.tape, hex1.output.trans N0.out.2.2.2.2.output, Nat.le_trans N0.out.2.2.2.2.size hex1.size, fun k hk => (hex1.block k (by have := N0.out.2.2.2.2.size; omega) (by omega)).trans (N0.out.2.2.2.2.block k hk)⟩
  have hz5 : w.heap.size + 5 ≤ w5.heap.size := by have := N0.out.2.2.2.1.lt; omega
  have HI1 := hide (hiv1.mono (Y := fun b => w.heap.size + 5 ≤ b) fun b hb _ => by omega)
  have HM1 := hide hm1
  have HZ1 := hide hz1
  have HES1 := hide hes1
  have HEX1 := hide hex1
  obtain ⟨_, a1, c1, rfl, _⟩ := hiv1
  clear hm1 hex1 hes1 hR1 hz1
  go_simp
  refine hK.out _ _ (by exact N1.out) (fun hHeld => ?_)
  clear hK K
  try simp only [Act.put, List.setIfInBounds_toArray, List.set_cons_zero, List.set_cons_succ, List.getElem_toArray, List.getElem_cons_succ, List.getElem_cons_zero]
  refine wpAnyH_ready (rs := [5]) (by kernel_rfl) (by simp) ?_
  refine AllReadyH.cons rfl (fun K hK => ?_) AllReadyH.nil
  go_simp
  go_at_call 53
  refine (number_any b S1 (w.heap.size + 4) _ _ (fun b => X b ∧ b < w.heap.size) HEB.out zb HES1.out HM1.out (by exact HB.out.later HB6.out) (fun b hb => by have := hb.2; omega)).mono ?_
  rintro e w7 ⟨S2, v2, rfl, ⟨⟨R2', hR2⟩, hz2⟩, hes2, hm2, hiv2, hex2⟩
  have N2 := hide (N1.out.step hex2)
  have Q2 := hide (R2.out.ex hex2 (by omega))
  have Q3 := hide (R3.out.ex hex2 (by omega))
  have HB7 : Hid (Below w.heap.size w w7) := ⟨hex2.os.trans HB6.out.os, hex2.tape.trans HB6.out.tape, hex2.output.trans HB6.out.output, Nat.le_trans HB6.out.size hex2.size, fun k hk => (hex2.block k (by have := HB6.out.size; omega) (by omega)).trans (HB6.out.block k hk)⟩
  have HZ2 : Hid (S2.length ≤ sizeL [a] + sizeL [b]) := by have := HZ1.out; unfold Hid; simp at this; omega
  have HI2 := hide (hiv2.mono (Y := fun b => w.heap.size + 5 ≤ b) fun b hb _ => by have := HEX1.out.size; omega)
  have hmem1 := HI1.out.1
  have hnn : numT a S1 = numT a S2 := by rw [hR2, numT_more R2' hmem1]
  have HI1' : Hid (IV w7 (fun b => w.heap.size + 5 ≤ b) S2 (.agg #[.string a.name, .slice a1 a.args.length c1, .int .i64 (numT a S2), .int .i64 (sizeL [a])]) a) := by
    have h := (HI1.out.ex hex2 (fun b hb => by omega)).more R2'
    rw [← hR2, hnn] at h
    exact h
  obtain ⟨_, a2, c2, rfl, _⟩ := hiv2
  rw [hnn]
  clear hm2 hex2 hes2 hR2 hz2 HI1 HM1 HES1 R2 R3 N1 HB6 hnn hmem1
  go_simp
  refine hK.out _ _ (by exact N2.out) (fun hHeld => ?_)
  clear hK K
  try simp only [Act.put, List.setIfInBounds_toArray, List.set_cons_zero, List.set_cons_succ, List.getElem_toArray, List.getElem_cons_succ, List.getElem_cons_zero]
  have r0 := Q2.out.cell 0
  have r1 := Q2.out.cell 1
  have r2 := Q2.out.cell 2
  have r3 := Q2.out.cell 3
  have rf := Q2.out.frozen
  have s0 := Q3.out.cell 0
  have s1 := Q3.out.cell 1
  have s2 := Q3.out.cell 2
  have s3 := Q3.out.cell 3
  have sf := Q3.out.frozen
  simp only [List.getElem?_toArray, List.getElem?_cons_zero, List.getElem?_cons_succ] at r0 r1 r2 r3 s0 s1 s2 s3
  refine wpAnyH_ready (rs := [6]) (by kernel_rfl) (by simp) ?_
  refine AllReadyH.cons rfl (fun K hK => ?_) AllReadyH.nil
  go_simp
  refine hK.out _ _ (by exact (((N2.out.set (by omega) _ _).set (by omega) _ _).set (by omega) _ _).set (by omega) _ _) (fun hHeld => ?_)
  clear hK K
  try simp only [Act.put, List.setIfInBounds_toArray, List.set_cons_zero, List.set_cons_succ, List.getElem_toArray, List.getElem_cons_succ, List.getElem_cons_zero]
  refine wpAnyH_ready (rs := [7]) (by kernel_rfl) (by simp) ?_
  refine AllReadyH.cons rfl (fun K hK => ?_) AllReadyH.nil
  go_simp
  refine hK.out _ _ (by exact (((hHeld.set (by omega) _ _).set (by omega) _ _).set (by omega) _ _).set (by omega) _ _) (fun hHeld => ?_)
  clear hK K
  try simp only [Act.put, List.setIfInBounds_toArray, List.set_cons_zero, List.set_cons_succ, List.getElem_toArray, List.getElem_cons_succ, List.getElem_cons_zero]
  refine wpAnyH_done (by kernel_rfl) ?_ _
  go_wp2_with fail
  refine bodyPost_ret (v := .tuple #[.agg #[.string a.name, .slice a1 a.args.length c1, .int .i64 (numT a S2), .int .i64 (sizeL [a])], .agg #[.string b.name, .slice a2 b.args.length c2, .int .i64 (numT b S2), .int .i64 (sizeL [b])]]) (by simp [results, Try.results34, go_sem, World.cell?_setCell_same, World.cell?_setCell_other, r0, r1, r2, r3, s0, s1, s2, s3]) rfl ?_
  refine nb_fin (S0 := []) HB7.out ?_ rfl HZ2.out HI1'.out HI2.out
  iterate 8 refine ExQ.set ?_ (by simp) _ _
  exact ExQ.refl _ _
#print axioms numbered_any
end Go.Proofs.Ytccbocefgoccdaa
