import Derived.Test.YtmkendjmfdaedaaGreatZRewriteMadeOwn
import Derived.Test.YtmkendjmfdaedaaGreatZBRewriteMadeOwn
import Derived.Deep.RegionHeld
import Derived.Deep.RegionHeld3
import Derived.Deep.DeepCutAuto
namespace Go.Proofs.YtmkendjmfdaedaaGreat
open Go.RowKit
set_option linter.unusedSimpArgs false
set_option linter.unusedVariables false
set_option maxRecDepth 8000
def fitsB (rs : List Pr) (x : Tm) : Bool := rs.any fun r => mtB r.l x
theorem anyP_take {l : List Pr} {f : Pr → Bool} {k : Nat} (h : k < l.length) : (l.take (k + 1)).any f = ((l.take k).any f || f l[k]) := by
 rw [List.take_succ_eq_append_getElem h, List.any_append]
 simp
theorem anyP_yes {l : List Pr} {f : Pr → Bool} {k : Nat} (h : k < l.length) (h0 : f l[k] = true) : l.any f = true := List.any_eq_true.2 ⟨_, List.getElem_mem h, h0⟩
theorem matchB_any (p t : Tm) (pv tv : Value) (w : World) (X : Nat → Prop) (hp : TV w X pv p) (ht : TV w X tv t) (hsz : sizeL [p] ≤ 1000000) :
  Calls Tryz.prog 59 #[pv, tv] w fun e w' => ∃ v, e = .returned (.tuple #[v, .bool (mtB p t)]) ∧ Below w.heap.size w w' := by
 refine (matchOf_any p t pv tv w X hp ht hsz).mono ?_
 rintro e w' ⟨hb, ⟨h0, rfl⟩ | ⟨h', v, l', h0, rfl, _⟩⟩
 ·exact ⟨_, by unfold mtB; rw [h0]; rfl, hb⟩
 ·exact ⟨v, by unfold mtB; rw [h0]; rfl, hb⟩
def FrInv (rs : List Pr) (x : Tm) (a3 : Option Addr) (c3 : Nat) (w : World) (v : Value) (wr : World) : Prop := ∃ k : Nat, k ≤ rs.length ∧ v = .int .i64 (k : Int) ∧ (rs.take k).any (fun r => mtB r.l x) = false ∧ Blk wr w.heap.size #[.string x.name, .slice a3 x.args.length c3] 27 ∧ Below w.heap.size w wr
set_option maxHeartbeats 4000000 in
theorem fitR_any (rs : List Pr) (x : Tm) (a3 : Option Addr) (c3 : Nat) (u : Value) (w : World) (X : Nat → Prop) (hu : QV w X u rs) (hs : Sl w X a3 x.args) (hrz : ∀ p ∈ rs, sizeL [p.l] ≤ 1000000) :
  Calls Tryz.prog 70 #[u, .agg #[.string x.name, .slice a3 x.args.length c3]] w fun e w' => e = .returned (.bool (fitsB rs x)) ∧ Below w.heap.size w w' := by
 have HU := hide hu
 have HS := hide hs
 obtain ⟨a, c, rfl, hl, hu2⟩ := hu
 clear hu2 hs
 go_enter Tryz.func70, Tryz.ntmps70
 go_wp2_with fail
 go_loopw [5] (fun v wr => FrInv rs x a3 c3 w v wr) (fun v wr => rs.length - (intOf v).toNat)
 case atStart => exact ⟨0, Nat.zero_le _, rfl, by simp, Blk.new w _ _, (Below.refl _ _).alloc (Nat.le_refl _) _⟩
 case round =>
  obtain ⟨k, hk, rfl, hT, hkb, hb⟩ := hrel
  have HB := hide hb
  have HT := hide hT
  have KB := hide hkb
  clear hT hkb
  by_cases hlt : k < rs.length
  ·obtain ⟨bq, oq, a1, c1, a2, c2, rfl, d0, d1, d2, d3, hs1, hs2⟩ := (HU.out.later hb).get k hlt
   have hlt2 : (k : Int) < (rs.length : Int) := by omega
   have Q1 := hide hs1
   have D := hide (And.intro d0 d1)
   have HTK := hide (anyP_take (f := fun r => mtB r.l x) hlt)
   have HYS := hide (anyP_yes (f := fun r => mtB r.l x) hlt)
   have HRZ := hide (hrz _ (List.getElem_mem hlt))
   clear hs1 hs2 hb d0 d1 d2 d3
   generalize rs[k] = r at *
   go_upto_region 4 with fail
   have BD : Hid (Below wr.heap.size wr wr.drew) := below_drewN (Below.refl _ _) 1
   refine wp_region_held_drew (S := fun w' => Below wr.heap.size wr w') (by kernel_rfl) BD.out (fun hHeld => ?_)
   refine tkq (v := ?_) 0 rfl ?_ ?_
   rotate_left
   ·intro w' hSw
    go_simp <;> with_reducible rfl
   try simp only [Act.put, sq]
   refine tkq (v := ?_) 1 rfl ?_ ?_
   rotate_left
   ·intro w' hSw
    go_simp <;> with_reducible rfl
   try simp only [Act.put, sq]
   refine tkq (v := ?_) 2 rfl ?_ ?_
   rotate_left
   ·intro w' hSw
    go_simp <;> with_reducible rfl
   try simp only [Act.put, sq]
   refine tkq (v := ?_) 3 rfl ?_ ?_
   rotate_left
   ·intro w' hSw
    go_simp <;> with_reducible rfl
   try simp only [Act.put, sq]
   refine tkq (v := ?_) 4 rfl ?_ ?_
   rotate_left
   ·intro w' hSw
    have c0 := cell_later hSw D.out.1
    have c1 := cell_later hSw D.out.2
    go_simp <;> with_reducible rfl
   try simp only [Act.put, sq]
   refine tkq (v := ?_) 5 rfl ?_ ?_
   rotate_left
   ·intro w' hSw
    have c0 : w'.cell? ⟨w.heap.size, 0, none⟩ = some (.string x.name) := (KB.out.below hSw KB.out.lt).cell 0
    have c1 : w'.cell? ⟨w.heap.size, 1, none⟩ = some (.slice a3 x.args.length c3) := (KB.out.below hSw KB.out.lt).cell 1
    go_simp <;> with_reducible rfl
   try simp only [Act.put, sq]
   generalize wr.drew = wd at *
   refine rdq 6 rfl fun K hK => ?_
   go_simp
   go_at_call 59
   refine (matchB_any r.l x _ _ _ X ⟨_, _, rfl, Q1.out.later BD.out⟩ ⟨_, _, rfl, HS.out.later (HB.out.trans (BD.out.mono HB.out.size))⟩ HRZ.out).mono ?_
   rintro e w5 ⟨v5, rfl, hb5⟩
   have B5 := hide (BD.out.trans (hb5.mono BD.out.size))
   clear hb5
   go_simp
   refine hK.out _ _ (by exact B5.out) (fun hHeld => ?_)
   clear hK K
   try simp only [Act.put, sq]
   refine tkq (v := ?_) 7 rfl ?_ ?_
   rotate_left
   ·intro w' hSw
    go_simp <;> with_reducible rfl
   try simp only [Act.put, sq]
   refine tkq (v := ?_) 8 rfl ?_ ?_
   rotate_left
   ·intro w' hSw
    go_simp <;> with_reducible rfl
   try simp only [Act.put, sq]
   refine tkq (v := ?_) 9 rfl ?_ ?_
   rotate_left
   ·intro w' hSw
    go_simp <;> with_reducible rfl
   try simp only [Act.put, sq]
   refine tkq (v := ?_) 10 rfl ?_ ?_
   rotate_left
   ·intro w' hSw
    go_simp <;> with_reducible rfl
   try simp only [Act.put, sq]
   refine tkq (v := ?_) 11 rfl ?_ ?_
   rotate_left
   ·intro w' hSw
    go_simp <;> with_reducible rfl
   try simp only [Act.put, sq]
   refine wpAnyH_done (by kernel_rfl) ?_ _
   have BW5 := hide (HB.out.trans (B5.out.mono HB.out.size))
   cases hm : mtB r.l x with
   | true =>
    have HF := hide (HYS.out hm)
    clear hm
    go_wp2_with fail
    go_ret
    exact ⟨ret_bool HF.out.symm, BW5.out⟩
   | false =>
    have HN : Hid ((rs.take (k + 1)).any (fun r => mtB r.l x) = false) := by
     have h := HTK.out
     rw [HT.out, hm] at h
     exact h
    clear hm
    go_wp2_with fail
    go_roundw
    case rel => exact ⟨k + 1, by omega, by go_num, HN.out, KB.out.below B5.out KB.out.lt, BW5.out⟩
    case measure => simp [intOf]; omega
  ·have HF : Hid (false = fitsB rs x) := by
    unfold Hid fitsB
    rw [← HT.out, List.take_of_length_le (by omega)]
   go_wp2_with fail
   go_ret
   exact ⟨ret_bool HF.out, HB.out⟩
end Go.Proofs.YtmkendjmfdaedaaGreat
