/- Walks: Put, and the law on it. -/
import Derived.Test.YthlgknglalcggaiW13
import Derived.Test.YthlgknglalcggaiW12
import Derived.Test.YthlgknglalcggaiW11
namespace Go.Proofs.Ythlgknglalcggai
open Go.RowKit
set_option linter.unusedSimpArgs false
set_option linter.unusedVariables false
set_option maxRecDepth 8000

/-- What is wrong with putting. -/
def putE (t : Tm) (zs : List Int) (x : Tm) : Int := if twoE t x = 0 then (if (atT t zs).isSome = true then 0 else 10) else twoE t x

theorem may_size {t : Tm} (h : mayE t = 0) : sizeL [t] ≤ 1000000 := by
  unfold mayE at h
  split at h
  · omega
  · omega

theorem may_le {t : Tm} (h : mayE t = 0) : sizeL [t] ≤ 400 := by
  unfold mayE at h
  split at h
  · omega
  · omega
theorem size_set : ∀ (l : List Tm) (k : Nat) (h : k < l.length) (y : Tm), sizeL (l.set k y) + sizeL [l[k]] = sizeL l + sizeL [y]
  | [], k, h, y => by simp at h
  | ⟨s, a⟩ :: l, 0, h, ⟨s', a'⟩ => by simp [sizeL]; omega
  | ⟨s, a⟩ :: l, k + 1, h, y => by
    have := size_set l k (by simpa using h) y
    simp only [List.set_cons_succ, List.getElem_cons_succ]
    have e1 : sizeL (⟨s, a⟩ :: l.set k y) = 1 + sizeL a + sizeL (l.set k y) := by simp [sizeL]
    have e2 : sizeL (⟨s, a⟩ :: l) = 1 + sizeL a + sizeL l := by simp [sizeL]
    omega
theorem putT_size (x : Tm) : ∀ (zs : List Int) (t : Tm), (atT t zs).isSome = true → sizeL [putT x zs t] ≤ sizeL [t] + sizeL [x]
  | [], t, _ => by simp [putT]
  | z :: zs, ⟨s, l⟩, h => by
    rw [atT] at h
    split at h
    case isFalse => cases h
    case isTrue hz =>
    obtain ⟨k, rfl⟩ : ∃ k : Nat, z = (k : Int) := ⟨z.toNat, by omega⟩
    have hk : k < l.length := by simpa using hz.2
    have ih := putT_size x zs l[k] (by simpa using h)
    have h1 := putL_set (putT x zs) l 0 k hk
    rw [Nat.zero_add] at h1
    rw [putT, h1]
    have h2 := size_set l k hk (putT x zs l[k])
    have e1 : sizeL [(⟨s, l.set k (putT x zs l[k])⟩ : Tm)] = 1 + sizeL (l.set k (putT x zs l[k])) := by simp [sizeL]
    have e2 : sizeL [(⟨s, l⟩ : Tm)] = 1 + sizeL l := by simp [sizeL]
    simp only [e1, e2]
    omega
theorem two_left {t x : Tm} (h : mayE t = 0) : twoE t x = mayE x := by simp [twoE, h]
theorem two_bad {t x : Tm} (h : mayE t ≠ 0) : twoE t x = mayE t := by simp [twoE, h]

theorem blks3 (w : World) (c1 c2 c3 : Array Value) (T : Nat) :
    Blk (((w.alloc (.cells c1 T)).alloc (.cells c2 T)).alloc (.cells c3 T)) w.heap.size c1 T ∧ Blk (((w.alloc (.cells c1 T)).alloc (.cells c2 T)).alloc (.cells c3 T)) (w.heap.size + 1) c2 T ∧ Blk (((w.alloc (.cells c1 T)).alloc (.cells c2 T)).alloc (.cells c3 T)) (w.heap.size + 1 + 1) c3 T := by
  refine ⟨(((Blk.new w c1 T).alloc _).alloc _), ?_, ?_⟩
  · have := ((Blk.new (w.alloc (.cells c1 T)) c2 T).alloc (.cells c3 T))
    simp at this; exact this
  · have := (Blk.new ((w.alloc (.cells c1 T)).alloc (.cells c2 T)) c3 T)
    simp at this; exact this

set_option maxHeartbeats 1000000 in
theorem put_any (t x : Tm) (zs : List Int) (v p u : Value) (w : World) (X : Nat → Prop) (hv : TV w X v t) (hp : PV w X p zs) (hu : TV w X u x) :
    Calls Try.prog 12 #[v, p, u] w fun e w' => ∃ v', e = .returned (.tuple #[v', .int .i64 (putE t zs x)]) ∧ (putE t zs x = 0 → TV w' (fun b => w.heap.size ≤ b) v' (putT x zs t)) ∧ (putE t zs x ≠ 0 → v' = zeroT) ∧ Below w.heap.size w w' := by
  obtain ⟨a, c, rfl, hs⟩ := hv
  obtain ⟨ax, cx, rfl, hsx⟩ := hu
  obtain ⟨pa, pc, rfl, hpr⟩ := hp
  have HV := hide (show TV w X (.agg #[.string t.name, .slice a t.args.length c]) t from ⟨a, c, rfl, hs⟩)
  have HU := hide (show TV w X (.agg #[.string x.name, .slice ax x.args.length cx]) x from ⟨ax, cx, rfl, hsx⟩)
  have HP := hide (show PV w X (.slice pa zs.length pc) zs from ⟨pa, pc, rfl, hpr⟩)
  clear hs hsx hpr
  go_enter Try.func12, Try.ntmps12
  go_wp2_with fail
  refine (check_any t _ _ X (by exact HV.out.later (below3 _ _ _))).mono ?_
  rintro e w1 ⟨rfl, hb1⟩
  obtain ⟨k1, k2, k3⟩ := blks3 w #[.string t.name, .slice a t.args.length c] #[.string x.name, .slice ax x.args.length cx] #[.string ⟨#[]⟩, .slice none 0 0] 25
  have B1 := hide (k1.below hb1 k1.lt)
  have B2 := hide (k2.below hb1 k2.lt)
  have B3 := hide (k3.below hb1 k3.lt)
  have HW1 := hide ((below3 (w := w) (.cells #[.string t.name, .slice a t.args.length c] 25) (.cells #[.string x.name, .slice ax x.args.length cx] 25) (.cells #[.string ⟨#[]⟩, .slice none 0 0] 25)).trans (hb1.mono (by simp; omega)))
  clear k1 k2 k3 hb1
  by_cases h1 : mayE t = 0
  · have HT := hide (two_left (x := x) h1)
    have HS1 := hide (may_size h1)
    have HL1 := hide (may_le h1)
    rw [h1]
    clear h1
    have x0 : w1.cell? ⟨w.heap.size + 1, 0, none⟩ = some (.string x.name) := B2.out.cell 0
    have x1 : w1.cell? ⟨w.heap.size + 1, 1, none⟩ = some (.slice ax x.args.length cx) := B2.out.cell 1
    go_wp2_with fail
    refine (check_any x _ _ X (by exact HU.out.later HW1.out)).mono ?_
    rintro e w2 ⟨rfl, hb2⟩
    have C1 := hide (B1.out.below hb2 B1.out.lt)
    have C2 := hide (B2.out.below hb2 B2.out.lt)
    have C3 := hide (B3.out.below hb2 B3.out.lt)
    have HW2 := hide (HW1.out.trans (hb2.mono HW1.out.size))
    clear hb2 x0 x1
    by_cases h2 : mayE x = 0
    · have HZ : Hid (twoE t x = 0) := by unfold Hid; rw [HT.out, h2]
      have HS2 := hide (may_size h2)
      have HL2 := hide (may_le h2)
      rw [h2]
      clear h2
      have x0 : w2.cell? ⟨w.heap.size, 0, none⟩ = some (.string t.name) := C1.out.cell 0
      have x1 : w2.cell? ⟨w.heap.size, 1, none⟩ = some (.slice a t.args.length c) := C1.out.cell 1
      go_wp2_with fail
      refine (find_any t zs _ _ _ X (by exact HV.out.later HW2.out) (by exact HP.out.later HW2.out)).mono ?_
      rintro e w3 ⟨v3, rfl, hyes, hno, hb3⟩
      obtain ⟨s3, a3, n3, c3, rfl⟩ := tvform hyes hno
      have D1 := hide (C1.out.below hb3 C1.out.lt)
      have D2 := hide (C2.out.below hb3 C2.out.lt)
      have D3 := hide (C3.out.below hb3 C3.out.lt)
      have HW3 := hide (HW2.out.trans (hb3.mono HW2.out.size))
      clear hb3 x0 x1 hyes hno
      cases hat : atT t zs with
      | none =>
        have HE : Hid (10 = putE t zs x) := by simp [Hid, putE, HZ.out, hat]
        have hne : putE t zs x ≠ 0 := by rw [← HE.out]; decide
        have r0 := fun o => (D3.out.alloc o).cell 0
        have r1 := fun o => (D3.out.alloc o).cell 1
        have rf := fun o => (D3.out.alloc o).frozen
        simp only [Option.isSome_none]
        go_wp2_with fail
        refine bodyPost_ret (v := .tuple #[zeroT, .int .i64 10]) (by simp [results, Try.results12, go_sem, zeroT, r0, r1, World.cell?_setCell_same, World.cell?_setCell_other]) rfl ⟨_, by rw [← HE.out], fun h => absurd h hne, fun _ => rfl, ?_⟩
        exact ((HW3.out.alloc HW3.out.size _).setCell (by simp; omega) _).setCell (by simp; omega) _
      | some y =>
        have HE : Hid (0 = putE t zs x) := by simp [Hid, putE, HZ.out, hat]
        have x0 := fun o => (D1.out.alloc o).cell 0
        have x1 := fun o => (D1.out.alloc o).cell 1
        have y0 := fun o => (D2.out.alloc o).cell 0
        have y1 := fun o => (D2.out.alloc o).cell 1
        simp only [Option.isSome_some]
        have hb4 := fun o => HW3.out.alloc HW3.out.size o
        have HB4 := hide hb4
        clear hb4
        go_wp2_with fail
        refine (kput_any x zs t _ _ _ _ X (by exact HV.out.later (HB4.out _)) (by exact HP.out.later (HB4.out _)) (by exact HU.out.later (HB4.out _)) (by rw [hat]; rfl) HS1.out).mono ?_
        rintro e w4 ⟨v4, rfl, ht4, hb4⟩
        have HZP := hide (putT_size x zs t (by rw [hat]; rfl))
        have HT4 := hide ht4
        obtain ⟨a4, c4, rfl, hs4⟩ := ht4
        clear hs4
        have hzb := hb4.size
        have HB44 := hide hb4
        clear hb4
        go_wp2_with fail
        refine (copyOf_any (putT x zs t) _ w4 _ HT4.out (by have := HZP.out; have := HL1.out; have := HL2.out; omega)).mono ?_
        rintro e w5 ⟨v5, rfl, ht5, hb5c⟩
        have hb5 := HB44.out.trans (hb5c.mono HB44.out.size)
        obtain ⟨a5, c5, rfl, hs5⟩ := ht5
        have E3 := hide ((D3.out.alloc _).below hb5 (by have := D3.out.lt; simp; omega))
        have r0 : w5.cell? ⟨w.heap.size + 1 + 1, 0, none⟩ = some (.string ⟨#[]⟩) := E3.out.cell 0
        have r1 : w5.cell? ⟨w.heap.size + 1 + 1, 1, none⟩ = some (.slice none 0 0) := E3.out.cell 1
        have rf := E3.out.frozen
        have HW5 := hide ((HB4.out _).trans (hb5.mono (by have := HW3.out.size; simp; omega)))
        have HS5 := hide hs5
        clear hs5 hb5 x0 x1 y0 y1
        generalize hn5 : (putT x zs t).name = s5
        generalize hl5 : (putT x zs t).args.length = n5
        go_wp2_with fail
        refine bodyPost_ret (v := .tuple #[.agg #[.string s5, .slice a5 n5 c5], .int .i64 0]) (by simp [results, Try.results12, go_sem, r0, r1, World.cell?_setCell_same, World.cell?_setCell_other]) rfl ⟨_, by rw [← HE.out], fun _ => ?_, fun h => absurd HE.out.symm h, ?_⟩
        · refine ⟨a5, c5, by rw [hn5, hl5], ?_⟩
          have hk : Sl w5 (fun b => w3.heap.size + 1 ≤ b) a5 (putT x zs t).args := HS5.out.mono fun b h _ => by simp at hzb; omega
          have hsz3 := D3.out.lt
          have hsz4 := HW3.out.size
          exact (hk.kept fun b hb => by rw [Below.heap_setCell _ _ _ _ (by simp; omega), Below.heap_setCell _ _ _ _ (by simp; omega)]).mono fun b hb _ => by omega
        · exact (HW5.out.setCell (by simp; omega) _).setCell (by simp; omega) _
    · have HE : Hid (mayE x = putE t zs x) := by
        have : twoE t x ≠ 0 := by rw [HT.out]; exact h2
        unfold Hid putE; rw [if_neg this, HT.out]
      have hne : putE t zs x ≠ 0 := by rw [← HE.out]; exact h2
      have h2' : (mayE x == 0) = false := by simpa using h2
      have r0 : w2.cell? ⟨w.heap.size + 1 + 1, 0, none⟩ = some (.string ⟨#[]⟩) := C3.out.cell 0
      have r1 : w2.cell? ⟨w.heap.size + 1 + 1, 1, none⟩ = some (.slice none 0 0) := C3.out.cell 1
      have rf := C3.out.frozen
      clear h2
      go_wp2_with fail
      refine bodyPost_ret (v := .tuple #[zeroT, .int .i64 (mayE x)]) (by simp [results, Try.results12, go_sem, zeroT, r0, r1, World.cell?_setCell_same, World.cell?_setCell_other]) rfl ⟨_, by rw [← HE.out], fun h => absurd h hne, fun _ => rfl, ?_⟩
      exact (HW2.out.setCell (by simp; omega) _).setCell (by simp; omega) _
  · have HE : Hid (mayE t = putE t zs x) := by
      have : twoE t x ≠ 0 := by rw [two_bad h1]; exact h1
      unfold Hid putE; rw [if_neg this, two_bad h1]
    have hne : putE t zs x ≠ 0 := by rw [← HE.out]; exact h1
    have h1' : (mayE t == 0) = false := by simpa using h1
    have r0 : w1.cell? ⟨w.heap.size + 1 + 1, 0, none⟩ = some (.string ⟨#[]⟩) := B3.out.cell 0
    have r1 : w1.cell? ⟨w.heap.size + 1 + 1, 1, none⟩ = some (.slice none 0 0) := B3.out.cell 1
    have rf := B3.out.frozen
    clear h1
    go_wp2_with fail
    refine bodyPost_ret (v := .tuple #[zeroT, .int .i64 (mayE t)]) (by simp [results, Try.results12, go_sem, zeroT, r0, r1, World.cell?_setCell_same, World.cell?_setCell_other]) rfl ⟨_, by rw [← HE.out], fun h => absurd h hne, fun _ => rfl, ?_⟩
    exact (HW1.out.setCell (by simp; omega) _).setCell (by simp; omega) _
#print axioms put_any
end Go.Proofs.Ythlgknglalcggai
