/- Walks: a term with another one at a place, as the document says. -/
import Derived.Test.YthlgknglalcggaaW9
import Derived.Test.YthlgknglalcggaaPutM
import Derived.Test.YthlgknglalcggaaSlq
namespace Go.Proofs.Ythlgknglalcggaa
open Go.RowKit
set_option linter.unusedSimpArgs false
set_option linter.unusedVariables false
set_option maxRecDepth 8000

/-- What a round that appends does: the row at block M holds what is appended to. -/
theorem put_step {w wr w1 w3 : World} {M T : Nat} {Y : Nat → Prop} {u : Value} {L : List Tm} {t : Tm} {xs : List Value} {o2 : Obj} {s s' : ByteArray} {a1 : Option Addr} {n1 c1 g cap n : Nat} (hn : L.length = n) (hrow : Row wr (M + 1) T Y u L xs) (hb : Below w.heap.size w wr) (hM : w.heap.size ≤ M) (hY : ∀ b, Y b → b < w.heap.size)
    (h2 : Blk wr M #[.string s, u] T) (hsz : M + 1 ≤ wr.heap.size)
    (hb1 : Below wr.heap.size wr w1) (ht : TV w1 (fun b => Y b ∨ wr.heap.size ≤ b) (.agg #[.string s', .slice a1 n1 c1]) t)
    (hown : w3.ownsRow (M + 1) T 2 (.slice (some ⟨g, 0, none⟩) (n + 1) cap) (n + 1) (xs ++ [.string s', .slice a1 n1 c1])) (hg : (w1.alloc o2).grownBy w3 u.ownBlock) (hat : u.ownBlock = some g ∨ g = (w1.alloc o2).heap.size) :
    let w4 := w3.setCell ⟨M, 1, none⟩ (.slice (some ⟨g, 0, none⟩) (n + 1) cap)
    Row w4 (M + 1) T Y (.slice (some ⟨g, 0, none⟩) (n + 1) cap) (L ++ [t]) (xs ++ [.string s', .slice a1 n1 c1]) ∧ Below w.heap.size w w4 ∧ (∀ b cs, b < M → Blk wr b cs T → Blk w4 b cs T) ∧ Blk w4 M #[.string s, .slice (some ⟨g, 0, none⟩) (n + 1) cap] T ∧ M + 1 ≤ w4.heap.size := by
  intro w4
  subst hn
  have hlt' := hrow.own.lt
  have hs1 := hb1.size
  have hsg := hg.size
  simp at hsg
  have hp := hrow.push (w1 := w1) (w2 := w1.alloc o2) (w3 := w3) hsz (fun b h => by have := hY b h; omega) hb1 ht o2 rfl hown hg hat
  have hw3 : Below w.heap.size w w3 := ((hb.trans (hb1.mono hb.size)).alloc (by have := hb.size; omega) o2).grown hg (by have := hb.size; simp; omega) (fun j hj => by have := (hlt' j hj).1; omega)
  have hA : Below w.heap.size w w4 := hw3.setCell (p := ⟨M, 1, none⟩) hM _
  have hbk : ∀ b cs, b < M + 1 → Blk wr b cs T → Blk w3 b cs T := fun b cs hb h => ((h.below hb1 h.lt).alloc o2).grown hg (hrow.ne hb)
  refine ⟨hp.setCell (by omega) (fun h => by have := hY _ h; omega) _, hA, fun b cs hb h => (hbk b cs (by omega) h).setOther _ _ (by omega), (hbk _ _ (by omega) h2).set 1 _, by simp [w4, World.setCell]; omega⟩

theorem put_blk {wr w1 w3 : World} {o2 : Obj} {M T : Nat} {Y : Nat → Prop} {u : Value} {L : List Tm} {xs : List Value} {b : Nat} {cs : Array Value} (hrow : Row wr (M + 1) T Y u L xs) (h : Blk wr b cs T) (hb1 : Below wr.heap.size wr w1) (hg : (w1.alloc o2).grownBy w3 u.ownBlock) (hM : b < M + 1) : Blk w3 b cs T :=
  ((h.below hb1 h.lt).alloc o2).grown hg (hrow.ne hM)

theorem own_later {w w' : World} {N T size : Nat} {v : Value} {n : Nat} {xs : List Value} (h : w.ownsRow N T size v n xs) (hb : Below w.heap.size w w') : w'.ownsRow N T size v n xs :=
  h.kept (w' := w') (row := none) ⟨hb.os, hb.tape, hb.output, hb.size, fun j hj _ => hb.block j hj⟩ (by rcases Option.eq_none_or_eq_some (Value.ownBlock v) with h | ⟨x, h⟩; exact Or.inl h; exact Or.inr (by rw [h]; simp))

/-- What holds at each round's head of putting at a place. -/
def PutInv (w : World) (X : Nat → Prop) (x : Tm) (zs : List Int) (z : Int) (s : ByteArray) (l : List Tm) (a : Option Addr) (c : Nat) (ax : Option Addr) (cx : Nat) (i : Value) (wr : World) : Prop :=
  ∃ (k : Nat) (q : Value) (xs : List Value), k ≤ l.length ∧ i = .int .i64 k ∧ Row wr (w.heap.size + 1 + 1 + 1 + 1) 24 X q ((putL (putT x zs) z 0 l).take k) xs ∧ Below w.heap.size w wr ∧ Blk wr w.heap.size #[.string s, .slice a l.length c] 24 ∧ Blk wr (w.heap.size + 1) #[.string x.name, .slice ax x.args.length cx] 24 ∧ Blk wr (w.heap.size + 1 + 1) #[.string ⟨#[]⟩, .slice none 0 0] 24 ∧ Blk wr (w.heap.size + 1 + 1 + 1) #[.string s, q] 24 ∧ w.heap.size + 1 + 1 + 1 + 1 ≤ wr.heap.size

theorem two_one (s : ByteArray) (a : Option Addr) (n c : Nat) : ∀ u ∈ [Value.string s, .slice a n c], u.oneCell' = true := fun x hx => by
  simp at hx; rcases hx with rfl | rfl <;> rfl

theorem drew_below {wr w1 : World} (hb1 : Below wr.drew.heap.size wr.drew w1) : Below wr.heap.size wr w1 := (below_drewN (Below.refl _ _) 1).trans hb1

set_option maxHeartbeats 4000000 in
theorem putOf_any (x : Tm) (zs : List Int) : ∀ (t : Tm) (v p u : Value) (w : World) (X : Nat → Prop), TV w X v t → PV w X p zs → TV w X u x → sizeL [t] ≤ 1000000 →
    Calls Try.prog 24 #[v, p, u] w fun e w' => ∃ v', e = .returned v' ∧ TV w' (fun b => X b ∨ w.heap.size ≤ b) v' (putT x zs t) ∧ Below w.heap.size w w' := by
  induction zs with
  | nil =>
    intro t v p u w X hv hp hu hsm
    obtain ⟨a, c, rfl, hs⟩ := hv
    obtain ⟨ax, cx, rfl, hsx⟩ := hu
    obtain ⟨pa, pc, rfl, hzl, hz⟩ := hp
    go_enter Try.func24, Try.ntmps24
    go_wp2_with fail
    refine bodyPost_ret (v := .agg #[.string x.name, .slice ax x.args.length cx]) (by simp [results, Try.results24, go_sem]) rfl ⟨_, rfl, ?_, below3 _ _ _⟩
    exact ⟨ax, cx, by simp [putT], ((hsx.later (below3 _ _ _)).mono fun b h _ => Or.inl h)⟩
  | cons z zs ih =>
    intro t v p u w X0 hv0 hp0 hu0 hsm
    have IH := hide ih
    clear ih
    obtain ⟨X, hX, hXX, hv, hp, hu⟩ : ∃ X : Nat → Prop, (∀ b, X b → b < w.heap.size) ∧ (∀ b, X b → X0 b) ∧ TV w X v t ∧ PV w X p (z :: zs) ∧ TV w X u x := ⟨fun b => X0 b ∧ b < w.heap.size, fun _ h => h.2, fun _ h => h.1, hv0.mono fun b h1 h2 => ⟨h1, h2⟩, hp0.mono fun b h1 h2 => ⟨h1, h2⟩, hu0.mono fun b h1 h2 => ⟨h1, h2⟩⟩
    clear hv0 hp0 hu0
    obtain ⟨a, c, rfl, hs⟩ := hv
    obtain ⟨ax, cx, rfl, hsx⟩ := hu
    have HU := hide (show TV w X (.agg #[.string x.name, .slice ax x.args.length cx]) x from ⟨ax, cx, rfl, hsx⟩)
    clear hsx
    obtain ⟨pa, pc, rfl, hzl, hz⟩ := hp
    obtain ⟨b, o, rfl, hxb, hcell⟩ := hz.resolve_left (fun h => by cases h)
    have h0 := hcell 0 (by simp)
    simp only [Nat.add_zero, List.getElem_cons_zero] at h0
    have htl := hs.1
    have hzl' : zs.length + 1 ≤ 9223372036854775807 ∧ zs.length + 1 ≤ pc := by simpa using hzl
    obtain ⟨hzl1, hzl2⟩ := hzl'
    obtain ⟨s, l⟩ := t
    have hz1 : sizeL [(⟨s, l⟩ : Tm)] = 1 + sizeL l := by simp [sizeL]
    rw [hz1] at hsm
    clear hz1
    have hlen := sizeL_len l
    obtain ⟨i0, hi, hz0, hz1, hz2⟩ := info_parts Try.infoTerm
    obtain ⟨sa, HSA, HT⟩ : ∃ sa : Option Addr, Hid ((if pc = 1 then some (⟨b, o, none⟩ : Addr) else some ⟨b, o + 1, none⟩) = sa) ∧ Hid (PV w X (.slice sa zs.length (pc - 1)) zs) := by
      by_cases h1 : pc = 1
      · refine ⟨_, rfl, ?_⟩
        have : zs = [] := List.length_eq_zero_iff.1 (by omega)
        subst this
        exact ⟨_, _, rfl, by simp, Or.inl rfl⟩
      · refine ⟨_, rfl, ?_⟩
        rw [if_neg h1]
        exact PV.tail ⟨hzl1, hzl2⟩ hxb hcell
    simp only [List.length_cons] at *
    clear hcell hzl hz
    go_enter Try.func24, Try.ntmps24
    go_wp2_with fail
    go_loopw [8] (fun i wr => PutInv w X x zs z s l a c ax cx i wr) (fun i wr => l.length - (intOf i).toNat)
    case atStart =>
      unfold PutInv
      refine ⟨0, .slice none 0 0, [], Nat.zero_le _, rfl, Row.start _ _ _ _, below4 _ _ _ _, ?_, ?_, ?_, ?_, by simp⟩
      · exact (((Blk.new w _ _).alloc _).alloc _).alloc _
      · have := ((Blk.new (w.alloc (.cells #[.string s, .slice a l.length c] 24)) #[.string x.name, .slice ax x.args.length cx] 24).alloc (.cells #[.string ⟨#[]⟩, .slice none 0 0] 24)).alloc (.cells #[.string s, .slice none 0 0] 24)
        simpa using this
      · have := (Blk.new ((w.alloc (.cells #[.string s, .slice a l.length c] 24)).alloc (.cells #[.string x.name, .slice ax x.args.length cx] 24)) #[.string ⟨#[]⟩, .slice none 0 0] 24).alloc (.cells #[.string s, .slice none 0 0] 24)
        simpa using this
      · have := Blk.new (((w.alloc (.cells #[.string s, .slice a l.length c] 24)).alloc (.cells #[.string x.name, .slice ax x.args.length cx] 24)).alloc (.cells #[.string ⟨#[]⟩, .slice none 0 0] 24)) #[.string s, .slice none 0 0] 24
        simpa using this
    case round =>
      obtain ⟨k, q, xs, hk, rfl, hrow, hb, hbl0, hbl1, hbl2, hbl3, hsz⟩ := hrel
      have HROW := hide hrow
      have HB := hide hb
      have HBL0 := hide hbl0
      have HBL1 := hide hbl1
      have HBL2 := hide hbl2
      have HBL3 := hide hbl3
      have c01 : wr.cell? ⟨w.heap.size, 1, none⟩ = some (.slice a l.length c) := hbl0.cell 1
      have c10 : wr.cell? ⟨w.heap.size + 1, 0, none⟩ = some (.string x.name) := hbl1.cell 0
      have c11 : wr.cell? ⟨w.heap.size + 1, 1, none⟩ = some (.slice ax x.args.length cx) := hbl1.cell 1
      have c30 : wr.cell? ⟨w.heap.size + 1 + 1 + 1, 0, none⟩ = some (.string s) := hbl3.cell 0
      have c31 : wr.cell? ⟨w.heap.size + 1 + 1 + 1, 1, none⟩ = some q := hbl3.cell 1
      have c31a : ∀ o, (wr.alloc o).cell? ⟨w.heap.size + 1 + 1 + 1, 1, none⟩ = some q := fun o => (hbl3.alloc o).cell 1
      have czw := cell_later hb h0
      by_cases hlt : k < l.length
      · obtain ⟨b1, o1, a', c', rfl, d0, d1, hx⟩ := hs.get hb (fun _ _ h => h) k hlt
        have HX := hide hx
        have HPL := hide (putL_take (putT x zs) z l k hlt)
        have hkl : ((putL (putT x zs) z 0 l).take k).length = k := by rw [List.length_take, putL_length]; omega
        have HKL := hide hkl
        have HOWN : Hid (wr.ownsRow (w.heap.size + 1 + 1 + 1 + 1) 24 2 q k xs) := by have := hrow.own; rw [hkl] at this; exact this
        have hszk : sizeL [l[k]] ≤ 1000000 := by
          have := sizeL_take l k hlt; have := sizeL_take_le l (k + 1); omega
        clear hbl0 hbl1 hbl2 hbl3 hb hx hrow hkl
        by_cases hkz : (k : Int) = z
        · have HKZ := hide hkz
          have hkz' : ((k : Int) == z) = true := by simpa using hkz
          clear hkz
          have HT' : Hid (PV wr.drew X (.slice sa zs.length (pc - 1)) zs) := HT.out.later (HB.out.drew)
          have HU' : Hid (TV wr.drew X (.agg #[.string x.name, .slice ax x.args.length cx]) x) := HU.out.later (HB.out.drew)
          have hle1 : (1 : Int) ≤ (zs.length : Int) + 1 := by omega
          have hslq : ∀ w' : World, Sem.run Try.prog (Instr.slice 25 (.slice (some ⟨b, o, none⟩) (zs.length + 1) pc) (some (.int .i64 1)) none none) w' = .ok (.slice sa zs.length (pc - 1)) w' := fun w' => by
            rw [slice_tail_run b o zs.length pc hzl2 w', HSA.out]
          go_wp2_with fail
          go_region_law (first
            | (refine step_append_lies _ rfl _ _ 22 rfl (w.heap.size + 1 + 1 + 1 + 1) 24 i0 _ 2 40 Try.underlying22 hi hz0 hz1 hz2 rfl (by decide) q k xs rfl (by exact (own_later HOWN.out (drew_below hb1)).alloc _) ⟨w1.heap.size, 0, none⟩ 1 1 [.string s9, .slice a9 n9 c9] rfl rfl (by exact cell_two_new _ _ _ _) (two_one _ _ _ _) (by decide) (by unfold maxLen; omega) (by omega) (by have := hb1.size; simp at this ⊢; omega) _ rfl ?_; intro g cap w3 hown3 hgrow3 hat3 hlt3; have hB3 := hide (put_blk HROW.out HBL3.out (drew_below hb1) hgrow3 (Nat.lt_succ_self _)); have hc5 : w3.cell? ⟨w.heap.size + 1 + 1 + 1, 1, none⟩ = some q := hB3.out.cell 1; have hf5 := hB3.out.frozen 1)
            | (go_simp; go_at_call 24; refine (IH.out _ _ _ _ _ X (by exact HX.out.later (below_drewN (Below.refl _ _) 1)) (by exact HT'.out) (by exact HU'.out) hszk).mono ?_; rintro e w1 ⟨v1, rfl, ht1, hb1⟩; obtain ⟨a9, c9, rfl, hs9⟩ := ht1; generalize hs9n : (putT x _ l[k]).name = s9; generalize hs9l : (putT x _ l[k]).args.length = n9; have hc3 : ∀ o, (w1.alloc o).cell? ⟨w.heap.size + 1 + 1 + 1, 1, none⟩ = some q := fun o => ((HBL3.out.below (drew_below hb1) HBL3.out.lt).alloc o).cell 1; have hc4 : w1.cell? ⟨w.heap.size + 1 + 1 + 1, 1, none⟩ = some q := (HBL3.out.below (drew_below hb1) HBL3.out.lt).cell 1))
          all_goals
            have HFIN := hide (put_step HKL.out HROW.out HB.out (by omega) hX HBL3.out hsz (drew_below hb1) (show TV w1 _ (.agg #[.string s9, .slice a9 n9 c9]) _ from ⟨a9, c9, by rw [hs9n, hs9l], hs9⟩) hown3 hgrow3 hat3)
            clear hown3 hgrow3 hat3
            go_wp2_with fail
            go_roundw
            case rel =>
              obtain ⟨r1, r2, r3, r4, r5⟩ := HFIN.out
              unfold PutInv
              refine ⟨k + 1, _, xs ++ [.string s9, .slice a9 n9 c9], by omega, by go_num, ?_, r2, r3 _ _ (by omega) HBL0.out, r3 _ _ (by omega) HBL1.out, r3 _ _ (by omega) HBL2.out, r4, r5⟩
              rw [HPL.out, if_pos HKZ.out]
              exact r1
            case measure => simp [intOf]; omega
        · have hkz' : ((k : Int) == z) = false := by simpa using hkz
          have HKZ := hide hkz
          clear hkz
          go_wp2_with fail
          go_region_law (first
            | (refine step_append_lies _ rfl _ _ 22 rfl (w.heap.size + 1 + 1 + 1 + 1) 24 i0 _ 2 40 Try.underlying22 hi hz0 hz1 hz2 rfl (by decide) q k xs rfl (by exact (own_later HOWN.out (below_drewN (Below.refl _ _) 1)).alloc _) ⟨wr.heap.size, 0, none⟩ 1 1 [.string l[k].name, .slice a' l[k].args.length c'] rfl rfl (by exact cell_two_new _ _ _ _) (two_one _ _ _ _) (by decide) (by unfold maxLen; omega) (by omega) (by simp; omega) _ rfl ?_; intro g cap w3 hown3 hgrow3 hat3 hlt3; have hB3 := hide (put_blk HROW.out HBL3.out (below_drewN (Below.refl _ _) 1) hgrow3 (Nat.lt_succ_self _)); have hc5 : w3.cell? ⟨w.heap.size + 1 + 1 + 1, 1, none⟩ = some q := hB3.out.cell 1; have hf5 := hB3.out.frozen 1))
          all_goals
            have HFIN := hide (put_step HKL.out HROW.out HB.out (by omega) hX HBL3.out hsz (below_drewN (Below.refl _ _) 1) ((HX.out.later (below_drewN (Below.refl _ _) 1)).mono fun b h _ => Or.inl h) hown3 hgrow3 hat3)
            clear hown3 hgrow3 hat3
            go_wp2_with fail
            go_roundw
            case rel =>
              obtain ⟨r1, r2, r3, r4, r5⟩ := HFIN.out
              unfold PutInv
              refine ⟨k + 1, _, xs ++ [.string l[k].name, .slice a' l[k].args.length c'], by omega, by go_num, ?_, r2, r3 _ _ (by omega) HBL0.out, r3 _ _ (by omega) HBL1.out, r3 _ _ (by omega) HBL2.out, r4, r5⟩
              rw [HPL.out, if_neg HKZ.out]
              exact r1
            case measure => simp [intOf]; omega
      · have htk : (putL (putT x zs) z 0 l).take k = putL (putT x zs) z 0 l := List.take_of_length_le (by rw [putL_length]; omega)
        have r20 : wr.cell? ⟨w.heap.size + 1 + 1, 0, none⟩ = some (.string ⟨#[]⟩) := hbl2.cell 0
        have r21 : wr.cell? ⟨w.heap.size + 1 + 1, 1, none⟩ = some (.slice none 0 0) := hbl2.cell 1
        have rf := hbl2.frozen
        obtain ⟨a9, c9, hu9, hsl9⟩ := hrow.sl
        rw [htk, putL_length] at hu9
        rw [htk] at hsl9
        have HSL := hide hsl9
        subst hu9
        clear hsl9 htk hbl0 hbl1 hbl2 hbl3 hrow hb
        go_wp2_with fail
        refine bodyPost_ret (v := .agg #[.string s, .slice a9 l.length c9]) (by simp [results, Try.results24, go_sem, r20, r21, World.cell?_setCell_same, World.cell?_setCell_other]) rfl ⟨_, rfl, ?_, ?_⟩
        · refine ⟨a9, c9, by simp [putT, putL_length], ?_⟩
          have hk9 : Sl wr (fun b => X b ∨ w.heap.size + 1 + 1 + 1 + 1 ≤ b) a9 (putL (putT x zs) z 0 l) := HSL.out
          have hk8 : Sl wr (fun b => X0 b ∨ w.heap.size ≤ b) a9 (putT x (z :: zs) ⟨s, l⟩).args := by
            refine hk9.mono fun b hb _ => ?_
            rcases hb with hb | hb
            · exact Or.inl (hXX b hb)
            · exact Or.inr (by omega)
          have hk7 : Sl wr (fun b => (X b ∨ w.heap.size + 1 + 1 + 1 + 1 ≤ b)) a9 (putT x (z :: zs) ⟨s, l⟩).args := hk9
          refine (hk7.kept fun b hb => ?_).mono fun b hb _ => ?_
          · have hne : b ≠ w.heap.size + 1 + 1 := by
              rcases hb with hb | hb
              · have := hX b hb; omega
              · omega
            rw [Below.heap_setCell _ _ _ _ (by simpa using hne), Below.heap_setCell _ _ _ _ (by simpa using hne)]
          · rcases hb with hb | hb
            · exact Or.inl (hXX b hb)
            · exact Or.inr (by omega)
        · exact (HB.out.setCell (by simp; omega) _).setCell (by simp; omega) _
#print axioms putOf_any
end Go.Proofs.Ythlgknglalcggaa
