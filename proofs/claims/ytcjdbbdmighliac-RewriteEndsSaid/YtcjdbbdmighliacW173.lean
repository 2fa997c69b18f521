/- Walks: a step is done. -/
import Derived.Test.YtcjdbbdmighliacW172
import Derived.Test.YtcjdbbdmighliacFr2
import Derived.Test.YtcjdbbdmighliacW14
import Derived.Deep.RegionHeld
import Derived.Deep.RegionHeld3
import Derived.Deep.DeepCutAuto
namespace Go.Proofs.Ytcjdbbdmighliac
open Go.RowKit
set_option linter.unusedSimpArgs false
set_option linter.unusedVariables false
set_option maxRecDepth 8000

/-- What a step makes of what stood there. -/
def outC (y : Ft) : Tm := fT y.2 y.1.r
/-- Would it be too great? -/
def isFull (t : Tm) (d : Dn) (y : Ft) : Prop := 2000 < sizeL [t] - sizeL [d.2] + sizeL [outC y]
def TkPost (w : World) (X : Nat → Prop) (t : Tm) (d : Dn) (y : Ft) (e : Ending) (w' : World) : Prop :=
  Below w.heap.size w w' ∧ ((¬ isFull t d y ∧ ∃ a' c', e = .returned (.tuple #[.agg #[.string (putT (outC y) d.1 t).name, .slice a' (putT (outC y) d.1 t).args.length c'], .int .i64 0]) ∧ Sl w' (fun b => (X b ∧ b < w.heap.size) ∨ w.heap.size ≤ b) a' (putT (outC y) d.1 t).args) ∨
    (isFull t d y ∧ e = .returned (.tuple #[.agg #[.string ⟨#[]⟩, .slice none 0 0], .int .i64 8])))

theorem size_at : ∀ (p : List Int) (t x : Tm), atT t p = some x → sizeL [x] ≤ sizeL [t]
  | [], t, x, h => by simp [atT] at h; subst h; exact Nat.le_refl _
  | i :: r, t, x, h => by
    rw [atT] at h
    split at h
    next hi =>
      have h1 := size_at r _ x h
      obtain ⟨s, l⟩ := t
      have h2 := sizeL_ge1 l i.toNat hi.2
      have e : sizeL [(⟨s, l⟩ : Tm)] = 1 + sizeL l := by simp [sizeL]
      rw [e]
      simp only at h1
      omega
    next => cases h

set_option maxHeartbeats 2000000 in
theorem take_step (d : Dn) (y : Ft) (t : Tm) (ua xa ra aa : Option Addr) (uc xc rc ca q : Nat) (Lm : List (ByteArray × Value)) (w : World) (X Z : Nat → Prop) (hp : PV w Z (.slice ua d.1.length uc) d.1) (hx : Sl w Z xa d.2.args) (hr : Sl w Z ra y.1.r.args) (hen : EnvR w q Z y.2 Lm) (hs : Sl w X aa t.args) (hat : atT t d.1 = some d.2) (hz : sizeL [t] ≤ 2000) :
    Calls Try.prog 83 #[.agg #[.slice ua d.1.length uc, .string d.2.name, .slice xa d.2.args.length xc, .string y.1.r.name, .slice ra y.1.r.args.length rc, .map (some q)], .agg #[.string t.name, .slice aa t.args.length ca]] w fun e w' => TkPost w X t d y e w' := by
  have hmf : ∀ (fn : Fn) (first cap : Array Value) (w : World), (Instr.makeFunc fn first cap).run Try.prog w = .ok (.func fn first cap) w := fun _ _ _ _ => rfl
  have hzx := size_at _ _ _ hat
  have HP := hide hp
  have HX := hide hx
  have HR := hide hr
  have HEN := hide hen
  have HS := hide hs
  have HAT : Hid ((atT t d.1).isSome = true) := by unfold Hid; rw [hat]; rfl
  clear hp hx hr hen hs hat
  have hB3 : Below w.heap.size w (((w.alloc (.cells #[.slice ua d.1.length uc, .string d.2.name, .slice xa d.2.args.length xc, .string y.1.r.name, .slice ra y.1.r.args.length rc, .map (some q)] 119)).alloc (.cells #[.string t.name, .slice aa t.args.length ca] 25)).alloc (.cells #[.string ⟨#[]⟩, .slice none 0 0] 25)) := below3 _ _ _
  have hz3 : (((w.alloc (.cells #[.slice ua d.1.length uc, .string d.2.name, .slice xa d.2.args.length xc, .string y.1.r.name, .slice ra y.1.r.args.length rc, .map (some q)] 119)).alloc (.cells #[.string t.name, .slice aa t.args.length ca] 25)).alloc (.cells #[.string ⟨#[]⟩, .slice none 0 0] 25)).heap.size = w.heap.size + 3 := by simp
  have hC : Blk (((w.alloc (.cells #[.slice ua d.1.length uc, .string d.2.name, .slice xa d.2.args.length xc, .string y.1.r.name, .slice ra y.1.r.args.length rc, .map (some q)] 119)).alloc (.cells #[.string t.name, .slice aa t.args.length ca] 25)).alloc (.cells #[.string ⟨#[]⟩, .slice none 0 0] 25)) w.heap.size #[.slice ua d.1.length uc, .string d.2.name, .slice xa d.2.args.length xc, .string y.1.r.name, .slice ra y.1.r.args.length rc, .map (some q)] 119 := ((Blk.new w _ _).alloc _).alloc _
  have hT : Blk (((w.alloc (.cells #[.slice ua d.1.length uc, .string d.2.name, .slice xa d.2.args.length xc, .string y.1.r.name, .slice ra y.1.r.args.length rc, .map (some q)] 119)).alloc (.cells #[.string t.name, .slice aa t.args.length ca] 25)).alloc (.cells #[.string ⟨#[]⟩, .slice none 0 0] 25)) (w.heap.size + 1) #[.string t.name, .slice aa t.args.length ca] 25 := by
    have h := (Blk.new (w.alloc (.cells #[.slice ua d.1.length uc, .string d.2.name, .slice xa d.2.args.length xc, .string y.1.r.name, .slice ra y.1.r.args.length rc, .map (some q)] 119)) #[.string t.name, .slice aa t.args.length ca] 25).alloc (.cells #[.string ⟨#[]⟩, .slice none 0 0] 25)
    rw [World.size_alloc] at h
    exact h
  have hO : Blk (((w.alloc (.cells #[.slice ua d.1.length uc, .string d.2.name, .slice xa d.2.args.length xc, .string y.1.r.name, .slice ra y.1.r.args.length rc, .map (some q)] 119)).alloc (.cells #[.string t.name, .slice aa t.args.length ca] 25)).alloc (.cells #[.string ⟨#[]⟩, .slice none 0 0] 25)) (w.heap.size + 1 + 1) #[.string ⟨#[]⟩, .slice none 0 0] 25 := by
    have h := Blk.new ((w.alloc (.cells #[.slice ua d.1.length uc, .string d.2.name, .slice xa d.2.args.length xc, .string y.1.r.name, .slice ra y.1.r.args.length rc, .map (some q)] 119)).alloc (.cells #[.string t.name, .slice aa t.args.length ca] 25)) #[.string ⟨#[]⟩, .slice none 0 0] 25
    rw [World.size_alloc, World.size_alloc] at h
    exact h
  have HB3 := hide hB3
  have HC := hide hC
  have HT := hide hT
  have HO := hide hO
  clear hB3 hC hT hO
  go_enter Try.func83, Try.ntmps83
  go_upto_region 1 with fail
  generalize (((w.alloc (.cells #[.slice ua d.1.length uc, .string d.2.name, .slice xa d.2.args.length xc, .string y.1.r.name, .slice ra y.1.r.args.length rc, .map (some q)] 119)).alloc (.cells #[.string t.name, .slice aa t.args.length ca] 25)).alloc (.cells #[.string ⟨#[]⟩, .slice none 0 0] 25)) = W at *
  go_cut [6] (fun v wc => v = .int .i64 ((sizeL [t] : Int) - sizeL [d.2]) ∧ Below W.heap.size W wc)
  case first =>
    have hw1 : IntKind.i64.wrap ((sizeL [t] : Int) - sizeL [d.2]) = (sizeL [t] : Int) - sizeL [d.2] := by rw [IntKind.wrap_i64]; omega
    have BD : Hid (Below W.heap.size W W.drew) := below_drewN (Below.refl _ _) 1
    refine wp_region_held_drew (S := fun w' => Below W.heap.size W w') (by kernel_rfl) BD.out (fun hHeld => ?_)
    refine wpAnyH_take (i := 0) (v := ?_) rfl (by kernel_rfl) (by kernel_rfl) (by kernel_rfl) (fun _ _ _ h => h) (Or.inl ⟨by rfl, ?_⟩) (by assumption) ?_
    rotate_left
    · intro w' hSw
      have c0 : w'.cell? ⟨w.heap.size + 1, 0, none⟩ = some (.string t.name) := (HT.out.below hSw HT.out.lt).cell 0
      have c1 : w'.cell? ⟨w.heap.size + 1, 1, none⟩ = some (.slice aa t.args.length ca) := (HT.out.below hSw HT.out.lt).cell 1
      go_simp <;> with_reducible rfl
    try simp only [Act.put, List.setIfInBounds_toArray, List.set_cons_zero, List.set_cons_succ, List.getElem_toArray, List.getElem_cons_succ, List.getElem_cons_zero]
    refine wpAnyH_take (i := 2) (v := ?_) rfl (by kernel_rfl) (by kernel_rfl) (by kernel_rfl) (fun _ _ _ h => h) (Or.inl ⟨by rfl, ?_⟩) (by assumption) ?_
    rotate_left
    · intro w' hSw
      go_simp <;> with_reducible rfl
    try simp only [Act.put, List.setIfInBounds_toArray, List.set_cons_zero, List.set_cons_succ, List.getElem_toArray, List.getElem_cons_succ, List.getElem_cons_zero]
    refine wpAnyH_take (i := 3) (v := ?_) rfl (by kernel_rfl) (by kernel_rfl) (by kernel_rfl) (fun _ _ _ h => h) (Or.inl ⟨by rfl, ?_⟩) (by assumption) ?_
    rotate_left
    · intro w' hSw
      have c0 : w'.cell? ⟨w.heap.size, 1, none⟩ = some (.string d.2.name) := (HC.out.below hSw HC.out.lt).cell 1
      have c1 : w'.cell? ⟨w.heap.size, 2, none⟩ = some (.slice xa d.2.args.length xc) := (HC.out.below hSw HC.out.lt).cell 2
      go_simp <;> with_reducible rfl
    try simp only [Act.put, List.setIfInBounds_toArray, List.set_cons_zero, List.set_cons_succ, List.getElem_toArray, List.getElem_cons_succ, List.getElem_cons_zero]
    generalize W.drew = wd at *
    refine wpAnyH_ready (rs := [1]) (by kernel_rfl) (by simp) ?_
    refine AllReadyH.cons rfl (fun K hK => ?_) AllReadyH.nil
    go_simp
    go_at_call 89
    refine (count_any 2000 (by omega) (by omega) t _ _ _ ⟨aa, ca, rfl, (HS.out.later HB3.out).later BD.out⟩).mono ?_
    rintro e v1 ⟨rfl, hb⟩
    have Bv1 := hide (BD.out.trans (hb.mono BD.out.size))
    clear hb
    have em : min (sizeL [t] : Int) (2000 + 1) = sizeL [t] := by omega
    rw [em]
    clear em
    go_simp
    refine hK.out _ _ (by exact Bv1.out) (fun hHeld => ?_)
    clear hK K
    try simp only [Act.put, List.setIfInBounds_toArray, List.set_cons_zero, List.set_cons_succ, List.getElem_toArray, List.getElem_cons_succ, List.getElem_cons_zero]
    refine wpAnyH_ready (rs := [4]) (by kernel_rfl) (by simp) ?_
    refine AllReadyH.cons rfl (fun K hK => ?_) AllReadyH.nil
    go_simp
    go_at_call 89
    refine (count_any 2000 (by omega) (by omega) d.2 _ _ _ ⟨xa, xc, rfl, (HX.out.later HB3.out).later Bv1.out⟩).mono ?_
    rintro e v2 ⟨rfl, hb⟩
    have Bv2 := hide (Bv1.out.trans (hb.mono Bv1.out.size))
    clear hb
    have em : min (sizeL [d.2] : Int) (2000 + 1) = sizeL [d.2] := by omega
    rw [em]
    clear em
    go_simp
    refine hK.out _ _ (by exact Bv2.out) (fun hHeld => ?_)
    clear hK K
    try simp only [Act.put, List.setIfInBounds_toArray, List.set_cons_zero, List.set_cons_succ, List.getElem_toArray, List.getElem_cons_succ, List.getElem_cons_zero]
    refine wpAnyH_take (i := 5) (v := ?_) rfl (by kernel_rfl) (by kernel_rfl) (by kernel_rfl) (fun _ _ _ h => h) (Or.inl ⟨by rfl, ?_⟩) (by assumption) ?_
    rotate_left
    · intro w' hSw
      go_simp <;> with_reducible rfl
    try simp only [Act.put, List.setIfInBounds_toArray, List.set_cons_zero, List.set_cons_succ, List.getElem_toArray, List.getElem_cons_succ, List.getElem_cons_zero]
    refine wpAnyH_take (i := 6) (v := ?_) rfl (by kernel_rfl) (by kernel_rfl) (by kernel_rfl) (fun _ _ _ h => h) (Or.inl ⟨by rfl, ?_⟩) (by assumption) ?_
    rotate_left
    · intro w' hSw
      go_simp <;> with_reducible rfl
    try simp only [Act.put, List.setIfInBounds_toArray, List.set_cons_zero, List.set_cons_succ, List.getElem_toArray, List.getElem_cons_succ, List.getElem_cons_zero]
    refine wpAnyH_done (by kernel_rfl) ?_ _
    go_wp2_with fail
    go_meet
    exact ⟨rfl, Bv2.out⟩
  case rest =>
    obtain ⟨rfl, hb⟩ := hcut
    have HB := hide (HB3.out.trans (hb.mono HB3.out.size))
    have C1 := hide (HC.out.below hb HC.out.lt)
    have T1 := hide (HT.out.below hb HT.out.lt)
    have O1 := hide (HO.out.below hb HO.out.lt)
    clear hb
    obtain ⟨n, hn⟩ : ∃ n : Nat, n + (sizeL [t] - sizeL [d.2]) = 2000 := ⟨2000 - (sizeL [t] - sizeL [d.2]), by omega⟩
    have e1 : (2000 : Int) - ((sizeL [t] : Int) - sizeL [d.2]) = (n : Int) := by omega
    have hw2 : IntKind.i64.wrap (2000 - ((sizeL [t] : Int) - sizeL [d.2])) = (n : Int) := by rw [IntKind.wrap_i64]; omega
    have hnb : (n : Int) ≤ 2000 := by omega
    have HFUL : Hid (isFull t d y ↔ n < sizeL [outC y]) := by unfold Hid isFull; omega
    have c0 : wc.cell? ⟨w.heap.size, 3, none⟩ = some (.string y.1.r.name) := C1.out.cell 3
    have c1 : wc.cell? ⟨w.heap.size, 4, none⟩ = some (.slice ra y.1.r.args.length rc) := C1.out.cell 4
    have c2 : wc.cell? ⟨w.heap.size, 5, none⟩ = some (.map (some q)) := C1.out.cell 5
    go_wp2_with fail
    refine (fillR_any q y.1.r.args.length rc y.1.r.name ra y.2 Lm y.1.r n ra rc wc Z (by omega) (HR.out.later HB.out) (HEN.out.later HB.out)).mono ?_
    rintro e w9 ⟨hb9, ⟨hle, a9, c9, rfl, hs9⟩ | ⟨hgt, rfl⟩⟩
    · have HB9 := hide (HB.out.trans (hb9.mono HB.out.size))
      have C9 := hide (C1.out.below hb9 C1.out.lt)
      have T9 := hide (T1.out.below hb9 T1.out.lt)
      have O9 := hide (O1.out.below hb9 O1.out.lt)
      have HS9 := hide hs9
      have HLE := hide hle
      have hzw := hb9.size
      have hzc : w.heap.size + 3 ≤ wc.heap.size := by have := O1.out.lt; have := HB.out.size; omega
      clear hb9 hs9 hle c0 c1 c2
      have t0 : ∀ o, (w9.alloc o).cell? ⟨w.heap.size + 1, 0, none⟩ = some (.string t.name) := fun o => (T9.out.alloc o).cell 0
      have t1 : ∀ o, (w9.alloc o).cell? ⟨w.heap.size + 1, 1, none⟩ = some (.slice aa t.args.length ca) := fun o => (T9.out.alloc o).cell 1
      have p0 : ∀ o, (w9.alloc o).cell? ⟨w.heap.size, 0, none⟩ = some (.slice ua d.1.length uc) := fun o => (C9.out.alloc o).cell 0
      go_wp2_with fail
      refine (kputY_any (outC y) d.1 t _ _ _ _ (fun b => (X b ∧ b < w.heap.size) ∨ wc.heap.size ≤ b) (fun b => Z b ∧ b < w.heap.size) ⟨aa, ca, rfl, ((HS.out.mono (Y := fun b => X b ∧ b < w.heap.size) fun b h1 h2 => ⟨h1, h2⟩).later (HB9.out.alloc HB9.out.size _)).mono fun b hb _ => Or.inl hb⟩ ((HP.out.mono (Y := fun b => Z b ∧ b < w.heap.size) fun b h1 h2 => ⟨h1, h2⟩).later (HB9.out.alloc HB9.out.size _)) ⟨a9, c9, rfl, (HS9.out.later ((Below.refl _ _).alloc (Nat.le_refl _) _)).mono fun b hb _ => Or.inr hb⟩ HAT.out (by omega)).mono ?_
      rintro e v1 ⟨v', rfl, ⟨aF, cF, rfl, hsF⟩, hbF⟩
      have HBF := hide ((HB9.out.alloc HB9.out.size (.cells #[.string (outC y).name, .slice a9 (outC y).args.length c9] 25)).trans (hbF.mono (by have := HB9.out.size; simp; omega)))
      have OF := hide ((O9.out.alloc (.cells #[.string (outC y).name, .slice a9 (outC y).args.length c9] 25)).below hbF (by have := O9.out.lt; simp; omega))
      have HSF := hide hsF
      have hzF := hbF.size
      clear hsF hbF t0 t1 p0
      have r0 : v1.cell? ⟨w.heap.size + 1 + 1, 0, none⟩ = some (.string ⟨#[]⟩) := OF.out.cell 0
      have r1 : v1.cell? ⟨w.heap.size + 1 + 1, 1, none⟩ = some (.slice none 0 0) := OF.out.cell 1
      have rf := OF.out.frozen
      have hOl : w.heap.size + 1 + 1 < v1.heap.size := OF.out.lt
      go_wp2_with fail
      refine bodyPost_ret (v := .tuple #[.agg #[.string (putT (outC y) d.1 t).name, .slice aF (putT (outC y) d.1 t).args.length cF], .int .i64 0]) (by simp [results, Try.results83, go_sem, World.cell?_setCell_same, World.cell?_setCell_other, r0, r1, hOl]) rfl ?_
      refine ⟨(HBF.out.setCell (by simp; omega) _).setCell (by simp; omega) _, Or.inl ⟨fun h => by have := HFUL.out.1 h; have := HLE.out; unfold outC at *; omega, aF, cF, rfl, (HSF.out.kept fun b hb => ?_).mono fun b hb _ => ?_⟩⟩
      · have hbn : b ≠ w.heap.size + 1 + 1 := by
          rcases hb with ⟨(h | h), _⟩ | h
          · have := h.2; omega
          · omega
          · simp at h; omega
        rw [Below.heap_setCell _ _ _ _ (by simpa using hbn), Below.heap_setCell _ _ _ _ (by simpa using hbn)]
      · rcases hb with ⟨(h | h), _⟩ | h
        · exact Or.inl h
        · right; omega
        · right; simp at h; omega
    · have HB9 := hide (HB.out.trans (hb9.mono HB.out.size))
      have O9 := hide (O1.out.below hb9 O1.out.lt)
      have HGT := hide hgt
      clear hb9 hgt c0 c1 c2
      have r0 : w9.cell? ⟨w.heap.size + 1 + 1, 0, none⟩ = some (.string ⟨#[]⟩) := O9.out.cell 0
      have r1 : w9.cell? ⟨w.heap.size + 1 + 1, 1, none⟩ = some (.slice none 0 0) := O9.out.cell 1
      have rf := O9.out.frozen
      have hOl : w.heap.size + 1 + 1 < w9.heap.size := O9.out.lt
      go_wp2_with fail
      refine bodyPost_ret (v := .tuple #[.agg #[.string ⟨#[]⟩, .slice none 0 0], .int .i64 8]) (by simp [results, Try.results83, go_sem, World.cell?_setCell_same, World.cell?_setCell_other, r0, r1, hOl, World.cell?_alloc_old]) rfl ?_
      exact ⟨by first | exact ((HB9.out.setCell (by simp; omega) _).setCell (by simp; omega) _).alloc (by have := HB9.out.size; simp [World.setCell]; omega) _ | exact ((HB9.out.alloc HB9.out.size _).setCell (by simp; omega) _).setCell (by simp; omega) _, Or.inr ⟨HFUL.out.2 HGT.out, rfl⟩⟩
#print axioms take_step
end Go.Proofs.Ytcjdbbdmighliac
