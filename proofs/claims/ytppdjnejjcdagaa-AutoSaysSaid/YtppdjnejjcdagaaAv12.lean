/- Walks: which of two terms is ahead, as the document says (Lighter); its rows of terms in memory. -/
import Derived.Test.YtppdjnejjcdagaaAv11
import Derived.Test.YtppdjnejjcdagaaZAutoSaysOwn
namespace Go.Proofs.Ytppdjnejjcdagaa
open Go.RowKit
set_option linter.unusedSimpArgs false
set_option linter.unusedVariables false
set_option maxRecDepth 8000

set_option maxHeartbeats 2000000 in
theorem lighter_any (t u : Tm) (ht : OkT t) (hu : OkT u) (vt vu : Value) (w : World) (X Y : Nat → Prop) (hvt : TV w X vt t) (hvu : TV w Y vu u) :
    Calls Try.prog 22 #[vt, vu] w fun e w' => e = .returned (.bool (agT t u)) ∧ Below w.heap.size w w' := by
  obtain ⟨a, c, rfl, hs⟩ := hvt
  obtain ⟨a', c', rfl, hs'⟩ := hvu
  have B2 : Hid (Below w.heap.size w ((w.alloc (.cells #[.string t.name, .slice a t.args.length c] 28)).alloc (.cells #[.string u.name, .slice a' u.args.length c'] 28))) := ((Below.refl _ _).alloc (Nat.le_refl _) _).alloc (by simp) _
  have KA : Hid (Blk ((w.alloc (.cells #[.string t.name, .slice a t.args.length c] 28)).alloc (.cells #[.string u.name, .slice a' u.args.length c'] 28)) w.heap.size #[.string t.name, .slice a t.args.length c] 28) := (Blk.new _ _ _).alloc _
  have KB : Hid (Blk ((w.alloc (.cells #[.string t.name, .slice a t.args.length c] 28)).alloc (.cells #[.string u.name, .slice a' u.args.length c'] 28)) (w.heap.size + 1) #[.string u.name, .slice a' u.args.length c'] 28) := by
    have h := Blk.new (w.alloc (.cells #[.string t.name, .slice a t.args.length c] 28)) #[.string u.name, .slice a' u.args.length c'] 28
    rw [World.size_alloc] at h
    exact h
  have VT : Hid (∀ w', Below w.heap.size w w' → TV w' X (.agg #[.string t.name, .slice a t.args.length c]) t) := fun w' hb => ⟨a, c, rfl, hs.later hb⟩
  have VU : Hid (∀ w', Below w.heap.size w w' → TV w' Y (.agg #[.string u.name, .slice a' u.args.length c']) u) := fun w' hb => ⟨a', c', rfl, hs'.later hb⟩
  have HT := hide ht
  have HU := hide hu
  clear hs hs' ht hu
  have c0 := KA.out.cell 0
  have c1 := KA.out.cell 1
  go_enter Try.func22, Try.ntmps22
  go_wp2_with fail
  generalize ((w.alloc (.cells #[.string t.name, .slice a t.args.length c] 28)).alloc (.cells #[.string u.name, .slice a' u.args.length c'] 28)) = w2 at *
  refine (size_any t _ 2000 _ _ (VT.out _ B2.out) (by omega) (by omega)).mono ?_
  rintro e w3 ⟨rfl, hb3⟩
  have B3 := hide (B2.out.trans (hb3.mono B2.out.size))
  have KA3 := hide (KA.out.below hb3 KA.out.lt)
  have KB3 := hide (KB.out.below hb3 KB.out.lt)
  have e1 : min ((sizeL [t] : Nat) : Int) (2000 + 1) = ((sizeL [t] : Nat) : Int) := by have := HT.out.sz; omega
  rw [e1]
  clear hb3 c0 c1 e1 KA KB B2
  have d0 := KB3.out.cell 0
  have d1 := KB3.out.cell 1
  go_wp2_with fail
  refine (size_any u _ 2000 _ _ (VU.out _ B3.out) (by omega) (by omega)).mono ?_
  rintro e w4 ⟨rfl, hb4⟩
  have B4 := hide (B3.out.trans (hb4.mono B3.out.size))
  have KA4 := hide (KA3.out.below hb4 KA3.out.lt)
  have KB4 := hide (KB3.out.below hb4 KB3.out.lt)
  have e2 : min ((sizeL [u] : Nat) : Int) (2000 + 1) = ((sizeL [u] : Nat) : Int) := by have := HU.out.sz; omega
  rw [e2]
  clear hb4 d0 d1 e2 KA3 KB3 B3
  by_cases he : sizeL [t] = sizeL [u]
  · have h3 : ((sizeL [t] : Int) != (sizeL [u] : Int)) = false := by simpa using (by omega : (sizeL [t] : Int) = (sizeL [u] : Int))
    have HA : Hid (agT t u = Op.bytesLess (txtL [t]) (txtL [u])) := by unfold Hid agT; rw [if_pos he]; simp [ltB, txB]
    have HLT : Hid ((txtL [t]).length ≤ 1000000) := by have := txt_len2 HT.out.err HT.out.sz; unfold Hid; omega
    have HLU : Hid ((txtL [u]).length ≤ 1000000) := by have := txt_len2 HU.out.err HU.out.sz; unfold Hid; omega
    have KP : Hid (∀ w', Below w4.heap.size w4 w' → (w'.cell? ⟨w.heap.size, 0, none⟩ = some (.string t.name) ∧ w'.cell? ⟨w.heap.size, 1, none⟩ = some (.slice a t.args.length c)) ∧ w'.cell? ⟨w.heap.size + 1, 0, none⟩ = some (.string u.name) ∧ w'.cell? ⟨w.heap.size + 1, 1, none⟩ = some (.slice a' u.args.length c')) := fun w' hb =>
      ⟨⟨(KA4.out.below hb KA4.out.lt).cell 0, (KA4.out.below hb KA4.out.lt).cell 1⟩, (KB4.out.below hb KB4.out.lt).cell 0, (KB4.out.below hb KB4.out.lt).cell 1⟩
    have UP : Hid (∀ w', Below w4.heap.size w4 w' → Below w.heap.size w w') := fun w' hb => B4.out.trans (hb.mono B4.out.size)
    have kd : Below w4.heap.size w4 w4.drew := (Below.refl _ _).drew
    clear he
    go_upto_region 5 with fail
    refine wp_region_held_drew (S := Below w4.heap.size w4) (by kernel_rfl) kd (fun hHeld => ?_)
    refine wpAnyH_take (i := 0) (v := ?_) rfl (by kernel_rfl) (by kernel_rfl) (by kernel_rfl) (fun _ _ _ h => h) (Or.inl ⟨by rfl, ?_⟩) (by assumption) ?_
    rotate_left
    · intro w' hSw
      obtain ⟨⟨x0, x1⟩, x2, x3⟩ := KP.out w' hSw
      go_simp <;> with_reducible rfl
    try simp only [Act.put, List.setIfInBounds_toArray, List.set_cons_zero, List.set_cons_succ, List.getElem_toArray, List.getElem_cons_succ, List.getElem_cons_zero]
    refine wpAnyH_take (i := 2) (v := ?_) rfl (by kernel_rfl) (by kernel_rfl) (by kernel_rfl) (fun _ _ _ h => h) (Or.inl ⟨by rfl, ?_⟩) (by assumption) ?_
    rotate_left
    · intro w' hSw
      obtain ⟨⟨x0, x1⟩, x2, x3⟩ := KP.out w' hSw
      go_simp <;> with_reducible rfl
    try simp only [Act.put, List.setIfInBounds_toArray, List.set_cons_zero, List.set_cons_succ, List.getElem_toArray, List.getElem_cons_succ, List.getElem_cons_zero]
    refine wpAnyH_ready (rs := [1]) (by kernel_rfl) (by simp) ?_
    refine AllReadyH.cons rfl (fun K hK => ?_) AllReadyH.nil
    go_simp
    go_at_call 37
    refine (show_any t _ _ _ (VT.out _ (UP.out _ kd)) HLT.out).mono ?_
    rintro e w5 ⟨rfl, hb5⟩
    have k5 : Below w4.heap.size w4 w5 := kd.trans (hb5.mono kd.size)
    clear hb5
    go_simp
    refine hK.out _ _ (by exact k5) (fun hHeld => ?_)
    clear hK K
    try simp only [Act.put, List.setIfInBounds_toArray, List.set_cons_zero, List.set_cons_succ, List.getElem_toArray, List.getElem_cons_succ, List.getElem_cons_zero]
    refine wpAnyH_ready (rs := [3]) (by kernel_rfl) (by simp) ?_
    refine AllReadyH.cons rfl (fun K hK => ?_) AllReadyH.nil
    go_simp
    go_at_call 37
    refine (show_any u _ _ _ (VU.out _ (UP.out _ k5)) HLU.out).mono ?_
    rintro e w6 ⟨rfl, hb6⟩
    have k6 : Below w4.heap.size w4 w6 := k5.trans (hb6.mono k5.size)
    clear hb6
    go_simp
    refine hK.out _ _ (by exact k6) (fun hHeld => ?_)
    clear hK K
    try simp only [Act.put, List.setIfInBounds_toArray, List.set_cons_zero, List.set_cons_succ, List.getElem_toArray, List.getElem_cons_succ, List.getElem_cons_zero]
    refine wpAnyH_take (i := 4) (v := ?_) rfl (by kernel_rfl) (by kernel_rfl) (by kernel_rfl) (fun _ _ _ h => h) (Or.inl ⟨by rfl, ?_⟩) (by assumption) ?_
    rotate_left
    · intro w' hSw
      go_simp <;> with_reducible rfl
    try simp only [Act.put, List.setIfInBounds_toArray, List.set_cons_zero, List.set_cons_succ, List.getElem_toArray, List.getElem_cons_succ, List.getElem_cons_zero]
    refine wpAnyH_take (i := 5) (v := ?_) rfl (by kernel_rfl) (by kernel_rfl) (by kernel_rfl) (fun _ _ _ h => h) (Or.inl ⟨by rfl, ?_⟩) (by assumption) ?_
    rotate_left
    · intro w' hSw
      go_simp <;> with_reducible rfl
    try simp only [Act.put, List.setIfInBounds_toArray, List.set_cons_zero, List.set_cons_succ, List.getElem_toArray, List.getElem_cons_succ, List.getElem_cons_zero]
    refine wpAnyH_done (by kernel_rfl) ?_ _
    go_wp2_with fail
    go_ret
    exact ⟨by rw [HA.out]; rfl, UP.out _ k6⟩
  · have h3 : ((sizeL [t] : Int) != (sizeL [u] : Int)) = true := by simpa using (by omega : ¬ (sizeL [t] : Int) = (sizeL [u] : Int))
    have HA : Hid (agT t u = decide (sizeL [t] < sizeL [u])) := by unfold Hid agT; rw [if_neg he]
    clear he
    go_wp2_with fail
    go_ret
    exact ⟨by rw [HA.out]; rfl, B4.out⟩
/-- These values are a term, or none. -/
def TdIs (w : World) (Y : Nat → Prop) : Option Tm → ByteArray → Option Addr → Nat → Nat → Prop
  | none, s, a, n, c => s = ⟨#[]⟩ ∧ a = none ∧ n = 0 ∧ c = 0
  | some t, s, a, n, c => s = t.name ∧ n = t.args.length ∧ Sl w Y a t.args
theorem TdIs.imp {w w' : World} {Y Z : Nat → Prop} {x : Option Tm} {s : ByteArray} {a : Option Addr} {n c : Nat} (h : TdIs w Y x s a n c) (hk : ∀ a l, Sl w Y a l → Sl w' Z a l) : TdIs w' Z x s a n c := by
  cases x with
  | none => exact h
  | some t => exact ⟨h.1, h.2.1, hk _ _ h.2.2⟩
/-- The document's two rows. -/
structure DoV (w : World) (H B : Nat) (st : Fs) : Prop where
  hv : ∃ cs : Array Value, Blk w H cs 4 ∧ ∀ (i : Nat) (h : i < st.length), cs[i]? = some (.bool st[i].isSome)
  bs : ∃ cs : Array Value, Blk w B cs 28 ∧ ∀ (i : Nat) (h : i < st.length), ∃ s a n c, cs[i * 2]? = some (.string s) ∧ cs[i * 2 + 1]? = some (.slice a n c) ∧ TdIs w (fun b => H < b ∧ B < b) st[i] s a n c
  ne : H ≠ B
theorem DoV.later {w w' : World} {H B : Nat} {st : Fs} (h : DoV w H B st) (hb : Below w.heap.size w w') : DoV w' H B st := by
  obtain ⟨⟨cs, h1, h2⟩, ⟨ds, h3, h4⟩, h5⟩ := h
  refine ⟨⟨cs, h1.below hb h1.lt, h2⟩, ⟨ds, h3.below hb h3.lt, fun i hi => ?_⟩, h5⟩
  obtain ⟨s, a, n, c, e0, e1, e2⟩ := h4 i hi
  exact ⟨s, a, n, c, e0, e1, e2.imp fun a l hs => hs.later hb⟩
theorem DoV.get {w : World} {H B : Nat} {st : Fs} (h : DoV w H B st) (i : Nat) (hi : i < st.length) : ∃ s a n c, (w.cell? ⟨H, i, none⟩ = some (.bool st[i].isSome) ∧ w.cell? ⟨B, i * 2, none⟩ = some (.string s) ∧ w.cell? ⟨B, i * 2 + 1, none⟩ = some (.slice a n c)) ∧ ((∀ j, w.frozen? ⟨H, j, none⟩ = false) ∧ (∀ j, w.frozen? ⟨B, j, none⟩ = false) ∧ H < w.heap.size ∧ B < w.heap.size) ∧ TdIs w (fun b => H < b ∧ B < b) st[i] s a n c := by
  obtain ⟨⟨cs, h1, h2⟩, ⟨ds, h3, h4⟩, h5⟩ := h
  obtain ⟨s, a, n, c, e0, e1, e2⟩ := h4 i hi
  exact ⟨s, a, n, c, ⟨(h1.cell _).trans (h2 i hi), (h3.cell _).trans e0, (h3.cell _).trans e1⟩, ⟨h1.frozen, h3.frozen, h1.lt, h3.lt⟩, e2⟩
def setD (w : World) (H B i : Nat) (s : ByteArray) (a : Option Addr) (n c : Nat) : World := ((w.setCell ⟨H, i, none⟩ (.bool true)).setCell ⟨B, i * 2, none⟩ (.string s)).setCell ⟨B, i * 2 + 1, none⟩ (.slice a n c)
theorem setD_heap {w : World} {H B i : Nat} {s : ByteArray} {a : Option Addr} {n c : Nat} {b : Nat} (h : b ≠ H) (h2 : b ≠ B) : (setD w H B i s a n c).heap[b]? = w.heap[b]? := by
  unfold setD
  rw [Below.heap_setCell _ _ _ _ (by simpa using h2), Below.heap_setCell _ _ _ _ (by simpa using h2), Below.heap_setCell _ _ _ _ (by simpa using h)]
theorem DoV.put {w : World} {H B : Nat} {st : Fs} (h : DoV w H B st) {i : Nat} (hi : i < st.length) {t : Tm} {a : Option Addr} {c : Nat} (hx : Sl w (fun b => H < b ∧ B < b) a t.args) : DoV (setD w H B i t.name a t.args.length c) H B (st.set i (some t)) := by
  obtain ⟨⟨cs, h1, h2⟩, ⟨ds, h3, h4⟩, h5⟩ := h
  have keep : ∀ a' l, Sl w (fun b => H < b ∧ B < b) a' l → Sl (setD w H B i t.name a t.args.length c) (fun b => H < b ∧ B < b) a' l := fun a' l hs => hs.kept fun b hb => setD_heap (by omega) (by omega)
  refine ⟨⟨_, ((h1.set i (.bool true)).setOther (b' := B) (i * 2) (.string t.name) h5).setOther (b' := B) (i * 2 + 1) (.slice a t.args.length c) h5, fun j hj => ?_⟩, ⟨_, ((h3.setOther (b' := H) i (.bool true) (fun e => h5 e.symm)).set (i * 2) (.string t.name)).set (i * 2 + 1) (.slice a t.args.length c), fun j hj => ?_⟩, h5⟩
  · have hj' : j < st.length := by simpa using hj
    have b0 := (Array.getElem?_eq_some_iff.1 (h2 j hj')).1
    rw [Array.getElem?_setIfInBounds]
    by_cases e : i = j
    · subst e; simp [b0]
    · rw [if_neg e, List.getElem_set_ne e]; exact h2 j hj'
  · have hj' : j < st.length := by simpa using hj
    obtain ⟨s', a', n', c', e0, e1, e2⟩ := h4 j hj'
    by_cases e : i = j
    · subst e
      have b0 := (Array.getElem?_eq_some_iff.1 e0).1
      have b1 := (Array.getElem?_eq_some_iff.1 e1).1
      refine ⟨t.name, a, t.args.length, c, ?_, ?_, ?_⟩
      · simp [Array.getElem?_setIfInBounds, b0]
      · simp [Array.getElem?_setIfInBounds, b1]
      · rw [List.getElem_set_self]; exact ⟨rfl, rfl, keep _ _ hx⟩
    · refine ⟨s', a', n', c', ?_, ?_, ?_⟩
      · rw [← e0]; simp only [Array.getElem?_setIfInBounds, Array.size_setIfInBounds]; repeat rw [if_neg (by omega)]
      · rw [← e1]; simp only [Array.getElem?_setIfInBounds, Array.size_setIfInBounds]; repeat rw [if_neg (by omega)]
      · rw [List.getElem_set_ne e]; exact e2.imp keep
theorem make_termsA (n : Nat) (hn : n ≤ 20000) (w : World) : (Instr.makeSlice 26 (.int .i64 (n : Int)) (.int .i64 (n : Int))).run Try.prog w = .ok (.slice (some ⟨w.heap.size, 0, none⟩) n n) (w.alloc (.cells (madeCells #[.string ⟨#[]⟩, .slice none 0 0] (n * 2)) 28)) := by
  obtain ⟨i0, hi, hz0, hz1, hz2⟩ := info_parts Try.infoTerm
  have hr := run_make (P := Try.prog) w 26 28 i0 _ Try.underlying26 hi hz0 .i64 .i64 n n (by omega) (by omega) (by rw [hz2]; omega) (by omega)
  rw [hz1] at hr
  simp only [Int.toNat_natCast] at hr
  exact hr
theorem DoV.start (w : World) (n : Nat) : DoV ((w.alloc (.cells (Array.replicate n (Value.bool false)) 4)).alloc (.cells (madeCells #[.string ⟨#[]⟩, .slice none 0 0] (n * 2)) 28)) w.heap.size (w.heap.size + 1) (List.replicate n none) := by
  have hB := Blk.new (w.alloc (.cells (Array.replicate n (Value.bool false)) 4)) (madeCells #[.string ⟨#[]⟩, .slice none 0 0] (n * 2)) 28
  rw [World.size_alloc] at hB
  refine ⟨⟨_, (Blk.new w (Array.replicate n (Value.bool false)) 4).alloc _, fun i hi => ?_⟩, ⟨_, hB, fun i hi => ?_⟩, by omega⟩
  · have hi' : i < n := by simpa using hi
    rw [List.getElem_replicate]
    simp [hi']
  · have hi' : i < n := by simpa using hi
    refine ⟨⟨#[]⟩, none, 0, 0, ?_, ?_, ?_⟩
    · rw [made_get _ _ _ (by omega)]
      have : i * 2 % 2 = 0 := by omega
      simp [this]
    · rw [made_get _ _ _ (by omega)]
      have : (i * 2 + 1) % 2 = 1 := by omega
      simp [this]
    · rw [List.getElem_replicate]; exact ⟨rfl, rfl, rfl, rfl⟩
end Go.Proofs.Ytppdjnejjcdagaa
