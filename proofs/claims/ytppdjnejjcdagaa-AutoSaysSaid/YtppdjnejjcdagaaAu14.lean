/- Walks: is a term accepted, as the document says? -/
import Derived.Test.YtppdjnejjcdagaaAu13
namespace Go.Proofs.Ytppdjnejjcdagaa
open Go.RowKit
set_option linter.unusedSimpArgs false
set_option linter.unusedVariables false
set_option maxRecDepth 8000

/-- These cells are these rows of answers. -/
def RowTB (w : World) (X : Nat → Prop) : List (List Bool) → List Value → Prop
  | [], xs => xs = []
  | l :: r, xs => ∃ a c q, xs = .slice a l.length c :: q ∧ LV Value.bool w X (.slice a l.length c) l ∧ RowTB w X r q
theorem RowTB.append {w : World} {X : Nat → Prop} : ∀ {l k : List (List Bool)} {xs ys : List Value}, RowTB w X l xs → RowTB w X k ys → RowTB w X (l ++ k) (xs ++ ys)
  | [], k, xs, ys, h, h' => by simp [RowTB] at h; subst h; simpa using h'
  | t :: l, k, xs, ys, h, h' => by
    obtain ⟨a, c, r, rfl, hs, h⟩ := h
    exact ⟨a, c, r ++ ys, rfl, hs, RowTB.append h h'⟩
theorem RowTB.imp {w w' : World} {X Y : Nat → Prop} (hs : ∀ v (l : List Bool), LV Value.bool w X v l → LV Value.bool w' Y v l) : ∀ {l : List (List Bool)} {xs : List Value}, RowTB w X l xs → RowTB w' Y l xs
  | [], xs, h => h
  | t :: l, xs, h => by
    obtain ⟨a, c, r, e, h1, h⟩ := h
    exact ⟨a, c, r, e, hs _ _ h1, RowTB.imp hs h⟩
theorem RowTB.get {w : World} {X : Nat → Prop} : ∀ {l : List (List Bool)} {xs : List Value}, RowTB w X l xs → ∀ (k : Nat) (h : k < l.length), ∃ a c, xs[k]? = some (.slice a l[k].length c) ∧ LV Value.bool w X (.slice a l[k].length c) l[k]
  | t :: l, xs, h, 0, _ => by
    obtain ⟨a, c, r, rfl, hs, _⟩ := h
    exact ⟨a, c, rfl, hs⟩
  | t :: l, xs, h, k + 1, hk => by
    obtain ⟨a, c, r, rfl, _, h⟩ := h
    obtain ⟨a', c', h1, h2⟩ := RowTB.get h k (by simpa using hk)
    exact ⟨a', c', by simpa using h1, by simpa using h2⟩
structure RowB (w : World) (N : Nat) (v : Value) (l : List (List Bool)) (xs : List Value) : Prop where
  own : w.ownsRow N 52 1 v l.length xs
  row : RowTB w (fun b => N ≤ b ∧ some b ≠ v.ownBlock) l xs
theorem RowB.below {w w' : World} {N : Nat} {v : Value} {l : List (List Bool)} {xs : List Value} (h : RowB w N v l xs) (hb : Below w.heap.size w w') : RowB w' N v l xs :=
  ⟨owns_keptA h.own fun b e => hb.block b (h.own.lt b e).2, h.row.imp fun v l hl => hl.later hb⟩
theorem rowB_push {W : World} {N P : Nat} {v : Value} {l : List (List Bool)} {xs : List Value} {t : List Bool} {a : Option Addr} {c : Nat} (h : RowB W N v l xs) (hN : N ≤ W.heap.size) (hP : Blk W P #[.slice a t.length c] 52) (hs : LV Value.bool W (fun b => N ≤ b ∧ some b ≠ v.ownBlock) (.slice a t.length c) t) (hl : l.length ≤ 100000) :
    ∃ g n cap W1 ys, (Builtin.append_ #[74, 74] 74 #[v, .slice (some ⟨P, 0, none⟩) 1 1]).run Try.prog W = .ok (.slice (some ⟨g, 0, none⟩) n cap) W1 ∧ RowB W1 N (.slice (some ⟨g, 0, none⟩) n cap) (l ++ [t]) ys ∧ W.grownBy W1 v.ownBlock := by
  obtain ⟨i0, hi, hz0, hz1, hz2⟩ := info_parts infoBsA
  have hlt := h.own.lt
  obtain ⟨g, cap, W1, hr, ho, hg, hat, hgl⟩ := run_append_lies (P := Try.prog) (w := W) 74 74 N 52 i0 _ 1 24 Try.underlying74 hi hz0 hz1 hz2 rfl (by decide) v l.length xs h.own
    ⟨P, 0, none⟩ 1 1 [.slice a t.length c] rfl (fun j u hj => by
      rw [add_at, hP.cell j]
      simpa using hj) (fun u hu => by simp at hu; subst hu; rfl) (by decide) (by unfold maxLen; omega) (by omega) hN _ rfl
  have key : ∀ u (k : List Bool), LV Value.bool W (fun b => N ≤ b ∧ some b ≠ v.ownBlock) u k → LV Value.bool W1 (fun b => N ≤ b ∧ some b ≠ (Value.slice (some ⟨g, 0, none⟩) (l.length + 1) cap).ownBlock) u k := fun u k hk => by
    have h1 : LV Value.bool W (fun b => (N ≤ b ∧ some b ≠ v.ownBlock) ∧ b < W.heap.size) u k := hk.mono fun b h1 h2 => ⟨h1, h2⟩
    refine (h1.kept fun b hx => hg.block b hx.2 hx.1.2).mono fun b hx _ => ⟨hx.1.1, fun e => ?_⟩
    simp [Value.ownBlock] at e
    rcases hat with e' | e'
    · exact hx.1.2 (by rw [e', e])
    · omega
  exact ⟨g, _, cap, W1, _, hr, ⟨by simpa using ho, RowTB.append (h.row.imp key) ⟨a, c, [], rfl, key _ _ hs, rfl⟩⟩, hg⟩
theorem RowB.bls {w : World} {N : Nat} {v : Value} {l : List (List Bool)} {xs : List Value} (h : RowB w N v l xs) : BLs w (fun _ => True) v l := by
  have hml : l.length ≤ 9223372036854775807 := by
    rcases h.own.2 with ⟨_, h0⟩ | ⟨g, cap, cur, _, _, _, h1, h2, _⟩
    · omega
    · unfold maxLen at h2; omega
  by_cases h0 : 0 < l.length
  · obtain ⟨g, cap, rfl, hg, hlt, hc⟩ := owned_val h.own h0
    refine ⟨_, _, rfl, hml, Or.inr ⟨g, 0, rfl, fun i hi => ?_⟩⟩
    obtain ⟨a, c, h1, h2⟩ := h.row.get i hi
    rw [Nat.zero_add]
    exact ⟨a, c, hc _ _ h1, h2.mono fun _ _ _ => trivial⟩
  · have e : l = [] := List.length_eq_zero_iff.1 (by omega)
    subst e
    rcases h.own.2 with ⟨hv, _⟩ | ⟨g, cap, cur, hv, _⟩
    · exact ⟨none, 0, hv, hml, Or.inl rfl⟩
    · exact ⟨_, _, hv, hml, Or.inl rfl⟩
theorem endsL_take {ms : List Mv} {n : Nat} {l : List Tm} {k : Nat} (h : k < l.length) : endsL ms n (l.take (k + 1)) = endsL ms n (l.take k) ++ [edgT ms n l[k].name (endsL ms n l[k].args)] := by
  rw [endsL_map, endsL_map, List.take_succ_eq_append_getElem h, List.map_append]
  rfl
theorem args_small {t y : Tm} (h : y ∈ t.args) (hz : sizeL [t] ≤ 200) : sizeL [y] ≤ 200 := by
  obtain ⟨s, l⟩ := t
  simp only [sizeL] at hz
  obtain ⟨p, q, rfl⟩ := List.append_of_mem h
  rw [sizeL_append, show y :: q = [y] ++ q from rfl, sizeL_append] at hz
  omega
theorem args_len {t : Tm} (hz : sizeL [t] ≤ 200) : t.args.length ≤ 200 := by
  obtain ⟨s, l⟩ := t
  have h : ∀ l : List Tm, l.length ≤ sizeL l := by
    intro l
    induction l with
    | nil => simp
    | cons a r ih => obtain ⟨s, k⟩ := a; simp only [List.length_cons, sizeL]; omega
  simp only [sizeL] at hz
  have := h l
  show l.length ≤ 200
  omega

set_option maxHeartbeats 4000000 in
theorem endsIn_any (A : Au) {S M : Nat} (hS : S ≤ 64) (hM : M ≤ 100000) (hA : OkAu S M A) (nn : Nat) (hn : A.st = (nn : Int)) (t : Tm) : ∀ (va vt : Value) (w : World) (X : Nat → Prop), sizeL [t] ≤ 200 → AV w X va A → TV w X vt t →
    Calls Try.prog 21 #[va, vt] w fun e w' => ∃ a c, e = .returned (.slice a nn c) ∧ LV Value.bool w' (fun b => w.heap.size ≤ b) (.slice a nn c) (endT A t) ∧ Below w.heap.size w w' := by
  induction t using Tm.ind with
  | h s l ih =>
    intro va vt w X hsz hva hvt
    have IH : Hid (∀ y : Tm, y ∈ l → ∀ (va vt : Value) (w : World) (X : Nat → Prop), AV w X va A → TV w X vt y → Calls Try.prog 21 #[va, vt] w fun e w' => ∃ a c, e = .returned (.slice a nn c) ∧ LV Value.bool w' (fun b => w.heap.size ≤ b) (.slice a nn c) (endT A y) ∧ Below w.heap.size w w') := fun y hy va vt w X h1 h2 => ih y hy va vt w X (args_small (t := ⟨s, l⟩) hy hsz) h1 h2
    have hl100 : l.length ≤ 200 := args_len (t := ⟨s, l⟩) hsz
    have HAV := hide hva
    obtain ⟨am, cm, al, cl, rfl, _, _⟩ := hva
    obtain ⟨at0, ct, rfl, hsl⟩ := hvt
    have hll := hsl.1
    simp only at hll
    have HNT : Hid (A.st.toNat = nn) := by unfold Hid; omega
    generalize hW : ((w.alloc (.cells #[.int .i64 A.st, .slice am A.mv.length cm, .slice al A.la.length cl] 25)).alloc (.cells #[.string s, .slice at0 l.length ct] 28)) = w2
    have B2 : Hid (Below w.heap.size w w2) := by unfold Hid; rw [← hW]; exact ((Below.refl _ _).alloc (Nat.le_refl _) _).alloc (by simp) _
    have A2 : Hid (Blk w2 w.heap.size #[.int .i64 A.st, .slice am A.mv.length cm, .slice al A.la.length cl] 25) := by unfold Hid; rw [← hW]; exact (Blk.new w _ _).alloc _
    have T2 : Hid (Blk w2 (w.heap.size + 1) #[.string s, .slice at0 l.length ct] 28) := by
      unfold Hid; rw [← hW]
      have h := Blk.new (w.alloc (.cells #[.int .i64 A.st, .slice am A.mv.length cm, .slice al A.la.length cl] 25)) #[.string s, .slice at0 l.length ct] 28
      rw [World.size_alloc] at h
      exact h
    have HW := hide hW
    have SL2 := hide (hsl.later B2.out)
    have HA := hide hA
    have HN := hide hn
    clear hW hsl hA hn ih hsz
    go_enter Try.func21, Try.ntmps21
    go_upto_region 1 with fail
    rw [HW.out]
    clear HW
    obtain ⟨T, hT⟩ : ∃ T, T = w.heap.size + 1 := ⟨_, rfl⟩
    rw [← hT] at T2 ⊢
    clear hT
    have t1 : w2.cell? ⟨T, 1, none⟩ = some (.slice at0 l.length ct) := T2.out.cell 1
    have tl := T2.out.lt
    go_wp2_with fail
    go_loopw [5, 6] (fun q i wr => ∃ (k : Nat) (xs : List Value), k ≤ l.length ∧ i = .int .i64 (k : Int) ∧ RowB wr w2.heap.size q (endsL A.mv nn (l.take k)) xs ∧ Below w2.heap.size w2 wr) (fun q i wr => l.length - (intOf i).toNat)
    case atStart => exact ⟨0, [], Nat.zero_le _, rfl, ⟨by simpa [endsL] using World.ownsRow_nil _ _ _ _, by simp [endsL, RowTB]⟩, Below.refl _ _⟩
    case round =>
      obtain ⟨k, xs, hk, rfl, hrow, hb3⟩ := hrel
      obtain ⟨w3, rfl⟩ : ∃ w3, w3 = wr := ⟨_, rfl⟩
      have HROW := hide hrow
      have HB3 := hide hb3
      have HN3 := hide hb3.size
      have T3 := hide (T2.out.below hb3 T2.out.lt)
      have A3 := hide (A2.out.below hb3 A2.out.lt)
      obtain ⟨qa, qc, hq, _⟩ := hrow.bls
      obtain ⟨qn, hqn⟩ : ∃ qn, qn = (endsL A.mv nn (l.take k)).length := ⟨_, rfl⟩
      rw [← hqn] at hq
      subst hq
      have HQN := hide hqn
      clear hqn
      clear t1 tl
      have t0 : w3.cell? ⟨T, 0, none⟩ = some (.string s) := T3.out.cell 0
      have t1 : w3.cell? ⟨T, 1, none⟩ = some (.slice at0 l.length ct) := T3.out.cell 1
      have tl := T3.out.lt
      by_cases hlt : k < l.length
      · have hki : (k : Int) < (l.length : Int) := by omega
        obtain ⟨b, o, ay, cy, rfl, d0, d1, hy⟩ := SL2.out.get (Below.refl w2.heap.size w2) (fun b _ h => h) k hlt
        obtain ⟨y, hyy⟩ : ∃ y, y = l[k] := ⟨_, rfl⟩
        have HYM : Hid (y ∈ l) := by unfold Hid; rw [hyy]; exact List.getElem_mem hlt
        have HST : Hid (endsL A.mv nn (l.take (k + 1)) = endsL A.mv nn (l.take k) ++ [endT A y]) := by unfold Hid endT; rw [hyy, HNT.out]; exact endsL_take hlt
        have HTL : Hid ((endT A y).length = nn) := by unfold Hid endT; rw [edgT_len, HNT.out]
        have HLE : Hid ((endsL A.mv nn (l.take k)).length ≤ 100000) := by unfold Hid; rw [endsL_len, List.length_take]; omega
        rw [← hyy] at d0 d1 hy
        have KP2 : Hid (∀ w', Below w2.heap.size w2 w' → w'.cell? ⟨w.heap.size, 0, none⟩ = some (.int .i64 A.st) ∧ w'.cell? ⟨w.heap.size, 1, none⟩ = some (.slice am A.mv.length cm) ∧ w'.cell? ⟨w.heap.size, 2, none⟩ = some (.slice al A.la.length cl) ∧ w'.cell? ⟨T, 1, none⟩ = some (.slice (some ⟨b, o, none⟩) l.length ct) ∧ w'.cell? ⟨b, o + k * 2, none⟩ = some (.string y.name) ∧ w'.cell? ⟨b, o + k * 2 + 1, none⟩ = some (.slice ay y.args.length cy)) := fun w' hb => ⟨(A2.out.below hb A2.out.lt).cell 0, (A2.out.below hb A2.out.lt).cell 1, (A2.out.below hb A2.out.lt).cell 2, (T2.out.below hb T2.out.lt).cell 1, (hb.cell (p := ⟨b, o + k * 2, none⟩) (cell_ltA d0)).trans d0, (hb.cell (p := ⟨b, o + k * 2 + 1, none⟩) (cell_ltA d1)).trans d1⟩
        have KP : Hid (∀ w', Below w3.heap.size w3 w' → w'.cell? ⟨w.heap.size, 0, none⟩ = some (.int .i64 A.st) ∧ w'.cell? ⟨w.heap.size, 1, none⟩ = some (.slice am A.mv.length cm) ∧ w'.cell? ⟨w.heap.size, 2, none⟩ = some (.slice al A.la.length cl) ∧ w'.cell? ⟨T, 1, none⟩ = some (.slice (some ⟨b, o, none⟩) l.length ct) ∧ w'.cell? ⟨b, o + k * 2, none⟩ = some (.string y.name) ∧ w'.cell? ⟨b, o + k * 2 + 1, none⟩ = some (.slice ay y.args.length cy)) := fun w' hb => KP2.out w' (HB3.out.trans (hb.mono HB3.out.size))
        have VA : Hid (∀ w', Below w3.heap.size w3 w' → AV w' X (.agg #[.int .i64 A.st, .slice am A.mv.length cm, .slice al A.la.length cl]) A) := fun w' hb => HAV.out.later (B2.out.trans ((HB3.out.trans (hb.mono HB3.out.size)).mono B2.out.size))
        have VY : Hid (∀ w', Below w3.heap.size w3 w' → TV w' X (.agg #[.string y.name, .slice ay y.args.length cy]) y) := fun w' hb => hy.later (HB3.out.trans (hb.mono HB3.out.size))
        have k3d : Below w3.heap.size w3 w3.drew := (Below.refl _ _).drew
        have HS5 := hide (KP.out _ k3d)
        have hbl3 : b < w3.heap.size := Nat.lt_of_lt_of_le (cell_ltA d0) HB3.out.size
        have al3 := A3.out.lt
        clear hyy d0 d1 hy hrow hb3 t0
        go_upto_region 5 with fail
        clear t1
        refine wp_region_held_drew (S := (fun w' => w'.cell? ⟨w.heap.size, 0, none⟩ = some (.int .i64 A.st) ∧ w'.cell? ⟨w.heap.size, 1, none⟩ = some (.slice am A.mv.length cm) ∧ w'.cell? ⟨w.heap.size, 2, none⟩ = some (.slice al A.la.length cl) ∧ w'.cell? ⟨T, 1, none⟩ = some (.slice (some ⟨b, o, none⟩) l.length ct) ∧ w'.cell? ⟨b, o + k * 2, none⟩ = some (.string y.name) ∧ w'.cell? ⟨b, o + k * 2 + 1, none⟩ = some (.slice ay y.args.length cy))) (by kernel_rfl) HS5.out (fun hHeld => ?_)
        refine wpAnyH_take (i := 0) (v := ?_) rfl (by kernel_rfl) (by kernel_rfl) (by kernel_rfl) (fun _ _ _ h => h) (Or.inl ⟨by rfl, ?_⟩) (by assumption) ?_
        rotate_left
        · intro w' hSw
          go_simp <;> with_reducible rfl
        try simp only [Act.put, List.setIfInBounds_toArray, List.set_cons_zero, List.set_cons_succ, List.getElem_toArray, List.getElem_cons_succ, List.getElem_cons_zero]
        refine wpAnyH_take (i := 1) (v := ?_) rfl (by kernel_rfl) (by kernel_rfl) (by kernel_rfl) (fun _ _ _ h => h) (Or.inl ⟨by rfl, ?_⟩) (by assumption) ?_
        rotate_left
        · intro w' hSw
          obtain ⟨e0, e1, e2, e3, e4, e5⟩ := hSw
          go_simp <;> with_reducible rfl
        try simp only [Act.put, List.setIfInBounds_toArray, List.set_cons_zero, List.set_cons_succ, List.getElem_toArray, List.getElem_cons_succ, List.getElem_cons_zero]
        refine wpAnyH_take (i := 2) (v := ?_) rfl (by kernel_rfl) (by kernel_rfl) (by kernel_rfl) (fun _ _ _ h => h) (Or.inl ⟨by rfl, ?_⟩) (by assumption) ?_
        rotate_left
        · intro w' hSw
          go_simp <;> with_reducible rfl
        try simp only [Act.put, List.setIfInBounds_toArray, List.set_cons_zero, List.set_cons_succ, List.getElem_toArray, List.getElem_cons_succ, List.getElem_cons_zero]
        refine wpAnyH_take (i := 3) (v := ?_) rfl (by kernel_rfl) (by kernel_rfl) (by kernel_rfl) (fun _ _ _ h => h) (Or.inl ⟨by rfl, ?_⟩) (by assumption) ?_
        rotate_left
        · intro w' hSw
          obtain ⟨e0, e1, e2, e3, e4, e5⟩ := hSw
          go_simp <;> with_reducible rfl
        try simp only [Act.put, List.setIfInBounds_toArray, List.set_cons_zero, List.set_cons_succ, List.getElem_toArray, List.getElem_cons_succ, List.getElem_cons_zero]
        refine wpAnyH_take (i := 4) (v := ?_) rfl (by kernel_rfl) (by kernel_rfl) (by kernel_rfl) (fun _ _ _ h => h) (Or.inl ⟨by rfl, ?_⟩) (by assumption) ?_
        rotate_left
        · intro w' hSw
          go_simp <;> with_reducible rfl
        try simp only [Act.put, List.setIfInBounds_toArray, List.set_cons_zero, List.set_cons_succ, List.getElem_toArray, List.getElem_cons_succ, List.getElem_cons_zero]
        refine wpAnyH_take (i := 5) (v := ?_) rfl (by kernel_rfl) (by kernel_rfl) (by kernel_rfl) (fun _ _ _ h => h) (Or.inl ⟨by rfl, ?_⟩) (by assumption) ?_
        rotate_left
        · intro w' hSw
          go_simp <;> with_reducible rfl
        try simp only [Act.put, List.setIfInBounds_toArray, List.set_cons_zero, List.set_cons_succ, List.getElem_toArray, List.getElem_cons_succ, List.getElem_cons_zero]
        refine wpAnyH_take (i := 6) (v := ?_) rfl (by kernel_rfl) (by kernel_rfl) (by kernel_rfl) (fun _ _ _ h => h) (Or.inl ⟨by rfl, ?_⟩) (by assumption) ?_
        rotate_left
        · intro w' hSw
          obtain ⟨e0, e1, e2, e3, e4, e5⟩ := hSw
          go_simp <;> with_reducible rfl
        try simp only [Act.put, List.setIfInBounds_toArray, List.set_cons_zero, List.set_cons_succ, List.getElem_toArray, List.getElem_cons_succ, List.getElem_cons_zero]
        refine wpAnyH_ready (rs := [7]) (by kernel_rfl) (by simp) ?_
        refine AllReadyH.cons rfl (fun K hK => ?_) AllReadyH.nil
        go_simp
        go_at_call 21
        refine (IH.out y HYM.out _ _ _ X (by exact VA.out _ k3d) (by exact VY.out _ k3d)).mono ?_
        rintro e w4 ⟨a4, c4, rfl, hl4, hb4⟩
        have k4 : Below w3.heap.size w3 w4 := k3d.trans (hb4.mono k3d.size)
        have L4 := hide hl4
        clear hl4 hb4
        go_simp
        refine hK.out _ _ (by exact KP.out _ k4) (fun hHeld => ?_)
        clear hK K
        try simp only [Act.put, List.setIfInBounds_toArray, List.set_cons_zero, List.set_cons_succ, List.getElem_toArray, List.getElem_cons_succ, List.getElem_cons_zero]
        have ka : Below w3.heap.size w3 (w4.alloc (.cells #[.slice a4 nn c4] 52)) := k4.alloc k4.size _
        have kb : Below w4.heap.size w4 (w4.alloc (.cells #[.slice a4 nn c4] 52)) := (Below.refl _ _).alloc (Nat.le_refl _) _
        obtain ⟨g, n', cap, W1, ys, hr, hrow, hg⟩ := rowB_push (P := w4.heap.size) (W := (w4.alloc (.cells #[.slice a4 nn c4] 52))) (t := endT A y) (HROW.out.below ka) (by have := HN3.out; have := ka.size; omega) (by rw [HTL.out]; exact Blk.new w4 _ _) (by rw [HTL.out]; exact (L4.out.later kb).mono fun b h1 _ => ⟨by have := HN3.out; have h2 : w3.drew.heap.size = w3.heap.size := rfl; omega, fun e => by have := (HROW.out.own.lt b e.symm).2; have h2 : w3.drew.heap.size = w3.heap.size := rfl; omega⟩) HLE.out
        have HRUN := hide hr
        have HRW := hide hrow
        have HBW : Hid (Below w2.heap.size w2 W1) := (HB3.out.trans (ka.mono HB3.out.size)).grown hg (by have := HB3.out.size; have := ka.size; omega) (fun q hq => (HROW.out.own.lt q hq).1)
        clear hr hrow hg
        refine wpAnyH_ready (rs := [8]) (by kernel_rfl) (by simp) ?_
        refine AllReadyH.cons rfl (fun K hK => ?_) AllReadyH.nil
        go_simp
        refine hK.out _ _ (by exact KP.out _ ka) (fun hHeld => ?_)
        clear hK K
        try simp only [Act.put, List.setIfInBounds_toArray, List.set_cons_zero, List.set_cons_succ, List.getElem_toArray, List.getElem_cons_succ, List.getElem_cons_zero]
        refine wpAnyH_ready (rs := [9]) (by kernel_rfl) (by simp) ?_
        refine AllReadyH.cons rfl (fun K hK => ?_) AllReadyH.nil
        refine step_append_eqM rfl _ _ _ _ rfl rfl rfl HRUN.out ?_
        refine hK.out _ _ (by exact KP2.out _ HBW.out) (fun hHeld => ?_)
        clear hK K
        try simp only [Act.put, List.setIfInBounds_toArray, List.set_cons_zero, List.set_cons_succ, List.getElem_toArray, List.getElem_cons_succ, List.getElem_cons_zero]
        refine wpAnyH_take (i := 10) (v := ?_) rfl (by kernel_rfl) (by kernel_rfl) (by kernel_rfl) (fun _ _ _ h => h) (Or.inl ⟨by rfl, ?_⟩) (by assumption) ?_
        rotate_left
        · intro w' hSw
          go_simp <;> with_reducible rfl
        try simp only [Act.put, List.setIfInBounds_toArray, List.set_cons_zero, List.set_cons_succ, List.getElem_toArray, List.getElem_cons_succ, List.getElem_cons_zero]
        refine wpAnyH_done (by kernel_rfl) ?_ _
        go_wp2_with fail
        go_roundw
        case rel => exact ⟨k + 1, ys, by omega, by go_num, by rw [HST.out]; exact HRW.out, HBW.out⟩
        case measure => simp [intOf]; omega
      · have hki : ¬ (k : Int) < (l.length : Int) := by omega
        have HTK : Hid (l.take k = l) := List.take_of_length_le (by omega)
        have HBL : Hid (BLs w3 (fun _ => True) (.slice qa qn qc) (endsL A.mv nn l)) := by have h9 := hrow.bls; rw [HTK.out] at h9; exact h9
        have HBN : Hid (∀ b ∈ endsL A.mv nn l, b.length = nn) := by
          intro b hb
          rw [endsL_map] at hb
          obtain ⟨y, _, rfl⟩ := List.mem_map.1 hb
          exact edgT_len _ _ _ _
        have HAV3 := hide ((HAV.out.later (B2.out.trans (hb3.mono B2.out.size))).mono (Y := fun _ => True) fun _ _ _ => trivial)
        have a0 : w3.cell? ⟨w.heap.size, 0, none⟩ = some (.int .i64 A.st) := A3.out.cell 0
        have a1 : w3.cell? ⟨w.heap.size, 1, none⟩ = some (.slice am A.mv.length cm) := A3.out.cell 1
        have a2 : w3.cell? ⟨w.heap.size, 2, none⟩ = some (.slice al A.la.length cl) := A3.out.cell 2
        have al3 := A3.out.lt
        clear hrow hb3
        go_wp2_with fail
        refine (ending_any A hS hM HA.out nn HN.out s (endsL A.mv nn l) HBN.out _ _ _ (fun _ => True) (by exact HAV3.out) (by exact HBL.out)).mono ?_
        rintro e w4 ⟨a4, c4, rfl, hl4, hb4⟩
        have L4 : Hid (LV Value.bool w4 (fun b => w.heap.size ≤ b) (.slice a4 nn c4) (endT A ⟨s, l⟩)) := by
          unfold Hid endT
          rw [HNT.out]
          exact hl4.mono fun b h _ => Nat.le_trans B2.out.size (Nat.le_trans HB3.out.size h)
        have HB4 := hide (B2.out.trans ((HB3.out.trans (hb4.mono HB3.out.size)).mono B2.out.size))
        clear hl4 hb4
        go_wp2_with fail
        go_ret
        exact ⟨a4, c4, rfl, L4.out, HB4.out⟩
end Go.Proofs.Ytppdjnejjcdagaa
