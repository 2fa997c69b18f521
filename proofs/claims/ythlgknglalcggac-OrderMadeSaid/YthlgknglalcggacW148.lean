/- The law on orders of terms made of raw numbers: it answers true. -/
import Derived.Test.YthlgknglalcggacW147
import Derived.Test.YthlgknglalcggacW100
import Derived.Test.YthlgknglalcggacW53
import Derived.Test.YthlgknglalcggacW150
import Derived.Deep.RegionHeld
import Derived.Deep.RegionHeld3
namespace Go.Proofs.Ythlgknglalcggac
open Go.RowKit
set_option linter.unusedSimpArgs false
set_option linter.unusedVariables false
set_option maxRecDepth 8000

/-- Two terms in boxes, and a row. -/
structure OmW (N P Q : Nat) (a b : Tm) (aa : Option Addr) (ca : Nat) (ab : Option Addr) (cb : Nat) (vr : Value) (row : List ByteArray) (w wr : World) : Prop where
  k1 : Blk wr P #[.string a.name, .slice aa a.args.length ca] 25
  k2 : Blk wr Q #[.string b.name, .slice ab b.args.length cb] 25
  s1 : Sl wr (fun c => c < N) aa a.args
  s2 : Sl wr (fun c => c < N) ab b.args
  rw : LV Value.string wr (fun c => c < N) vr row
  bl : Below w.heap.size w wr
  pq : P < N ∧ Q < N ∧ w.heap.size ≤ N
theorem OmW.later {N P Q : Nat} {a b : Tm} {aa ab : Option Addr} {ca cb : Nat} {vr : Value} {row : List ByteArray} {w w1 w2 : World} (h : OmW N P Q a b aa ca ab cb vr row w w1) (hb : Below w1.heap.size w1 w2) : OmW N P Q a b aa ca ab cb vr row w w2 :=
  ⟨h.k1.below hb h.k1.lt, h.k2.below hb h.k2.lt, h.s1.later hb, h.s2.later hb, h.rw.later hb, h.bl.trans (hb.mono h.bl.size), h.pq⟩
theorem OmW.set {N P Q : Nat} {a b : Tm} {aa ab : Option Addr} {ca cb : Nat} {vr : Value} {row : List ByteArray} {w w1 : World} (h : OmW N P Q a b aa ca ab cb vr row w w1) {R : Nat} (hR : N ≤ R) (i : Nat) (v : Value) : OmW N P Q a b aa ca ab cb vr row w (w1.setCell ⟨R, i, none⟩ v) := by
  have hpq := h.pq
  have hk : ∀ c, c < N → (w1.setCell ⟨R, i, none⟩ v).heap[c]? = w1.heap[c]? := fun c hc => Below.heap_setCell _ _ _ _ (by simp; omega)
  exact ⟨h.k1.setOther i v (by omega), h.k2.setOther i v (by omega), h.s1.kept hk, h.s2.kept hk, h.rw.kept hk, h.bl.setCell (by simp; omega) v, hpq⟩
/-- A term in a box besides. -/
def OmX (R : Nat) (x : Tm) (a6 : Option Addr) (c6 : Nat) (wr : World) : Prop := Blk wr R #[.string x.name, .slice a6 x.args.length c6] 25 ∧ Sl wr (fun _ => True) a6 x.args
theorem OmX.later {R : Nat} {x : Tm} {a6 : Option Addr} {c6 : Nat} {w1 w2 : World} (h : OmX R x a6 c6 w1) (hb : Below w1.heap.size w1 w2) : OmX R x a6 c6 w2 := ⟨h.1.below hb h.1.lt, h.2.later hb⟩
theorem omx_set {R : Nat} {x : Tm} {a6 : Option Addr} {c6 : Nat} {w1 : World} (h : Blk w1 R #[.string ⟨#[]⟩, .slice none 0 0] 25) (hs : Sl w1 (fun b => b ≠ R) a6 x.args) : OmX R x a6 c6 ((w1.setCell ⟨R, 0, none⟩ (.string x.name)).setCell ⟨R, 1, none⟩ (.slice a6 x.args.length c6)) :=
  ⟨(h.set 0 _).set 1 _, (hs.kept fun b hb => by
    rw [Below.heap_setCell _ _ _ _ (by simpa using hb), Below.heap_setCell _ _ _ _ (by simpa using hb)]).mono fun _ _ _ => trivial⟩
/-- What On gives, whether or not it is too great. -/
theorem onSome_any (X : Nat → Prop) (ls : List Bd) (t : Tm) (u v : Value) (w : World) (hu : BV w X u ls) (hv : TV w X v t) (hsm : sizeL [t] ≤ 1000000) :
    Calls Try.prog 19 #[u, v] w fun e w' => ∃ (x : Tm) (a6 : Option Addr) (c6 : Nat) (ok : Bool), e = .returned (.tuple #[.agg #[.string x.name, .slice a6 x.args.length c6], .bool ok]) ∧ Sl w' (fun b => X b ∨ w.heap.size ≤ b) a6 x.args ∧ Below w.heap.size w w' := by
  refine (onAll_any ls t u v w _ hu hv hsm).mono ?_
  rintro e w' ⟨hb, ⟨_, rfl⟩ | ⟨_, a6, c6, rfl, hs⟩⟩
  · exact ⟨⟨⟨#[]⟩, []⟩, none, 0, false, rfl, ⟨by simp, Or.inl rfl⟩, hb⟩
  · exact ⟨onT ls t, a6, c6, true, rfl, hs.mono fun b h _ => h.imp (fun h => h.1) id, hb⟩
set_option maxHeartbeats 4000000 in
theorem orderMade_any (zs : List Int) (hr : ∀ z ∈ zs, Rng z) (y1 y2 y3 : Int) (hy1 : Rng y1) (hy2 : Rng y2) (hy3 : Rng y3) (u : Value) (w : World) (X : Nat → Prop) (hu : PV w X u zs) :
    Calls Try.prog 4 #[u, .int .i64 y1, .int .i64 y2, .int .i64 y3] w fun e w' => e = .returned (.bool true) ∧ Below w.heap.size w w' := by
  have HU := hide hu
  obtain ⟨au, cu, rfl, hlc, hu2⟩ := hu
  clear hu2
  by_cases h256 : 256 < zs.length
  · go_enter Try.func4, Try.ntmps4
    go_wp2_with fail
    go_ret
    exact ⟨rfl, Below.refl _ _⟩
  · go_enter Try.func4, Try.ntmps4
    go_wp2_with fail
    refine (pick_any _ 14 (by decide) (by decide) hy2 _).mono ?_
    rintro e w1 ⟨k1, rfl, hk1, hw1⟩
    rw [hw1]
    clear hw1 w1
    go_wp2_with fail
    refine (termOf_any 3 (by decide) (by decide) zs hr (by omega) k1 0 _ _ X HU.out (by omega) (by unfold top; split <;> omega)).mono ?_
    rintro e w2 ⟨a, aa, ca, rfl, hs2, hz2, hb2, _⟩
    have hza : sizeL [a] ≤ 1000000 := by
      have : top k1 ≤ 100 := by unfold top; split <;> omega
      omega
    have S2 := hide (hs2.mono (Y := fun _ => True) fun _ _ _ => trivial)
    have B2 := hide hb2
    clear hs2 hb2 hz2
    go_wp2_with fail
    refine (pick_any _ 14 (by decide) (by decide) hy3 _).mono ?_
    rintro e w3 ⟨k2, rfl, hk2, hw3⟩
    rw [hw3]
    clear hw3 w3
    have K3 := hide (Blk.new w2 #[.string a.name, .slice aa a.args.length ca] 25)
    have S3 := hide (S2.out.later ((Below.refl w2.heap.size w2).alloc (Nat.le_refl _) (.cells #[.string a.name, .slice aa a.args.length ca] 25)))
    have B3 := hide (B2.out.alloc B2.out.size (.cells #[.string a.name, .slice aa a.args.length ca] 25))
    clear S2
    generalize w2.heap.size = P at *
    generalize w2.alloc (.cells #[.string a.name, .slice aa a.args.length ca] 25) = w3 at *
    go_wp2_with fail
    refine (termOf_any 3 (by decide) (by decide) zs hr (by omega) k2 40 _ _ X (by exact HU.out.later B3.out) (by omega) (by unfold top; split <;> omega)).mono ?_
    rintro e w4 ⟨b, ab, cb, rfl, hs4, hz4, hb4, _⟩
    have S4 := hide (hs4.mono (Y := fun _ => True) fun _ _ _ => trivial)
    have K34 := hide (K3.out.below hb4 K3.out.lt)
    have S34 := hide (S3.out.later hb4)
    have B4 := hide (B3.out.trans (hb4.mono B3.out.size))
    clear hs4 hb4 hz4 K3 S3 B3
    go_wp2_with fail
    have hbA : Below w4.heap.size w4 (w4.alloc (.cells #[.string b.name, .slice ab b.args.length cb] 25)) := (Below.refl _ _).alloc (Nat.le_refl _) _
    have K5 := hide (Blk.new w4 #[.string b.name, .slice ab b.args.length cb] 25)
    have S5 := hide (S4.out.later hbA)
    have K35 := hide (K34.out.alloc (.cells #[.string b.name, .slice ab b.args.length cb] 25))
    have S35 := hide (S34.out.later hbA)
    have B5 := hide (B4.out.alloc B4.out.size (.cells #[.string b.name, .slice ab b.args.length cb] 25))
    clear hbA S4 K34 S34 B4
    generalize w4.heap.size = Q at *
    generalize w4.alloc (.cells #[.string b.name, .slice ab b.args.length cb] 25) = w5 at *
    refine (rowFrom_any y1 hy1 _).mono ?_
    rintro e w6 ⟨row, vr, rfl, _, hlv, hb6⟩
    obtain ⟨N, hN⟩ : ∃ N, N = w6.heap.size := ⟨_, rfl⟩
    have A6 : Hid (OmW N P Q a b aa ca ab cb vr row w w6) := by
      have h6 := hb6.size
      have h5 := B5.out.size
      have hp := K35.out.lt
      have hq := K5.out.lt
      exact ⟨K35.out.below hb6 K35.out.lt, K5.out.below hb6 K5.out.lt, (S35.out.later hb6).mono fun b _ h => by omega, (S5.out.later hb6).mono fun b _ h => by omega, hlv.mono fun b _ h => by omega, B5.out.trans (hb6.mono B5.out.size), by omega, by omega, by omega⟩
    have HN : Hid (N = w6.drew.heap.size) := hN
    clear hN
    clear hlv hb6 K35 K5 S35 S5 B5
    have A6d : Hid (OmW N P Q a b aa ca ab cb vr row w w6.drew) := A6.out.later (below_drewN (Below.refl _ _) 1)
    go_wp2_with fail
    refine wp_region_held_drew (S := OmW N P Q a b aa ca ab cb vr row w) (by kernel_rfl) A6d.out (fun hHeld => ?_)
    refine wpAnyH_take (i := 0) (v := ?_) rfl (by kernel_rfl) (by kernel_rfl) (by kernel_rfl) (fun _ _ _ h => h) (Or.inl ⟨by rfl, ?_⟩) (by assumption) ?_
    rotate_left
    · intro w' hSw
      go_simp <;> with_reducible rfl
    try simp only [Act.put, List.setIfInBounds_toArray, List.set_cons_zero, List.set_cons_succ, List.getElem_toArray, List.getElem_cons_succ, List.getElem_cons_zero]
    refine wpAnyH_take (i := 2) (v := ?_) rfl (by kernel_rfl) (by kernel_rfl) (by kernel_rfl) (fun _ _ _ h => h) (Or.inl ⟨by rfl, ?_⟩) (by assumption) ?_
    rotate_left
    · intro w' hSw
      have r0 : w'.cell? ⟨P, 0, none⟩ = some (.string a.name) := hSw.k1.cell 0
      have r1 : w'.cell? ⟨P, 1, none⟩ = some (.slice aa a.args.length ca) := hSw.k1.cell 1
      go_simp <;> with_reducible rfl
    try simp only [Act.put, List.setIfInBounds_toArray, List.set_cons_zero, List.set_cons_succ, List.getElem_toArray, List.getElem_cons_succ, List.getElem_cons_zero]
    clear A6
    generalize w6.drew = w7 at *
    refine wpAnyH_ready (rs := [1, 7]) (by kernel_rfl) (by simp) ?_
    refine AllReadyH.cons rfl (fun K hK => ?_) (AllReadyH.cons rfl (fun K hK => ?_) AllReadyH.nil)
    · go_simp
      go_at_call 20
      refine (bindsFrom_any 2 (by decide) (by decide) zs hr (by omega) 4 80 _ _ X (by exact HU.out.later A6d.out.bl) (by decide) (by decide)).mono ?_
      rintro e w8 ⟨vb, ls, rfl, hbv, _, _, hbw8⟩
      have A8 := hide (A6d.out.later hbw8)
      have BVh := hide hbv
      have HZ8 : Hid (w7.heap.size ≤ w8.heap.size) := hbw8.size
      clear hbv hbw8
      go_simp
      refine hK.out _ _ (by exact A8.out) (fun hHeld => ?_)
      clear hK K
      try simp only [Act.put, List.setIfInBounds_toArray, List.set_cons_zero, List.set_cons_succ, List.getElem_toArray, List.getElem_cons_succ, List.getElem_cons_zero]
      refine wpAnyH_ready (rs := [3, 7]) (by kernel_rfl) (by simp) ?_
      refine AllReadyH.cons rfl (fun K hK => ?_) (AllReadyH.cons rfl (fun K hK => ?_) AllReadyH.nil)
      · go_simp
        go_at_call 19
        refine (onSome_any (fun _ => True) ls a _ _ _ (by exact BVh.out.mono fun _ _ _ => trivial) ⟨_, _, rfl, A8.out.s1.mono fun _ _ _ => trivial⟩ hza).mono ?_
        rintro e w9 ⟨x, a6, c6, ok, rfl, hsx, hbw9⟩
        have A9 := hide (A8.out.later hbw9)
        have SX := hide hsx
        clear hsx hbw9
        go_simp
        refine hK.out _ _ (by exact A9.out) (fun hHeld => ?_)
        clear hK K
        try simp only [Act.put, List.setIfInBounds_toArray, List.set_cons_zero, List.set_cons_succ, List.getElem_toArray, List.getElem_cons_succ, List.getElem_cons_zero]
        refine wpAnyH_take (i := 4) (v := ?_) rfl (by kernel_rfl) (by kernel_rfl) (by kernel_rfl) (fun _ _ _ h => h) (Or.inl ⟨by rfl, ?_⟩) (by assumption) ?_
        rotate_left
        · intro w' hSw
          go_simp <;> with_reducible rfl
        try simp only [Act.put, List.setIfInBounds_toArray, List.set_cons_zero, List.set_cons_succ, List.getElem_toArray, List.getElem_cons_succ, List.getElem_cons_zero]
        refine wpAnyH_take (i := 5) (v := ?_) rfl (by kernel_rfl) (by kernel_rfl) (by kernel_rfl) (fun _ _ _ h => h) (Or.inl ⟨by rfl, ?_⟩) (by assumption) ?_
        rotate_left
        · intro w' hSw
          go_simp <;> with_reducible rfl
        try simp only [Act.put, List.setIfInBounds_toArray, List.set_cons_zero, List.set_cons_succ, List.getElem_toArray, List.getElem_cons_succ, List.getElem_cons_zero]
        refine wpAnyH_take (i := 6) (v := ?_) rfl (by kernel_rfl) (by kernel_rfl) (by kernel_rfl) (fun _ _ _ h => h) (Or.inl ⟨by rfl, ?_⟩) (by assumption) ?_
        rotate_left
        · intro w' hSw
          go_simp <;> with_reducible rfl
        try simp only [Act.put, List.setIfInBounds_toArray, List.set_cons_zero, List.set_cons_succ, List.getElem_toArray, List.getElem_cons_succ, List.getElem_cons_zero]
        refine wpAnyH_ready (rs := [7]) (by kernel_rfl) (by simp) ?_
        refine AllReadyH.cons rfl (fun K hK => ?_) AllReadyH.nil
        go_simp
        refine hK.out _ _ (by exact A9.out.later ((Below.refl _ _).alloc (Nat.le_refl _) _)) (fun hHeld => ?_)
        clear hK K
        try simp only [Act.put, List.setIfInBounds_toArray, List.set_cons_zero, List.set_cons_succ, List.getElem_toArray, List.getElem_cons_succ, List.getElem_cons_zero]
        have AZ0 : Hid (OmW N P Q a b aa ca ab cb vr row w (w9.alloc (.cells #[.string x.name, .slice a6 x.args.length c6] 25))) := A9.out.later ((Below.refl _ _).alloc (Nat.le_refl _) _)
        have XZ0 : Hid (OmX w9.heap.size x a6 c6 (w9.alloc (.cells #[.string x.name, .slice a6 x.args.length c6] 25))) := ⟨Blk.new w9 _ _, (SX.out.mono fun _ _ _ => trivial).later ((Below.refl _ _).alloc (Nat.le_refl _) _)⟩
        refine wpAnyH_ready (rs := [8]) (by kernel_rfl) (by simp) ?_
        refine AllReadyH.cons rfl (fun K hK => ?_) AllReadyH.nil
        go_simp
        refine hK.out _ _ (by exact AZ0.out) (fun hHeld => ?_)
        clear hK K
        try simp only [Act.put, List.setIfInBounds_toArray, List.set_cons_zero, List.set_cons_succ, List.getElem_toArray, List.getElem_cons_succ, List.getElem_cons_zero]
        refine wpAnyH_take (i := 9) (v := ?_) rfl (by kernel_rfl) (by kernel_rfl) (by kernel_rfl) (fun _ _ _ h => h) (Or.inl ⟨by rfl, ?_⟩) (by assumption) ?_
        rotate_left
        · intro w' hSw
          go_simp <;> with_reducible rfl
        try simp only [Act.put, List.setIfInBounds_toArray, List.set_cons_zero, List.set_cons_succ, List.getElem_toArray, List.getElem_cons_succ, List.getElem_cons_zero]
        generalize (w9.alloc (.cells #[.string x.name, .slice a6 x.args.length c6] 25)) = wZ at *
        obtain ⟨R, hR⟩ : ∃ R, R = w9.heap.size := ⟨_, rfl⟩
        rw [← hR] at XZ0 ⊢
        clear hR
        have AZ := hide AZ0.out
        have XZ := hide XZ0.out
        clear AZ0 XZ0
        refine wpAnyH_done (by kernel_rfl) ?_ _
        have r0 : wZ.cell? ⟨P, 0, none⟩ = some (.string a.name) := AZ.out.k1.cell 0
        have r1 : wZ.cell? ⟨P, 1, none⟩ = some (.slice aa a.args.length ca) := AZ.out.k1.cell 1
        have s0 : wZ.cell? ⟨Q, 0, none⟩ = some (.string b.name) := AZ.out.k2.cell 0
        have s1 : wZ.cell? ⟨Q, 1, none⟩ = some (.slice ab b.args.length cb) := AZ.out.k2.cell 1
        go_wp2_with fail
        refine (orderSays_any row a b _ _ _ _ (fun _ => True) (by exact AZ.out.rw.mono fun _ _ _ => trivial) ⟨_, _, rfl, AZ.out.s1.mono fun _ _ _ => trivial⟩ ⟨_, _, rfl, AZ.out.s2.mono fun _ _ _ => trivial⟩).mono ?_
        rintro e wA ⟨rfl, hbA⟩
        have AA := hide (AZ.out.later hbA)
        have XA := hide (XZ.out.later hbA)
        clear hbA AZ XZ r0 r1 s0 s1
        have r0 : wA.cell? ⟨P, 0, none⟩ = some (.string a.name) := AA.out.k1.cell 0
        have r1 : wA.cell? ⟨P, 1, none⟩ = some (.slice aa a.args.length ca) := AA.out.k1.cell 1
        have s0 : wA.cell? ⟨Q, 0, none⟩ = some (.string b.name) := AA.out.k2.cell 0
        have s1 : wA.cell? ⟨Q, 1, none⟩ = some (.slice ab b.args.length cb) := AA.out.k2.cell 1
        go_wp2_with fail
        refine (orderSays_any row b a _ _ _ _ (fun _ => True) (by exact AA.out.rw.mono fun _ _ _ => trivial) ⟨_, _, rfl, AA.out.s2.mono fun _ _ _ => trivial⟩ ⟨_, _, rfl, AA.out.s1.mono fun _ _ _ => trivial⟩).mono ?_
        rintro e wB ⟨rfl, hbB⟩
        have AB := hide (AA.out.later hbB)
        have XB := hide (XA.out.later hbB)
        clear hbB AA XA r0 r1 s0 s1
        have r0 : wB.cell? ⟨P, 0, none⟩ = some (.string a.name) := AB.out.k1.cell 0
        have r1 : wB.cell? ⟨P, 1, none⟩ = some (.slice aa a.args.length ca) := AB.out.k1.cell 1
        have s0 : wB.cell? ⟨R, 0, none⟩ = some (.string x.name) := XB.out.1.cell 0
        have s1 : wB.cell? ⟨R, 1, none⟩ = some (.slice a6 x.args.length c6) := XB.out.1.cell 1
        cases ok with
        | false =>
          go_wp2_with fail
          go_ret
          exact ⟨rfl, AB.out.bl⟩
        | true =>
          go_wp2_with fail
          refine (orderSays_any row a x _ _ _ _ (fun _ => True) (by exact AB.out.rw.mono fun _ _ _ => trivial) ⟨_, _, rfl, AB.out.s1.mono fun _ _ _ => trivial⟩ ⟨_, _, rfl, XB.out.2⟩).mono ?_
          rintro e wC ⟨rfl, hbC⟩
          have BC := hide (AB.out.later hbC).bl
          clear hbC
          go_wp2_with fail
          go_ret
          exact ⟨rfl, BC.out⟩
      · go_simp
        refine hK.out _ _ (by exact A8.out.later ((Below.refl _ _).alloc (Nat.le_refl _) _)) (fun hHeld => ?_)
        clear hK K
        try simp only [Act.put, List.setIfInBounds_toArray, List.set_cons_zero, List.set_cons_succ, List.getElem_toArray, List.getElem_cons_succ, List.getElem_cons_zero]
        have A8a := hide (A8.out.later ((Below.refl w8.heap.size w8).alloc (Nat.le_refl _) (.cells #[.string ⟨#[]⟩, .slice none 0 0] 25)))
        have QA := hide (Blk.new w8 #[.string ⟨#[]⟩, .slice none 0 0] 25)
        refine wpAnyH_ready (rs := [3]) (by kernel_rfl) (by simp) ?_
        refine AllReadyH.cons rfl (fun K hK => ?_) AllReadyH.nil
        go_simp
        go_at_call 19
        refine (onSome_any (fun b => b ≠ w8.heap.size) ls a _ _ _ (by exact (BVh.out.mono fun b _ h => by omega).alloc _) ⟨_, _, rfl, (A8.out.s1.mono (Y := fun b => b ≠ w8.heap.size) fun b _ h => by omega).later ((Below.refl _ _).alloc (Nat.le_refl _) _)⟩ hza).mono ?_
        rintro e w9 ⟨x, a6, c6, ok, rfl, hsx, hbw9⟩
        have A9 := hide (A8a.out.later hbw9)
        have SX := hide hsx
        have QB := hide (QA.out.below hbw9 QA.out.lt)
        clear hsx hbw9
        go_simp
        refine hK.out _ _ (by exact A9.out) (fun hHeld => ?_)
        clear hK K
        try simp only [Act.put, List.setIfInBounds_toArray, List.set_cons_zero, List.set_cons_succ, List.getElem_toArray, List.getElem_cons_succ, List.getElem_cons_zero]
        refine wpAnyH_take (i := 4) (v := ?_) rfl (by kernel_rfl) (by kernel_rfl) (by kernel_rfl) (fun _ _ _ h => h) (Or.inl ⟨by rfl, ?_⟩) (by assumption) ?_
        rotate_left
        · intro w' hSw
          go_simp <;> with_reducible rfl
        try simp only [Act.put, List.setIfInBounds_toArray, List.set_cons_zero, List.set_cons_succ, List.getElem_toArray, List.getElem_cons_succ, List.getElem_cons_zero]
        refine wpAnyH_take (i := 5) (v := ?_) rfl (by kernel_rfl) (by kernel_rfl) (by kernel_rfl) (fun _ _ _ h => h) (Or.inl ⟨by rfl, ?_⟩) (by assumption) ?_
        rotate_left
        · intro w' hSw
          go_simp <;> with_reducible rfl
        try simp only [Act.put, List.setIfInBounds_toArray, List.set_cons_zero, List.set_cons_succ, List.getElem_toArray, List.getElem_cons_succ, List.getElem_cons_zero]
        refine wpAnyH_take (i := 6) (v := ?_) rfl (by kernel_rfl) (by kernel_rfl) (by kernel_rfl) (fun _ _ _ h => h) (Or.inl ⟨by rfl, ?_⟩) (by assumption) ?_
        rotate_left
        · intro w' hSw
          go_simp <;> with_reducible rfl
        try simp only [Act.put, List.setIfInBounds_toArray, List.set_cons_zero, List.set_cons_succ, List.getElem_toArray, List.getElem_cons_succ, List.getElem_cons_zero]
        have HPQ : Hid (N ≤ w8.heap.size) := by have := HN.out; have := HZ8.out; unfold Hid; omega
        have z0 : w9.cell? ⟨w8.heap.size, 0, none⟩ = some (.string ⟨#[]⟩) := QB.out.cell 0
        have z1 : w9.cell? ⟨w8.heap.size, 1, none⟩ = some (.slice none 0 0) := QB.out.cell 1
        have zf := QB.out.frozen
        have AZ0 : Hid (OmW N P Q a b aa ca ab cb vr row w ((w9.setCell ⟨w8.heap.size, 0, none⟩ (.string x.name)).setCell ⟨w8.heap.size, 1, none⟩ (.slice a6 x.args.length c6))) := (A9.out.set HPQ.out 0 _).set HPQ.out 1 _
        have XZ0 : Hid (OmX w8.heap.size x a6 c6 ((w9.setCell ⟨w8.heap.size, 0, none⟩ (.string x.name)).setCell ⟨w8.heap.size, 1, none⟩ (.slice a6 x.args.length c6))) := omx_set QB.out (SX.out.mono fun b hb _ => hb.elim id (fun h => by first | (simp at h; omega) | (have := QA8.out.lt; omega)))
        refine wpAnyH_ready (rs := [8]) (by kernel_rfl) (by simp) ?_
        refine AllReadyH.cons rfl (fun K hK => ?_) AllReadyH.nil
        go_simp
        refine hK.out _ _ (by exact AZ0.out) (fun hHeld => ?_)
        clear hK K
        try simp only [Act.put, List.setIfInBounds_toArray, List.set_cons_zero, List.set_cons_succ, List.getElem_toArray, List.getElem_cons_succ, List.getElem_cons_zero]
        refine wpAnyH_take (i := 9) (v := ?_) rfl (by kernel_rfl) (by kernel_rfl) (by kernel_rfl) (fun _ _ _ h => h) (Or.inl ⟨by rfl, ?_⟩) (by assumption) ?_
        rotate_left
        · intro w' hSw
          go_simp <;> with_reducible rfl
        try simp only [Act.put, List.setIfInBounds_toArray, List.set_cons_zero, List.set_cons_succ, List.getElem_toArray, List.getElem_cons_succ, List.getElem_cons_zero]
        generalize ((w9.setCell ⟨w8.heap.size, 0, none⟩ (.string x.name)).setCell ⟨w8.heap.size, 1, none⟩ (.slice a6 x.args.length c6)) = wZ at *
        obtain ⟨R, hR⟩ : ∃ R, R = w8.heap.size := ⟨_, rfl⟩
        rw [← hR] at XZ0 ⊢
        clear hR
        have AZ := hide AZ0.out
        have XZ := hide XZ0.out
        clear AZ0 XZ0
        refine wpAnyH_done (by kernel_rfl) ?_ _
        have r0 : wZ.cell? ⟨P, 0, none⟩ = some (.string a.name) := AZ.out.k1.cell 0
        have r1 : wZ.cell? ⟨P, 1, none⟩ = some (.slice aa a.args.length ca) := AZ.out.k1.cell 1
        have s0 : wZ.cell? ⟨Q, 0, none⟩ = some (.string b.name) := AZ.out.k2.cell 0
        have s1 : wZ.cell? ⟨Q, 1, none⟩ = some (.slice ab b.args.length cb) := AZ.out.k2.cell 1
        go_wp2_with fail
        refine (orderSays_any row a b _ _ _ _ (fun _ => True) (by exact AZ.out.rw.mono fun _ _ _ => trivial) ⟨_, _, rfl, AZ.out.s1.mono fun _ _ _ => trivial⟩ ⟨_, _, rfl, AZ.out.s2.mono fun _ _ _ => trivial⟩).mono ?_
        rintro e wA ⟨rfl, hbA⟩
        have AA := hide (AZ.out.later hbA)
        have XA := hide (XZ.out.later hbA)
        clear hbA AZ XZ r0 r1 s0 s1
        have r0 : wA.cell? ⟨P, 0, none⟩ = some (.string a.name) := AA.out.k1.cell 0
        have r1 : wA.cell? ⟨P, 1, none⟩ = some (.slice aa a.args.length ca) := AA.out.k1.cell 1
        have s0 : wA.cell? ⟨Q, 0, none⟩ = some (.string b.name) := AA.out.k2.cell 0
        have s1 : wA.cell? ⟨Q, 1, none⟩ = some (.slice ab b.args.length cb) := AA.out.k2.cell 1
        go_wp2_with fail
        refine (orderSays_any row b a _ _ _ _ (fun _ => True) (by exact AA.out.rw.mono fun _ _ _ => trivial) ⟨_, _, rfl, AA.out.s2.mono fun _ _ _ => trivial⟩ ⟨_, _, rfl, AA.out.s1.mono fun _ _ _ => trivial⟩).mono ?_
        rintro e wB ⟨rfl, hbB⟩
        have AB := hide (AA.out.later hbB)
        have XB := hide (XA.out.later hbB)
        clear hbB AA XA r0 r1 s0 s1
        have r0 : wB.cell? ⟨P, 0, none⟩ = some (.string a.name) := AB.out.k1.cell 0
        have r1 : wB.cell? ⟨P, 1, none⟩ = some (.slice aa a.args.length ca) := AB.out.k1.cell 1
        have s0 : wB.cell? ⟨R, 0, none⟩ = some (.string x.name) := XB.out.1.cell 0
        have s1 : wB.cell? ⟨R, 1, none⟩ = some (.slice a6 x.args.length c6) := XB.out.1.cell 1
        cases ok with
        | false =>
          go_wp2_with fail
          go_ret
          exact ⟨rfl, AB.out.bl⟩
        | true =>
          go_wp2_with fail
          refine (orderSays_any row a x _ _ _ _ (fun _ => True) (by exact AB.out.rw.mono fun _ _ _ => trivial) ⟨_, _, rfl, AB.out.s1.mono fun _ _ _ => trivial⟩ ⟨_, _, rfl, XB.out.2⟩).mono ?_
          rintro e wC ⟨rfl, hbC⟩
          have BC := hide (AB.out.later hbC).bl
          clear hbC
          go_wp2_with fail
          go_ret
          exact ⟨rfl, BC.out⟩
    · go_simp
      refine hK.out _ _ (by exact A6d.out.later ((Below.refl _ _).alloc (Nat.le_refl _) _)) (fun hHeld => ?_)
      clear hK K
      try simp only [Act.put, List.setIfInBounds_toArray, List.set_cons_zero, List.set_cons_succ, List.getElem_toArray, List.getElem_cons_succ, List.getElem_cons_zero]
      have A7a := hide (A6d.out.later ((Below.refl w7.heap.size w7).alloc (Nat.le_refl _) (.cells #[.string ⟨#[]⟩, .slice none 0 0] 25)))
      have QA := hide (Blk.new w7 #[.string ⟨#[]⟩, .slice none 0 0] 25)
      refine wpAnyH_ready (rs := [1]) (by kernel_rfl) (by simp) ?_
      refine AllReadyH.cons rfl (fun K hK => ?_) AllReadyH.nil
      go_simp
      go_at_call 20
      refine (bindsFrom_any 2 (by decide) (by decide) zs hr (by omega) 4 80 _ _ X (by exact HU.out.later A7a.out.bl) (by decide) (by decide)).mono ?_
      rintro e w8 ⟨vb, ls, rfl, hbv, _, _, hbw8⟩
      have A8 := hide (A7a.out.later hbw8)
      have BVh := hide hbv
      have S8 := hide (((A6d.out.s1.mono (Y := fun b => b ≠ w7.heap.size) fun b _ h => by omega).later ((Below.refl _ _).alloc (Nat.le_refl _) _)).later hbw8)
      have QA8 := hide (QA.out.below hbw8 QA.out.lt)
      clear hbv hbw8
      go_simp
      refine hK.out _ _ (by exact A8.out) (fun hHeld => ?_)
      clear hK K
      try simp only [Act.put, List.setIfInBounds_toArray, List.set_cons_zero, List.set_cons_succ, List.getElem_toArray, List.getElem_cons_succ, List.getElem_cons_zero]
      refine wpAnyH_ready (rs := [3]) (by kernel_rfl) (by simp) ?_
      refine AllReadyH.cons rfl (fun K hK => ?_) AllReadyH.nil
      go_simp
      go_at_call 19
      refine (onSome_any (fun b => b ≠ w7.heap.size) ls a _ _ _ (by exact BVh.out.mono fun b h _ => by simp at h; omega) ⟨_, _, rfl, S8.out⟩ hza).mono ?_
      rintro e w9 ⟨x, a6, c6, ok, rfl, hsx, hbw9⟩
      have A9 := hide (A8.out.later hbw9)
      have SX := hide hsx
      have QB := hide (QA8.out.below hbw9 QA8.out.lt)
      clear hsx hbw9
      go_simp
      refine hK.out _ _ (by exact A9.out) (fun hHeld => ?_)
      clear hK K
      try simp only [Act.put, List.setIfInBounds_toArray, List.set_cons_zero, List.set_cons_succ, List.getElem_toArray, List.getElem_cons_succ, List.getElem_cons_zero]
      refine wpAnyH_take (i := 4) (v := ?_) rfl (by kernel_rfl) (by kernel_rfl) (by kernel_rfl) (fun _ _ _ h => h) (Or.inl ⟨by rfl, ?_⟩) (by assumption) ?_
      rotate_left
      · intro w' hSw
        go_simp <;> with_reducible rfl
      try simp only [Act.put, List.setIfInBounds_toArray, List.set_cons_zero, List.set_cons_succ, List.getElem_toArray, List.getElem_cons_succ, List.getElem_cons_zero]
      refine wpAnyH_take (i := 5) (v := ?_) rfl (by kernel_rfl) (by kernel_rfl) (by kernel_rfl) (fun _ _ _ h => h) (Or.inl ⟨by rfl, ?_⟩) (by assumption) ?_
      rotate_left
      · intro w' hSw
        go_simp <;> with_reducible rfl
      try simp only [Act.put, List.setIfInBounds_toArray, List.set_cons_zero, List.set_cons_succ, List.getElem_toArray, List.getElem_cons_succ, List.getElem_cons_zero]
      refine wpAnyH_take (i := 6) (v := ?_) rfl (by kernel_rfl) (by kernel_rfl) (by kernel_rfl) (fun _ _ _ h => h) (Or.inl ⟨by rfl, ?_⟩) (by assumption) ?_
      rotate_left
      · intro w' hSw
        go_simp <;> with_reducible rfl
      try simp only [Act.put, List.setIfInBounds_toArray, List.set_cons_zero, List.set_cons_succ, List.getElem_toArray, List.getElem_cons_succ, List.getElem_cons_zero]
      have HPQ : Hid (N ≤ w7.heap.size) := by have := HN.out; unfold Hid; omega
      have z0 : w9.cell? ⟨w7.heap.size, 0, none⟩ = some (.string ⟨#[]⟩) := QB.out.cell 0
      have z1 : w9.cell? ⟨w7.heap.size, 1, none⟩ = some (.slice none 0 0) := QB.out.cell 1
      have zf := QB.out.frozen
      have AZ0 : Hid (OmW N P Q a b aa ca ab cb vr row w ((w9.setCell ⟨w7.heap.size, 0, none⟩ (.string x.name)).setCell ⟨w7.heap.size, 1, none⟩ (.slice a6 x.args.length c6))) := (A9.out.set HPQ.out 0 _).set HPQ.out 1 _
      have XZ0 : Hid (OmX w7.heap.size x a6 c6 ((w9.setCell ⟨w7.heap.size, 0, none⟩ (.string x.name)).setCell ⟨w7.heap.size, 1, none⟩ (.slice a6 x.args.length c6))) := omx_set QB.out (SX.out.mono fun b hb _ => hb.elim id (fun h => by first | (simp at h; omega) | (have := QA8.out.lt; omega)))
      refine wpAnyH_ready (rs := [8]) (by kernel_rfl) (by simp) ?_
      refine AllReadyH.cons rfl (fun K hK => ?_) AllReadyH.nil
      go_simp
      refine hK.out _ _ (by exact AZ0.out) (fun hHeld => ?_)
      clear hK K
      try simp only [Act.put, List.setIfInBounds_toArray, List.set_cons_zero, List.set_cons_succ, List.getElem_toArray, List.getElem_cons_succ, List.getElem_cons_zero]
      refine wpAnyH_take (i := 9) (v := ?_) rfl (by kernel_rfl) (by kernel_rfl) (by kernel_rfl) (fun _ _ _ h => h) (Or.inl ⟨by rfl, ?_⟩) (by assumption) ?_
      rotate_left
      · intro w' hSw
        go_simp <;> with_reducible rfl
      try simp only [Act.put, List.setIfInBounds_toArray, List.set_cons_zero, List.set_cons_succ, List.getElem_toArray, List.getElem_cons_succ, List.getElem_cons_zero]
      generalize ((w9.setCell ⟨w7.heap.size, 0, none⟩ (.string x.name)).setCell ⟨w7.heap.size, 1, none⟩ (.slice a6 x.args.length c6)) = wZ at *
      obtain ⟨R, hR⟩ : ∃ R, R = w7.heap.size := ⟨_, rfl⟩
      rw [← hR] at XZ0 ⊢
      clear hR
      have AZ := hide AZ0.out
      have XZ := hide XZ0.out
      clear AZ0 XZ0
      refine wpAnyH_done (by kernel_rfl) ?_ _
      have r0 : wZ.cell? ⟨P, 0, none⟩ = some (.string a.name) := AZ.out.k1.cell 0
      have r1 : wZ.cell? ⟨P, 1, none⟩ = some (.slice aa a.args.length ca) := AZ.out.k1.cell 1
      have s0 : wZ.cell? ⟨Q, 0, none⟩ = some (.string b.name) := AZ.out.k2.cell 0
      have s1 : wZ.cell? ⟨Q, 1, none⟩ = some (.slice ab b.args.length cb) := AZ.out.k2.cell 1
      go_wp2_with fail
      refine (orderSays_any row a b _ _ _ _ (fun _ => True) (by exact AZ.out.rw.mono fun _ _ _ => trivial) ⟨_, _, rfl, AZ.out.s1.mono fun _ _ _ => trivial⟩ ⟨_, _, rfl, AZ.out.s2.mono fun _ _ _ => trivial⟩).mono ?_
      rintro e wA ⟨rfl, hbA⟩
      have AA := hide (AZ.out.later hbA)
      have XA := hide (XZ.out.later hbA)
      clear hbA AZ XZ r0 r1 s0 s1
      have r0 : wA.cell? ⟨P, 0, none⟩ = some (.string a.name) := AA.out.k1.cell 0
      have r1 : wA.cell? ⟨P, 1, none⟩ = some (.slice aa a.args.length ca) := AA.out.k1.cell 1
      have s0 : wA.cell? ⟨Q, 0, none⟩ = some (.string b.name) := AA.out.k2.cell 0
      have s1 : wA.cell? ⟨Q, 1, none⟩ = some (.slice ab b.args.length cb) := AA.out.k2.cell 1
      go_wp2_with fail
      refine (orderSays_any row b a _ _ _ _ (fun _ => True) (by exact AA.out.rw.mono fun _ _ _ => trivial) ⟨_, _, rfl, AA.out.s2.mono fun _ _ _ => trivial⟩ ⟨_, _, rfl, AA.out.s1.mono fun _ _ _ => trivial⟩).mono ?_
      rintro e wB ⟨rfl, hbB⟩
      have AB := hide (AA.out.later hbB)
      have XB := hide (XA.out.later hbB)
      clear hbB AA XA r0 r1 s0 s1
      have r0 : wB.cell? ⟨P, 0, none⟩ = some (.string a.name) := AB.out.k1.cell 0
      have r1 : wB.cell? ⟨P, 1, none⟩ = some (.slice aa a.args.length ca) := AB.out.k1.cell 1
      have s0 : wB.cell? ⟨R, 0, none⟩ = some (.string x.name) := XB.out.1.cell 0
      have s1 : wB.cell? ⟨R, 1, none⟩ = some (.slice a6 x.args.length c6) := XB.out.1.cell 1
      cases ok with
      | false =>
        go_wp2_with fail
        go_ret
        exact ⟨rfl, AB.out.bl⟩
      | true =>
        go_wp2_with fail
        refine (orderSays_any row a x _ _ _ _ (fun _ => True) (by exact AB.out.rw.mono fun _ _ _ => trivial) ⟨_, _, rfl, AB.out.s1.mono fun _ _ _ => trivial⟩ ⟨_, _, rfl, XB.out.2⟩).mono ?_
        rintro e wC ⟨rfl, hbC⟩
        have BC := hide (AB.out.later hbC).bl
        clear hbC
        go_wp2_with fail
        go_ret
        exact ⟨rfl, BC.out⟩
#print axioms orderMade_any
end Go.Proofs.Ythlgknglalcggac
