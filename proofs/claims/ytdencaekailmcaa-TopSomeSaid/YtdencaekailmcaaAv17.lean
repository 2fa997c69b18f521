/- The law TopSome, if AutoFrom is as it is said to be. -/
import Derived.Test.YtdencaekailmcaaAv15
import Derived.Test.YtdencaekailmcaaW151
import Derived.Test.YtdencaekailmcaaZTopSomeOwn
namespace Go.Proofs.Ytdencaekailmcaa
open Go.RowKit
set_option linter.unusedSimpArgs false
set_option linter.unusedVariables false
set_option maxRecDepth 8000

/-- From now on, whatever else is made. -/
def EvS (P : World → Prop) (w : World) : Prop := ∀ w', Below w.heap.size w w' → P w'
theorem EvS.now {P : World → Prop} {w : World} (h : EvS P w) : P w := h w (Below.refl _ _)
theorem EvS.later {P : World → Prop} {w w' : World} (h : EvS P w) (hb : Below w.heap.size w w') : EvS P w' := fun w'' hb' => h w'' (hb.trans (hb'.mono hb.size))
theorem EvS.and {P Q : World → Prop} {w : World} (h : EvS P w) (h' : EvS Q w) : EvS (fun w => P w ∧ Q w) w := fun w' hb => ⟨h w' hb, h' w' hb⟩
theorem EvS.alloc {P : World → Prop} {w : World} (h : EvS P w) (o : Obj) : EvS P (w.alloc o) := h.later ((Below.refl _ _).alloc (Nat.le_refl _) o)
theorem evS_below {w0 w : World} (h : Below w0.heap.size w0 w) : EvS (fun w => Below w0.heap.size w0 w) w := fun w' hb => h.trans (hb.mono h.size)
theorem evS_sl {w : World} {X : Nat → Prop} {a : Option Addr} {l : List Tm} (h : Sl w X a l) : EvS (fun w => Sl w (fun _ => True) a l) w := fun w' hb => (h.later hb).mono fun _ _ _ => trivial
theorem evS_blk {w : World} {b : Nat} {cs : Array Value} {T : Nat} (h : Blk w b cs T) : EvS (fun w => Blk w b cs T) w := fun w' hb => h.below hb h.lt
theorem evS_av {w : World} {X : Nat → Prop} {v : Value} {A : Au} (h : AV w X v A) : EvS (fun w => AV w X v A) w := fun w' hb => h.later hb
/-- A term that was given back, and a box for it. -/
theorem EvS.box {P : World → Prop} {w1 w2 : World} {Y : Nat → Prop} {t : Tm} {a : Option Addr} {T : Nat} (A : EvS P w1) (hb : Below w1.heap.size w1 w2) (hs : Sl w2 Y a t.args) (c : Nat) : EvS (fun w => P w ∧ Blk w w2.heap.size #[.string t.name, .slice a t.args.length c] T ∧ Sl w (fun _ => True) a t.args) (w2.alloc (.cells #[.string t.name, .slice a t.args.length c] T)) :=
  ((A.later hb).alloc _).and ((evS_blk (Blk.new w2 _ _)).and ((evS_sl hs).alloc _))

theorem leafS_any (s : ByteArray) (w : World) :
    Calls Try.prog 19 #[.string s] w fun e w' => e = .returned (.agg #[.string s, .slice none 0 0]) ∧ Below w.heap.size w w' := by
  go_enter Try.func19, Try.ntmps19
  go_wp2_with fail
  have hb := Blk.new w #[.string s, .slice none 0 0] 28
  have c0 := hb.cell 0
  have c1 := hb.cell 1
  refine bodyPost_ret (v := .agg #[.string s, .slice none 0 0]) (by simp [results, Try.results19, go_sem, c0, c1]) rfl ⟨rfl, (Below.refl _ _).alloc (Nat.le_refl _) _⟩

/-- One state, one move. -/
def oneA : Au := ⟨1, [⟨⟨#[97]⟩, [], 0⟩], [0]⟩
theorem oneA_in : accB oneA ⟨⟨#[97]⟩, []⟩ = true := (acc_iff (n := 1) rfl).2 ⟨0, by simp [oneA], ends_by (m := ⟨⟨#[97]⟩, [], 0⟩) (by simp [oneA]) (by decide) (l := []) rfl (fun i h => by simp at h)⟩
theorem oneA_okA : OkAu 8 40 oneA := by
  refine ⟨by decide, by decide, by decide, fun m hm => ?_, fun s hs => ?_⟩
  · have : m = ⟨⟨#[97]⟩, [], 0⟩ := by simpa [oneA] using hm
    subst this
    exact ⟨by decide, by decide, fun s hs => by simp at hs, by decide⟩
  · have : s = 0 := by simpa [oneA] using hs
    subst this
    decide
theorem oneA_av (w : World) : AV ((w.alloc (.cells #[.string ⟨#[97]⟩, .slice none 0 0, .int .i64 0] 50)).alloc (.cells #[.int .i64 0] 3)) (fun _ => True) (.agg #[.int .i64 1, .slice (some ⟨w.heap.size, 0, none⟩) 1 1, .slice (some ⟨w.heap.size + 1, 0, none⟩) 1 1]) oneA := by
  have h1 := (Blk.new w #[.string ⟨#[97]⟩, .slice none 0 0, .int .i64 0] 50).alloc (.cells #[.int .i64 0] 3)
  have h2 := Blk.new (w.alloc (.cells #[.string ⟨#[97]⟩, .slice none 0 0, .int .i64 0] 50)) #[.int .i64 0] 3
  rw [World.size_alloc] at h2
  refine ⟨_, _, _, _, rfl, ⟨by simp [oneA], Or.inr ⟨_, _, rfl, trivial, fun i hi => ?_⟩⟩, ⟨_, _, rfl, by simp [oneA], Or.inr ⟨_, _, rfl, trivial, fun i hi => ?_⟩⟩⟩
  · have : i = 0 := by simp [oneA] at hi; omega
    subst this
    exact ⟨h1.cell 0, ⟨none, 0, h1.cell 1, ⟨none, 0, rfl, by simp [oneA], Or.inl rfl⟩⟩, h1.cell 2⟩
  · have : i = 0 := by simp [oneA] at hi; omega
    subst this
    exact h2.cell 0

theorem acc_good {A : Au} {t : Tm} {w w' : World} {e : Ending} (h : AcP A t w e w') (h0 : accE A t = 0) (z : Bool) (hz : z = accB A t) : e = .returned (.tuple #[.bool z, .int .i64 0]) ∧ Below w.heap.size w w' := by
  obtain ⟨h1, h2⟩ := h
  rw [h0, if_pos rfl] at h1
  rw [hz]
  exact ⟨h1, h2⟩
theorem grd_acc {A : Au} (hA : OkAu 8 40 A) {t : Tm} (he : errL [t] = 0) (hz : sizeL [t] ≤ 200) (hg : grd t) : accE A t = 0 := by
  have h1 : mayE t = 0 := by unfold mayE; rw [if_neg (by omega)]; exact he
  have h2 : opnB t = false := by
    unfold opnB
    rw [List.any_eq_false]
    intro k hk
    rw [hg k hk]
    simp
  unfold accE
  rw [if_pos (auE_zero.2 hA), if_pos h1, h2]
  rfl
theorem oneA_ok : accE oneA ⟨⟨#[97]⟩, []⟩ = 0 := grd_acc oneA_okA (err_leaf (by decide)) (by simp [sizeL]) (grd_leaf (by decide))
/-- What Some gives. -/
def SmQ (A : Au) (w : World) (e : Ending) (w' : World) : Prop := Below w.heap.size w w' ∧
  ((e = .returned (.tuple #[.agg #[.string ⟨#[]⟩, .slice none 0 0], .int .i64 7]) ∧ ∀ t, sizeL [t] ≤ 2000 → accB A t = false) ∨
   ∃ x a c, e = .returned (.tuple #[.agg #[.string x.name, .slice a x.args.length c], .int .i64 0]) ∧ Sl w' (fun _ => True) a x.args ∧ (accE A x = 0 ∧ accB A x = true) ∧ ∀ t, sizeL [t] ≤ 2000 → accB A t = true → sizeL [x] ≤ sizeL [t])
theorem some_good {A : Au} {w w' : World} {e : Ending} (hA : OkAu 8 40 A) (h4 : A.st ≤ 4) (h : SmP A w e w') : SmQ A w e w' := by
  obtain ⟨hb, h⟩ := h
  refine ⟨hb, ?_⟩
  rcases h with ⟨h, _⟩ | ⟨_, n, st, hn, hf, ho, _, h⟩
  · exact absurd (auE_zero.2 hA) h
  · have key := some_top hA hn (by omega) hf ho
    rcases h with ⟨h1, h2⟩ | ⟨x, a, c, h1, h2, h3⟩
    · exact Or.inl ⟨h2, key.1 h1⟩
    · exact Or.inr ⟨x, a, c, h2, h3, key.2 x h1⟩
/-- What AutoFrom gives. -/
def AfT (n : Nat) (w : World) (e : Ending) (w' : World) : Prop := ∃ (v : Value) (A : Au), e = .returned v ∧ AV w' (fun _ => True) v A ∧ OkAu 8 40 A ∧ A.st = (n : Int) ∧ Below w.heap.size w w'

set_option maxHeartbeats 20000000 in
theorem topSome_from (zs : List Int) (hr : ∀ z ∈ zs, Rng z) (y1 y2 : Int) (hy1 : Rng y1) (hy2 : Rng y2) (u : Value) (w : World) (X : Nat → Prop) (hu : PV w X u zs)
    (AF : Hid (zs.length ≤ 256 → ∀ (k m : Nat) (w' : World), k < 4 → m < 12 → Below w.heap.size w w' → Calls Try.prog 16 #[u, .int .i64 0, .int .i64 (1 + (k : Int)), .int .i64 (m : Int)] w' fun e w'' => AfT (1 + k) w' e w'')) :
    Calls Try.prog 4 #[u, .int .i64 y1, .int .i64 y2] w fun e w' => e = .returned (.bool true) ∧ Below w.heap.size w w' := by
  have HU := hide hu
  obtain ⟨au, cu, rfl, hlc, hu2⟩ := hu
  clear hu2
  by_cases h256 : 256 < zs.length
  · go_enter Try.func4, Try.ntmps4
    go_wp2_with fail
    go_ret
    exact ⟨rfl, Below.refl _ _⟩
  go_enter Try.func4, Try.ntmps4
  go_wp2_with fail
  refine (pick_any _ 4 (by decide) (by decide) hy1 _).mono ?_
  rintro e w2 ⟨k, rfl, hk, hw2⟩
  rw [hw2]
  clear hw2 w2
  go_wp2_with fail
  refine (pick_any _ 12 (by decide) (by decide) hy2 _).mono ?_
  rintro e w2 ⟨m, rfl, hm, hw2⟩
  rw [hw2]
  clear hw2 w2
  go_wp2_with fail
  refine (AF.out (by omega) k m _ hk hm (Below.refl _ _)).mono ?_
  rintro e w2 ⟨v, A, rfl, hav, hok, hst, hb2⟩
  have OK := hide hok
  have H4 : Hid (A.st ≤ 4) := by unfold Hid; omega
  have AV2 := hide hav
  obtain ⟨am, cm, al, cl, rfl, -, -⟩ := hav
  have A3 : Hid (EvS (fun wr => (Blk wr w2.heap.size #[.int .i64 A.st, .slice am A.mv.length cm, .slice al A.la.length cl] 25 ∧ AV wr (fun _ => True) (.agg #[.int .i64 A.st, .slice am A.mv.length cm, .slice al A.la.length cl]) A) ∧ Below w.heap.size w wr) (w2.alloc (.cells #[.int .i64 A.st, .slice am A.mv.length cm, .slice al A.la.length cl] 25))) := ((evS_blk (Blk.new w2 _ _)).and ((evS_av AV2.out).alloc _)).and ((evS_below hb2).alloc _)
  clear hok hst hb2 AV2 AF hk hm
  go_upto_region 4 with fail
  generalize w2.heap.size = PA at *
  generalize w2.alloc (.cells #[.int .i64 A.st, .slice am A.mv.length cm, .slice al A.la.length cl] 25) = w3 at *
  clear w2
  go_wp2_with fail
  refine (ground_any zs hr (by omega) 14 80 _ _ X (by exact HU.out.later A3.out.now.2) (by decide) (by decide)).mono ?_
  rintro e w4 ⟨at0, ct, n1, t, rfl, hs4, hz4, _, _, hb4, he4, hg4⟩
  have HZT : Hid (sizeL [t] ≤ 27) := hz4
  have HAT : Hid (accE A t = 0) := grd_acc OK.out he4 (by have := HZT.out; omega) hg4
  have A5 := hide (A3.out.box (T := 28) hb4 hs4 ct)
  clear hs4 hz4 hb4 he4 hg4 A3
  go_upto_region 5 with fail
  generalize w4.heap.size = PT at *
  generalize w4.alloc (.cells #[.string t.name, .slice at0 t.args.length ct] 28) = w5 at *
  clear w4
  obtain ⟨z, hz⟩ : ∃ z : Bool, z = accB A t := ⟨_, rfl⟩
  have HZ := hide hz
  clear hz
  have a0 : w5.cell? ⟨PA, 0, none⟩ = some (.int .i64 A.st) := A5.out.now.1.1.1.cell 0
  have a1 : w5.cell? ⟨PA, 1, none⟩ = some (.slice am A.mv.length cm) := A5.out.now.1.1.1.cell 1
  have a2 : w5.cell? ⟨PA, 2, none⟩ = some (.slice al A.la.length cl) := A5.out.now.1.1.1.cell 2
  have x0 : w5.cell? ⟨PT, 0, none⟩ = some (.string t.name) := A5.out.now.2.1.cell 0
  have x1 : w5.cell? ⟨PT, 1, none⟩ = some (.slice at0 t.args.length ct) := A5.out.now.2.1.cell 1
  go_wp2_with fail
  refine (accepts_any A t _ _ _ (fun _ => True) (by exact A5.out.now.1.1.2) ⟨_, _, rfl, A5.out.now.2.2⟩).mono ?_
  rintro e w6 h6
  obtain ⟨rfl, hb⟩ := acc_good h6 HAT.out z HZ.out
  have A6 := hide (A5.out.later hb)
  clear h6 hb A5 a0 a1 a2 x0 x1
  go_upto_region 6 with fail
  have a0 : w6.cell? ⟨PA, 0, none⟩ = some (.int .i64 A.st) := A6.out.now.1.1.1.cell 0
  have a1 : w6.cell? ⟨PA, 1, none⟩ = some (.slice am A.mv.length cm) := A6.out.now.1.1.1.cell 1
  have a2 : w6.cell? ⟨PA, 2, none⟩ = some (.slice al A.la.length cl) := A6.out.now.1.1.1.cell 2
  go_wp2_with fail
  refine (some_any A _ _ (fun _ => True) (by exact A6.out.now.1.1.2)).mono ?_
  rintro e w7 hq7
  obtain ⟨hb, h7⟩ := some_good OK.out H4.out hq7
  clear a0 a1 a2 hq7
  rcases h7 with ⟨rfl, hno⟩ | ⟨x, ax, cx, rfl, hsx, hacc, hsm⟩
  · have HNO : Hid (z = false) := by rw [Hid, HZ.out]; exact hno t (by have := HZT.out; omega)
    have A8 : Hid (EvS (fun wr => Below w.heap.size w wr) (w7.alloc (.cells #[.string ⟨#[]⟩, .slice none 0 0] 28))) := (evS_below (A6.out.later hb).now.1.2).alloc _
    clear hno hb A6
    go_upto_region 7 with fail
    generalize w7.heap.size = PX at *
    generalize w7.alloc (.cells #[.string ⟨#[]⟩, .slice none 0 0] 28) = w8 at *
    clear w7
    go_wp2_with fail
    have AO := hide (oneA_av w8)
    have A9 := hide ((A8.out.alloc (.cells #[.string ⟨#[97]⟩, .slice none 0 0, .int .i64 0] 50)).alloc (.cells #[.int .i64 0] 3))
    refine (leafS_any _ _).mono ?_
    rintro e w10 ⟨rfl, hb⟩
    have AO10 := hide (AO.out.later hb)
    have A10 := hide (A9.out.later hb)
    clear hb AO A9
    go_wp2_with fail
    refine (accepts_any oneA ⟨⟨#[97]⟩, []⟩ _ _ _ (fun _ => True) (by exact AO10.out) ⟨none, 0, rfl, by simp, Or.inl rfl⟩).mono ?_
    rintro e w12 h12
    obtain ⟨rfl, hb⟩ := acc_good h12 oneA_ok true oneA_in.symm
    have A12 := hide (A10.out.later hb)
    clear h12 hb A10 AO10 A8
    have hz := HNO.out
    subst hz
    go_wp2_with fail
    go_ret
    exact ⟨rfl, A12.out.now⟩
  · have HAX := hide hacc
    have HSM := hide hsm
    have A8 := hide (A6.out.box (T := 28) hb hsx cx)
    clear hb hsx hacc hsm A6
    go_upto_region 7 with fail
    generalize w7.heap.size = PX at *
    generalize w7.alloc (.cells #[.string x.name, .slice ax x.args.length cx] 28) = w8 at *
    clear w7
    go_wp2_with fail
    have AO := hide (oneA_av w8)
    have A9 := hide ((A8.out.alloc (.cells #[.string ⟨#[97]⟩, .slice none 0 0, .int .i64 0] 50)).alloc (.cells #[.int .i64 0] 3))
    refine (leafS_any _ _).mono ?_
    rintro e w10 ⟨rfl, hb⟩
    have AO10 := hide (AO.out.later hb)
    have A10 := hide (A9.out.later hb)
    clear hb AO A9
    go_wp2_with fail
    refine (accepts_any oneA ⟨⟨#[97]⟩, []⟩ _ _ _ (fun _ => True) (by exact AO10.out) ⟨none, 0, rfl, by simp, Or.inl rfl⟩).mono ?_
    rintro e w12 h12
    obtain ⟨rfl, hb⟩ := acc_good h12 oneA_ok true oneA_in.symm
    have A12 := hide (A10.out.later hb)
    clear h12 hb A10 AO10 A8
    go_upto_region 12 with fail
    have a0 : w12.cell? ⟨PA, 0, none⟩ = some (.int .i64 A.st) := A12.out.now.1.1.1.1.cell 0
    have a1 : w12.cell? ⟨PA, 1, none⟩ = some (.slice am A.mv.length cm) := A12.out.now.1.1.1.1.cell 1
    have a2 : w12.cell? ⟨PA, 2, none⟩ = some (.slice al A.la.length cl) := A12.out.now.1.1.1.1.cell 2
    have x0 : w12.cell? ⟨PX, 0, none⟩ = some (.string x.name) := A12.out.now.2.1.cell 0
    have x1 : w12.cell? ⟨PX, 1, none⟩ = some (.slice ax x.args.length cx) := A12.out.now.2.1.cell 1
    go_wp2_with fail
    refine (accepts_any A x _ _ _ (fun _ => True) (by exact A12.out.now.1.1.1.2) ⟨_, _, rfl, A12.out.now.2.2⟩).mono ?_
    rintro e w13 h13
    obtain ⟨rfl, hb⟩ := acc_good h13 HAX.out.1 true HAX.out.2.symm
    have A13 := hide (A12.out.later hb)
    clear h13 hb A12 a0 a1 a2 x0 x1
    go_upto_region 13 with fail
    cases z with
    | false =>
      clear HZ
      have kd : Below w13.heap.size w13 w13.drew := (Below.refl _ _).drew
      refine wp_region_held_drew (S := Below w13.heap.size w13) (by kernel_rfl) kd (fun hHeld => ?_)
      refine wpAnyH_take (i := 0) (v := ?_) rfl (by kernel_rfl) (by kernel_rfl) (by kernel_rfl) (fun _ _ _ h => h) (Or.inl ⟨by rfl, ?_⟩) (by assumption) ?_
      rotate_left
      · intro w' hSw
        go_simp <;> with_reducible rfl
      try simp only [Act.put, List.setIfInBounds_toArray, List.set_cons_zero, List.set_cons_succ, List.getElem_toArray, List.getElem_cons_succ, List.getElem_cons_zero]
      refine wpAnyH_take (i := 1) (v := ?_) rfl (by kernel_rfl) (by kernel_rfl) (by kernel_rfl) (fun _ _ _ h => h) (Or.inl ⟨by rfl, ?_⟩) (by assumption) ?_
      rotate_left
      · intro w' hSw
        go_simp <;> with_reducible rfl
      try simp only [Act.put, List.setIfInBounds_toArray, List.set_cons_zero, List.set_cons_succ, List.getElem_toArray, List.getElem_cons_succ, List.getElem_cons_zero]
      refine wpAnyH_take (i := 2) (v := ?_) rfl (by kernel_rfl) (by kernel_rfl) (by kernel_rfl) (fun _ _ _ h => h) (Or.inl ⟨by rfl, ?_⟩) (by assumption) ?_
      rotate_left
      · intro w' hSw
        go_simp <;> with_reducible rfl
      try simp only [Act.put, List.setIfInBounds_toArray, List.set_cons_zero, List.set_cons_succ, List.getElem_toArray, List.getElem_cons_succ, List.getElem_cons_zero]
      refine wpAnyH_take (i := 3) (v := ?_) rfl (by kernel_rfl) (by kernel_rfl) (by kernel_rfl) (fun _ _ _ h => h) (Or.inl ⟨by rfl, ?_⟩) (by assumption) ?_
      rotate_left
      · intro w' hSw
        go_simp <;> with_reducible rfl
      try simp only [Act.put, List.setIfInBounds_toArray, List.set_cons_zero, List.set_cons_succ, List.getElem_toArray, List.getElem_cons_succ, List.getElem_cons_zero]
      refine wpAnyH_take (i := 4) (v := ?_) rfl (by kernel_rfl) (by kernel_rfl) (by kernel_rfl) (fun _ _ _ h => h) (Or.inl ⟨by rfl, ?_⟩) (by assumption) ?_
      rotate_left
      · intro w' hSw
        go_simp <;> with_reducible rfl
      try simp only [Act.put, List.setIfInBounds_toArray, List.set_cons_zero, List.set_cons_succ, List.getElem_toArray, List.getElem_cons_succ, List.getElem_cons_zero]
      refine wpAnyH_take (i := 5) (v := ?_) rfl (by kernel_rfl) (by kernel_rfl) (by kernel_rfl) (fun _ _ _ h => h) (Or.inl ⟨by rfl, ?_⟩) (by assumption) ?_
      rotate_left
      · intro w' hSw
        go_simp <;> with_reducible rfl
      try simp only [Act.put, List.setIfInBounds_toArray, List.set_cons_zero, List.set_cons_succ, List.getElem_toArray, List.getElem_cons_succ, List.getElem_cons_zero]
      refine wpAnyH_take (i := 6) (v := ?_) rfl (by kernel_rfl) (by kernel_rfl) (by kernel_rfl) (fun _ _ _ h => h) (Or.inl ⟨by rfl, ?_⟩) (by assumption) ?_
      rotate_left
      · intro w' hSw
        go_simp <;> with_reducible rfl
      try simp only [Act.put, List.setIfInBounds_toArray, List.set_cons_zero, List.set_cons_succ, List.getElem_toArray, List.getElem_cons_succ, List.getElem_cons_zero]
      refine wpAnyH_take (i := 7) (v := ?_) rfl (by kernel_rfl) (by kernel_rfl) (by kernel_rfl) (fun _ _ _ h => h) (Or.inl ⟨by rfl, ?_⟩) (by assumption) ?_
      rotate_left
      · intro w' hSw
        go_simp <;> with_reducible rfl
      try simp only [Act.put, List.setIfInBounds_toArray, List.set_cons_zero, List.set_cons_succ, List.getElem_toArray, List.getElem_cons_succ, List.getElem_cons_zero]
      refine wpAnyH_take (i := 8) (v := ?_) rfl (by kernel_rfl) (by kernel_rfl) (by kernel_rfl) (fun _ _ _ h => h) (Or.inl ⟨by rfl, ?_⟩) (by assumption) ?_
      rotate_left
      · intro w' hSw
        go_simp <;> with_reducible rfl
      try simp only [Act.put, List.setIfInBounds_toArray, List.set_cons_zero, List.set_cons_succ, List.getElem_toArray, List.getElem_cons_succ, List.getElem_cons_zero]
      refine wpAnyH_take (i := 9) (v := ?_) rfl (by kernel_rfl) (by kernel_rfl) (by kernel_rfl) (fun _ _ _ h => h) (Or.inl ⟨by rfl, ?_⟩) (by assumption) ?_
      rotate_left
      · intro w' hSw
        go_simp <;> with_reducible rfl
      try simp only [Act.put, List.setIfInBounds_toArray, List.set_cons_zero, List.set_cons_succ, List.getElem_toArray, List.getElem_cons_succ, List.getElem_cons_zero]
      refine wpAnyH_take (i := 10) (v := ?_) rfl (by kernel_rfl) (by kernel_rfl) (by kernel_rfl) (fun _ _ _ h => h) (Or.inl ⟨by rfl, ?_⟩) (by assumption) ?_
      rotate_left
      · intro w' hSw
        go_simp <;> with_reducible rfl
      try simp only [Act.put, List.setIfInBounds_toArray, List.set_cons_zero, List.set_cons_succ, List.getElem_toArray, List.getElem_cons_succ, List.getElem_cons_zero]
      refine wpAnyH_take (i := 11) (v := ?_) rfl (by kernel_rfl) (by kernel_rfl) (by kernel_rfl) (fun _ _ _ h => h) (Or.inl ⟨by rfl, ?_⟩) (by assumption) ?_
      rotate_left
      · intro w' hSw
        go_simp <;> with_reducible rfl
      try simp only [Act.put, List.setIfInBounds_toArray, List.set_cons_zero, List.set_cons_succ, List.getElem_toArray, List.getElem_cons_succ, List.getElem_cons_zero]
      refine wpAnyH_take (i := 12) (v := ?_) rfl (by kernel_rfl) (by kernel_rfl) (by kernel_rfl) (fun _ _ _ h => h) (Or.inl ⟨by rfl, ?_⟩) (by assumption) ?_
      rotate_left
      · intro w' hSw
        go_simp <;> with_reducible rfl
      try simp only [Act.put, List.setIfInBounds_toArray, List.set_cons_zero, List.set_cons_succ, List.getElem_toArray, List.getElem_cons_succ, List.getElem_cons_zero]
      refine wpAnyH_take (i := 13) (v := undef) rfl (by kernel_rfl) (by kernel_rfl) (by kernel_rfl) (fun _ _ _ h => h) (Or.inr ⟨by rfl, rfl⟩) (by assumption) ?_
      try simp only [Act.put, List.setIfInBounds_toArray, List.set_cons_zero, List.set_cons_succ, List.getElem_toArray, List.getElem_cons_succ, List.getElem_cons_zero]
      refine wpAnyH_take (i := 14) (v := undef) rfl (by kernel_rfl) (by kernel_rfl) (by kernel_rfl) (fun _ _ _ h => h) (Or.inr ⟨by rfl, rfl⟩) (by assumption) ?_
      try simp only [Act.put, List.setIfInBounds_toArray, List.set_cons_zero, List.set_cons_succ, List.getElem_toArray, List.getElem_cons_succ, List.getElem_cons_zero]
      refine wpAnyH_take (i := 15) (v := undef) rfl (by kernel_rfl) (by kernel_rfl) (by kernel_rfl) (fun _ _ _ h => h) (Or.inr ⟨by rfl, rfl⟩) (by assumption) ?_
      try simp only [Act.put, List.setIfInBounds_toArray, List.set_cons_zero, List.set_cons_succ, List.getElem_toArray, List.getElem_cons_succ, List.getElem_cons_zero]
      refine wpAnyH_take (i := 16) (v := undef) rfl (by kernel_rfl) (by kernel_rfl) (by kernel_rfl) (fun _ _ _ h => h) (Or.inr ⟨by rfl, rfl⟩) (by assumption) ?_
      try simp only [Act.put, List.setIfInBounds_toArray, List.set_cons_zero, List.set_cons_succ, List.getElem_toArray, List.getElem_cons_succ, List.getElem_cons_zero]
      refine wpAnyH_take (i := 17) (v := undef) rfl (by kernel_rfl) (by kernel_rfl) (by kernel_rfl) (fun _ _ _ h => h) (Or.inr ⟨by rfl, rfl⟩) (by assumption) ?_
      try simp only [Act.put, List.setIfInBounds_toArray, List.set_cons_zero, List.set_cons_succ, List.getElem_toArray, List.getElem_cons_succ, List.getElem_cons_zero]
      refine wpAnyH_take (i := 18) (v := ?_) rfl (by kernel_rfl) (by kernel_rfl) (by kernel_rfl) (fun _ _ _ h => h) (Or.inl ⟨by rfl, ?_⟩) (by assumption) ?_
      rotate_left
      · intro w' hSw
        go_simp <;> with_reducible rfl
      try simp only [Act.put, List.setIfInBounds_toArray, List.set_cons_zero, List.set_cons_succ, List.getElem_toArray, List.getElem_cons_succ, List.getElem_cons_zero]
      refine wpAnyH_take (i := 19) (v := ?_) rfl (by kernel_rfl) (by kernel_rfl) (by kernel_rfl) (fun _ _ _ h => h) (Or.inl ⟨by rfl, ?_⟩) (by assumption) ?_
      rotate_left
      · intro w' hSw
        go_simp <;> with_reducible rfl
      try simp only [Act.put, List.setIfInBounds_toArray, List.set_cons_zero, List.set_cons_succ, List.getElem_toArray, List.getElem_cons_succ, List.getElem_cons_zero]
      refine wpAnyH_take (i := 20) (v := ?_) rfl (by kernel_rfl) (by kernel_rfl) (by kernel_rfl) (fun _ _ _ h => h) (Or.inl ⟨by rfl, ?_⟩) (by assumption) ?_
      rotate_left
      · intro w' hSw
        go_simp <;> with_reducible rfl
      try simp only [Act.put, List.setIfInBounds_toArray, List.set_cons_zero, List.set_cons_succ, List.getElem_toArray, List.getElem_cons_succ, List.getElem_cons_zero]
      refine wpAnyH_done (by kernel_rfl) ?_ _
      go_wp2_with fail
      go_ret
      exact ⟨rfl, (A13.out _ kd).1.1.2⟩
    | true =>
      have HLE : Hid (sizeL [x] ≤ sizeL [t]) := HSM.out t (by have := HZT.out; omega) HZ.out.symm
      have KP : Hid (∀ w', Below w13.heap.size w13 w' → (w'.cell? ⟨PX, 0, none⟩ = some (.string x.name) ∧ w'.cell? ⟨PX, 1, none⟩ = some (.slice ax x.args.length cx)) ∧ w'.cell? ⟨PT, 0, none⟩ = some (.string t.name) ∧ w'.cell? ⟨PT, 1, none⟩ = some (.slice at0 t.args.length ct)) := fun w' hb =>
        ⟨⟨(A13.out w' hb).2.1.cell 0, (A13.out w' hb).2.1.cell 1⟩, (A13.out w' hb).1.2.1.cell 0, (A13.out w' hb).1.2.1.cell 1⟩
      have HMX : Hid (min (sizeL [x] : Int) (2000 + 1) = (sizeL [x] : Int)) := by have := HLE.out; have := HZT.out; unfold Hid; omega
      have HMT : Hid (min (sizeL [t] : Int) (2000 + 1) = (sizeL [t] : Int)) := by have := HZT.out; unfold Hid; omega
      have kd : Below w13.heap.size w13 w13.drew := (Below.refl _ _).drew
      refine wp_region_held_drew (S := Below w13.heap.size w13) (by kernel_rfl) kd (fun hHeld => ?_)
      refine wpAnyH_take (i := 0) (v := ?_) rfl (by kernel_rfl) (by kernel_rfl) (by kernel_rfl) (fun _ _ _ h => h) (Or.inl ⟨by rfl, ?_⟩) (by assumption) ?_
      rotate_left
      · intro w' hSw
        go_simp <;> with_reducible rfl
      try simp only [Act.put, List.setIfInBounds_toArray, List.set_cons_zero, List.set_cons_succ, List.getElem_toArray, List.getElem_cons_succ, List.getElem_cons_zero]
      refine wpAnyH_take (i := 1) (v := ?_) rfl (by kernel_rfl) (by kernel_rfl) (by kernel_rfl) (fun _ _ _ h => h) (Or.inl ⟨by rfl, ?_⟩) (by assumption) ?_
      rotate_left
      · intro w' hSw
        go_simp <;> with_reducible rfl
      try simp only [Act.put, List.setIfInBounds_toArray, List.set_cons_zero, List.set_cons_succ, List.getElem_toArray, List.getElem_cons_succ, List.getElem_cons_zero]
      refine wpAnyH_take (i := 2) (v := ?_) rfl (by kernel_rfl) (by kernel_rfl) (by kernel_rfl) (fun _ _ _ h => h) (Or.inl ⟨by rfl, ?_⟩) (by assumption) ?_
      rotate_left
      · intro w' hSw
        go_simp <;> with_reducible rfl
      try simp only [Act.put, List.setIfInBounds_toArray, List.set_cons_zero, List.set_cons_succ, List.getElem_toArray, List.getElem_cons_succ, List.getElem_cons_zero]
      refine wpAnyH_take (i := 3) (v := ?_) rfl (by kernel_rfl) (by kernel_rfl) (by kernel_rfl) (fun _ _ _ h => h) (Or.inl ⟨by rfl, ?_⟩) (by assumption) ?_
      rotate_left
      · intro w' hSw
        go_simp <;> with_reducible rfl
      try simp only [Act.put, List.setIfInBounds_toArray, List.set_cons_zero, List.set_cons_succ, List.getElem_toArray, List.getElem_cons_succ, List.getElem_cons_zero]
      refine wpAnyH_take (i := 4) (v := ?_) rfl (by kernel_rfl) (by kernel_rfl) (by kernel_rfl) (fun _ _ _ h => h) (Or.inl ⟨by rfl, ?_⟩) (by assumption) ?_
      rotate_left
      · intro w' hSw
        go_simp <;> with_reducible rfl
      try simp only [Act.put, List.setIfInBounds_toArray, List.set_cons_zero, List.set_cons_succ, List.getElem_toArray, List.getElem_cons_succ, List.getElem_cons_zero]
      refine wpAnyH_take (i := 5) (v := ?_) rfl (by kernel_rfl) (by kernel_rfl) (by kernel_rfl) (fun _ _ _ h => h) (Or.inl ⟨by rfl, ?_⟩) (by assumption) ?_
      rotate_left
      · intro w' hSw
        go_simp <;> with_reducible rfl
      try simp only [Act.put, List.setIfInBounds_toArray, List.set_cons_zero, List.set_cons_succ, List.getElem_toArray, List.getElem_cons_succ, List.getElem_cons_zero]
      refine wpAnyH_take (i := 6) (v := ?_) rfl (by kernel_rfl) (by kernel_rfl) (by kernel_rfl) (fun _ _ _ h => h) (Or.inl ⟨by rfl, ?_⟩) (by assumption) ?_
      rotate_left
      · intro w' hSw
        go_simp <;> with_reducible rfl
      try simp only [Act.put, List.setIfInBounds_toArray, List.set_cons_zero, List.set_cons_succ, List.getElem_toArray, List.getElem_cons_succ, List.getElem_cons_zero]
      refine wpAnyH_take (i := 7) (v := ?_) rfl (by kernel_rfl) (by kernel_rfl) (by kernel_rfl) (fun _ _ _ h => h) (Or.inl ⟨by rfl, ?_⟩) (by assumption) ?_
      rotate_left
      · intro w' hSw
        go_simp <;> with_reducible rfl
      try simp only [Act.put, List.setIfInBounds_toArray, List.set_cons_zero, List.set_cons_succ, List.getElem_toArray, List.getElem_cons_succ, List.getElem_cons_zero]
      refine wpAnyH_take (i := 8) (v := ?_) rfl (by kernel_rfl) (by kernel_rfl) (by kernel_rfl) (fun _ _ _ h => h) (Or.inl ⟨by rfl, ?_⟩) (by assumption) ?_
      rotate_left
      · intro w' hSw
        go_simp <;> with_reducible rfl
      try simp only [Act.put, List.setIfInBounds_toArray, List.set_cons_zero, List.set_cons_succ, List.getElem_toArray, List.getElem_cons_succ, List.getElem_cons_zero]
      refine wpAnyH_take (i := 9) (v := ?_) rfl (by kernel_rfl) (by kernel_rfl) (by kernel_rfl) (fun _ _ _ h => h) (Or.inl ⟨by rfl, ?_⟩) (by assumption) ?_
      rotate_left
      · intro w' hSw
        go_simp <;> with_reducible rfl
      try simp only [Act.put, List.setIfInBounds_toArray, List.set_cons_zero, List.set_cons_succ, List.getElem_toArray, List.getElem_cons_succ, List.getElem_cons_zero]
      refine wpAnyH_take (i := 10) (v := ?_) rfl (by kernel_rfl) (by kernel_rfl) (by kernel_rfl) (fun _ _ _ h => h) (Or.inl ⟨by rfl, ?_⟩) (by assumption) ?_
      rotate_left
      · intro w' hSw
        go_simp <;> with_reducible rfl
      try simp only [Act.put, List.setIfInBounds_toArray, List.set_cons_zero, List.set_cons_succ, List.getElem_toArray, List.getElem_cons_succ, List.getElem_cons_zero]
      refine wpAnyH_take (i := 11) (v := ?_) rfl (by kernel_rfl) (by kernel_rfl) (by kernel_rfl) (fun _ _ _ h => h) (Or.inl ⟨by rfl, ?_⟩) (by assumption) ?_
      rotate_left
      · intro w' hSw
        go_simp <;> with_reducible rfl
      try simp only [Act.put, List.setIfInBounds_toArray, List.set_cons_zero, List.set_cons_succ, List.getElem_toArray, List.getElem_cons_succ, List.getElem_cons_zero]
      refine wpAnyH_take (i := 12) (v := ?_) rfl (by kernel_rfl) (by kernel_rfl) (by kernel_rfl) (fun _ _ _ h => h) (Or.inl ⟨by rfl, ?_⟩) (by assumption) ?_
      rotate_left
      · intro w' hSw
        go_simp <;> with_reducible rfl
      try simp only [Act.put, List.setIfInBounds_toArray, List.set_cons_zero, List.set_cons_succ, List.getElem_toArray, List.getElem_cons_succ, List.getElem_cons_zero]
      refine wpAnyH_take (i := 13) (v := ?_) rfl (by kernel_rfl) (by kernel_rfl) (by kernel_rfl) (fun _ _ _ h => h) (Or.inl ⟨by rfl, ?_⟩) (by assumption) ?_
      rotate_left
      · intro w' hSw
        obtain ⟨⟨x0, x1⟩, x2, x3⟩ := KP.out w' hSw
        go_simp <;> with_reducible rfl
      try simp only [Act.put, List.setIfInBounds_toArray, List.set_cons_zero, List.set_cons_succ, List.getElem_toArray, List.getElem_cons_succ, List.getElem_cons_zero]
      refine wpAnyH_take (i := 15) (v := ?_) rfl (by kernel_rfl) (by kernel_rfl) (by kernel_rfl) (fun _ _ _ h => h) (Or.inl ⟨by rfl, ?_⟩) (by assumption) ?_
      rotate_left
      · intro w' hSw
        obtain ⟨⟨x0, x1⟩, x2, x3⟩ := KP.out w' hSw
        go_simp <;> with_reducible rfl
      try simp only [Act.put, List.setIfInBounds_toArray, List.set_cons_zero, List.set_cons_succ, List.getElem_toArray, List.getElem_cons_succ, List.getElem_cons_zero]
      refine wpAnyH_ready (rs := [14]) (by kernel_rfl) (by simp) ?_
      refine AllReadyH.cons rfl (fun K hK => ?_) AllReadyH.nil
      go_simp
      go_at_call 20
      refine (size_any x _ 2000 _ (fun _ => True) ⟨_, _, rfl, (A13.out _ kd).2.2⟩ (by omega) (by omega)).mono ?_
      rintro e w5 ⟨rfl, hb5⟩
      rw [HMX.out]
      have k5 : Below w13.heap.size w13 w5 := kd.trans (hb5.mono kd.size)
      clear hb5
      go_simp
      refine hK.out _ _ (by exact k5) (fun hHeld => ?_)
      clear hK K
      try simp only [Act.put, List.setIfInBounds_toArray, List.set_cons_zero, List.set_cons_succ, List.getElem_toArray, List.getElem_cons_succ, List.getElem_cons_zero]
      refine wpAnyH_ready (rs := [16]) (by kernel_rfl) (by simp) ?_
      refine AllReadyH.cons rfl (fun K hK => ?_) AllReadyH.nil
      go_simp
      go_at_call 20
      refine (size_any t _ 2000 _ (fun _ => True) ⟨_, _, rfl, (A13.out _ k5).1.2.2⟩ (by omega) (by omega)).mono ?_
      rintro e w6 ⟨rfl, hb6⟩
      rw [HMT.out]
      have k6 : Below w13.heap.size w13 w6 := k5.trans (hb6.mono k5.size)
      clear hb6
      go_simp
      refine hK.out _ _ (by exact k6) (fun hHeld => ?_)
      clear hK K
      try simp only [Act.put, List.setIfInBounds_toArray, List.set_cons_zero, List.set_cons_succ, List.getElem_toArray, List.getElem_cons_succ, List.getElem_cons_zero]
      have hle : decide ((sizeL [x] : Int) ≤ (sizeL [t] : Int)) = true := decide_eq_true (by have := HLE.out; omega)
      refine wpAnyH_take (i := 17) (v := ?_) rfl (by kernel_rfl) (by kernel_rfl) (by kernel_rfl) (fun _ _ _ h => h) (Or.inl ⟨by rfl, ?_⟩) (by assumption) ?_
      rotate_left
      · intro w' hSw
        go_simp <;> with_reducible rfl
      try simp only [Act.put, List.setIfInBounds_toArray, List.set_cons_zero, List.set_cons_succ, List.getElem_toArray, List.getElem_cons_succ, List.getElem_cons_zero]
      refine wpAnyH_take (i := 18) (v := ?_) rfl (by kernel_rfl) (by kernel_rfl) (by kernel_rfl) (fun _ _ _ h => h) (Or.inl ⟨by rfl, ?_⟩) (by assumption) ?_
      rotate_left
      · intro w' hSw
        go_simp <;> with_reducible rfl
      try simp only [Act.put, List.setIfInBounds_toArray, List.set_cons_zero, List.set_cons_succ, List.getElem_toArray, List.getElem_cons_succ, List.getElem_cons_zero]
      refine wpAnyH_take (i := 19) (v := ?_) rfl (by kernel_rfl) (by kernel_rfl) (by kernel_rfl) (fun _ _ _ h => h) (Or.inl ⟨by rfl, ?_⟩) (by assumption) ?_
      rotate_left
      · intro w' hSw
        go_simp <;> with_reducible rfl
      try simp only [Act.put, List.setIfInBounds_toArray, List.set_cons_zero, List.set_cons_succ, List.getElem_toArray, List.getElem_cons_succ, List.getElem_cons_zero]
      refine wpAnyH_take (i := 20) (v := ?_) rfl (by kernel_rfl) (by kernel_rfl) (by kernel_rfl) (fun _ _ _ h => h) (Or.inl ⟨by rfl, ?_⟩) (by assumption) ?_
      rotate_left
      · intro w' hSw
        go_simp <;> with_reducible rfl
      try simp only [Act.put, List.setIfInBounds_toArray, List.set_cons_zero, List.set_cons_succ, List.getElem_toArray, List.getElem_cons_succ, List.getElem_cons_zero]
      refine wpAnyH_done (by kernel_rfl) ?_ _
      go_wp2_with fail
      go_ret
      exact ⟨by show Ending.returned (.bool (decide (sizeL [x] ≤ sizeL [t]))) = _; rw [decide_eq_true HLE.out], (A13.out _ k6).1.1.2⟩
end Go.Proofs.Ytdencaekailmcaa
