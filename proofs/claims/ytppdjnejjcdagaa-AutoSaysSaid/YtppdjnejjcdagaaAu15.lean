/- Walks: is a term accepted? -/
import Derived.Test.YtppdjnejjcdagaaAu14
namespace Go.Proofs.Ytppdjnejjcdagaa
open Go.RowKit
set_option linter.unusedSimpArgs false
set_option linter.unusedVariables false
set_option maxRecDepth 8000

theorem any_take {l : List Int} {f : Int → Bool} {k : Nat} (h : k < l.length) (hk : (l.take k).any f = false) (h1 : f l[k] = false) : (l.take (k + 1)).any f = false := by
  rw [List.take_succ_eq_append_getElem h, List.any_append, hk]
  simp [h1]
set_option maxHeartbeats 1000000 in
theorem lasts_any (A : Au) {S M : Nat} (hA : OkAu S M A) (nn : Nat) (hn : A.st = (nn : Int)) (bs : List Bool) (hbl : bs.length = nn) (va : Value) (ab : Option Addr) (cb : Nat) (w : World) (X : Nat → Prop) (hva : AV w X va A) (hvb : LV Value.bool w X (.slice ab nn cb) bs) :
    Calls Try.prog 20 #[va, .slice ab nn cb] w fun e w' => e = .returned (.bool (lasB A bs)) ∧ Below w.heap.size w w' := by
  obtain ⟨am, cm, al, cl, rfl, _, hp⟩ := hva
  have hpl := hp.len.1
  have B1 : Hid (Below w.heap.size w (w.alloc (.cells #[.int .i64 A.st, .slice am A.mv.length cm, .slice al A.la.length cl] 25))) := (Below.refl _ _).alloc (Nat.le_refl _) _
  have T1 : Hid (Blk (w.alloc (.cells #[.int .i64 A.st, .slice am A.mv.length cm, .slice al A.la.length cl] 25)) w.heap.size #[.int .i64 A.st, .slice am A.mv.length cm, .slice al A.la.length cl] 25) := Blk.new w _ _
  have P1 := hide (hp.later B1.out)
  have L1 := hide (hvb.later B1.out)
  have HA := hide hA
  have HN := hide hn
  have HBL := hide hbl
  clear hp hvb hA hn hbl
  generalize hE : lasB A bs = E
  unfold lasB at hE
  have HE := hide hE
  clear hE
  go_enter Try.func20, Try.ntmps20
  go_upto_region 1 with fail
  generalize (w.alloc (.cells #[.int .i64 A.st, .slice am A.mv.length cm, .slice al A.la.length cl] 25)) = w1 at *
  have c2 : w1.cell? ⟨w.heap.size, 2, none⟩ = some (.slice al A.la.length cl) := T1.out.cell 2
  have hlt1 := T1.out.lt
  go_wp2_with fail
  go_loopw [5] (fun i wr => ∃ k : Nat, k ≤ A.la.length ∧ i = .int .i64 (k : Int) ∧ ((A.la.take k).any fun i => bitAt bs i) = false ∧ wr = w1) (fun i wr => A.la.length - (intOf i).toNat)
  case atStart => exact ⟨0, Nat.zero_le _, rfl, rfl, rfl⟩
  case round =>
    obtain ⟨k, hk, rfl, hok, rfl⟩ := hrel
    have HOK := hide hok
    clear hok
    by_cases hlt : k < A.la.length
    · have hki : (k : Int) < (A.la.length : Int) := by omega
      obtain ⟨b, o, rfl, hb, hc⟩ := P1.out.at (Below.refl wr.heap.size wr) k hlt
      have hr := HA.out.la _ (List.getElem_mem hlt)
      obtain ⟨t, ht⟩ : ∃ t : Nat, A.la[k] = (t : Int) := ⟨A.la[k].toNat, by omega⟩
      have htn : t < bs.length := by rw [HBL.out]; have := HN.out; omega
      obtain ⟨bx, ox, rfl, hbx, hcx⟩ := L1.out.at (Below.refl wr.heap.size wr) t htn
      have HBIT : Hid (bitAt bs A.la[k] = bs[t]) := by unfold Hid bitAt; rw [ht, Int.toNat_natCast, List.getElem?_eq_getElem htn]; rfl
      rw [ht] at hc
      have htni : (t : Int) < (nn : Int) := by rw [HBL.out] at htn; omega
      obtain ⟨bit, hbit⟩ : ∃ bit, bit = bs[t] := ⟨_, rfl⟩
      have HBB : Hid (bitAt bs A.la[k] = bit) := by unfold Hid; rw [HBIT.out, hbit]
      rw [← hbit] at hcx
      clear ht hr htn hbit HBIT
      cases bit with
      | true =>
        have hE : E = true := by
          have h6 : (A.la.any fun i => bitAt bs i) = true := List.any_eq_true.2 ⟨A.la[k], List.getElem_mem hlt, HBB.out⟩
          rw [← HE.out, h6]
        subst hE
        go_wp2_with fail
        go_ret
        exact ⟨rfl, B1.out⟩
      | false =>
        have HNX := hide (any_take hlt HOK.out HBB.out)
        go_wp2_with fail
        go_roundw
        case rel => exact ⟨k + 1, by omega, by go_num, HNX.out, trivial⟩
        case measure => simp [intOf]; omega
    · have hki : ¬ (k : Int) < (A.la.length : Int) := by omega
      have hE : E = false := by
        have h6 := HOK.out
        rw [List.take_of_length_le (by omega)] at h6
        rw [← HE.out, h6]
      subst hE
      go_wp2_with fail
      go_ret
      exact ⟨rfl, B1.out⟩
set_option maxHeartbeats 2000000 in
theorem acceptsOf_any (A : Au) {S M : Nat} (hS : S ≤ 64) (hM : M ≤ 100000) (hA : OkAu S M A) (t : Tm) (hsz : sizeL [t] ≤ 200) (va vt : Value) (w : World) (X : Nat → Prop) (hva : AV w X va A) (hvt : TV w X vt t) :
    Calls Try.prog 9 #[va, vt] w fun e w' => e = .returned (.bool (accB A t)) ∧ Below w.heap.size w w' := by
  obtain ⟨nn, hn⟩ : ∃ nn : Nat, A.st = (nn : Int) := ⟨A.st.toNat, by have := hA.pos; omega⟩
  have HAV := hide hva
  have HTV := hide hvt
  obtain ⟨am, cm, al, cl, rfl, _, _⟩ := hva
  obtain ⟨at0, ct, rfl, _⟩ := hvt
  have HNT : Hid (A.st.toNat = nn) := by unfold Hid; omega
  generalize hW : ((w.alloc (.cells #[.int .i64 A.st, .slice am A.mv.length cm, .slice al A.la.length cl] 25)).alloc (.cells #[.string t.name, .slice at0 t.args.length ct] 28)) = w2
  have B2 : Hid (Below w.heap.size w w2) := by unfold Hid; rw [← hW]; exact ((Below.refl _ _).alloc (Nat.le_refl _) _).alloc (by simp) _
  have A2 : Hid (Blk w2 w.heap.size #[.int .i64 A.st, .slice am A.mv.length cm, .slice al A.la.length cl] 25) := by unfold Hid; rw [← hW]; exact (Blk.new w _ _).alloc _
  have T2 : Hid (Blk w2 (w.heap.size + 1) #[.string t.name, .slice at0 t.args.length ct] 28) := by
    unfold Hid; rw [← hW]
    have h := Blk.new (w.alloc (.cells #[.int .i64 A.st, .slice am A.mv.length cm, .slice al A.la.length cl] 25)) #[.string t.name, .slice at0 t.args.length ct] 28
    rw [World.size_alloc] at h
    exact h
  have HW := hide hW
  have HA := hide hA
  have HN := hide hn
  clear hW hA hn
  go_enter Try.func9, Try.ntmps9
  go_upto_region 1 with fail
  rw [HW.out]
  clear HW
  obtain ⟨T, hT⟩ : ∃ T, T = w.heap.size + 1 := ⟨_, rfl⟩
  rw [← hT] at T2 ⊢
  clear hT
  have KP : Hid (∀ w', Below w2.heap.size w2 w' → w'.cell? ⟨w.heap.size, 0, none⟩ = some (.int .i64 A.st) ∧ w'.cell? ⟨w.heap.size, 1, none⟩ = some (.slice am A.mv.length cm) ∧ w'.cell? ⟨w.heap.size, 2, none⟩ = some (.slice al A.la.length cl) ∧ w'.cell? ⟨T, 0, none⟩ = some (.string t.name) ∧ w'.cell? ⟨T, 1, none⟩ = some (.slice at0 t.args.length ct)) := fun w' hb => ⟨(A2.out.below hb A2.out.lt).cell 0, (A2.out.below hb A2.out.lt).cell 1, (A2.out.below hb A2.out.lt).cell 2, (T2.out.below hb T2.out.lt).cell 0, (T2.out.below hb T2.out.lt).cell 1⟩
  have VA : Hid (∀ w', Below w2.heap.size w2 w' → AV w' X (.agg #[.int .i64 A.st, .slice am A.mv.length cm, .slice al A.la.length cl]) A) := fun w' hb => HAV.out.later (B2.out.trans (hb.mono B2.out.size))
  have VT : Hid (∀ w', Below w2.heap.size w2 w' → TV w' X (.agg #[.string t.name, .slice at0 t.args.length ct]) t) := fun w' hb => HTV.out.later (B2.out.trans (hb.mono B2.out.size))
  have k2d : Below w2.heap.size w2 w2.drew := (Below.refl _ _).drew
  have HS := hide (KP.out _ k2d)
  have al2 := A2.out.lt
  have tl2 := T2.out.lt
  refine wp_region_held_drew (S := (fun w' => w'.cell? ⟨w.heap.size, 0, none⟩ = some (.int .i64 A.st) ∧ w'.cell? ⟨w.heap.size, 1, none⟩ = some (.slice am A.mv.length cm) ∧ w'.cell? ⟨w.heap.size, 2, none⟩ = some (.slice al A.la.length cl) ∧ w'.cell? ⟨T, 0, none⟩ = some (.string t.name) ∧ w'.cell? ⟨T, 1, none⟩ = some (.slice at0 t.args.length ct))) (by kernel_rfl) HS.out (fun hHeld => ?_)
  refine wpAnyH_take (i := 0) (v := ?_) rfl (by kernel_rfl) (by kernel_rfl) (by kernel_rfl) (fun _ _ _ h => h) (Or.inl ⟨by rfl, ?_⟩) (by assumption) ?_
  rotate_left
  · intro w' hSw
    obtain ⟨e0, e1, e2, e3, e4⟩ := hSw
    go_simp <;> with_reducible rfl
  try simp only [Act.put, List.setIfInBounds_toArray, List.set_cons_zero, List.set_cons_succ, List.getElem_toArray, List.getElem_cons_succ, List.getElem_cons_zero]
  refine wpAnyH_take (i := 1) (v := ?_) rfl (by kernel_rfl) (by kernel_rfl) (by kernel_rfl) (fun _ _ _ h => h) (Or.inl ⟨by rfl, ?_⟩) (by assumption) ?_
  rotate_left
  · intro w' hSw
    obtain ⟨e0, e1, e2, e3, e4⟩ := hSw
    go_simp <;> with_reducible rfl
  try simp only [Act.put, List.setIfInBounds_toArray, List.set_cons_zero, List.set_cons_succ, List.getElem_toArray, List.getElem_cons_succ, List.getElem_cons_zero]
  refine wpAnyH_take (i := 2) (v := ?_) rfl (by kernel_rfl) (by kernel_rfl) (by kernel_rfl) (fun _ _ _ h => h) (Or.inl ⟨by rfl, ?_⟩) (by assumption) ?_
  rotate_left
  · intro w' hSw
    obtain ⟨e0, e1, e2, e3, e4⟩ := hSw
    go_simp <;> with_reducible rfl
  try simp only [Act.put, List.setIfInBounds_toArray, List.set_cons_zero, List.set_cons_succ, List.getElem_toArray, List.getElem_cons_succ, List.getElem_cons_zero]
  refine wpAnyH_ready (rs := [3]) (by kernel_rfl) (by simp) ?_
  refine AllReadyH.cons rfl (fun K hK => ?_) AllReadyH.nil
  go_simp
  go_at_call 21
  refine (endsIn_any A hS hM HA.out nn HN.out t _ _ _ X hsz (by exact VA.out _ k2d) (by exact VT.out _ k2d)).mono ?_
  rintro e w4 ⟨a4, c4, rfl, hl4, hb4⟩
  have k4 : Below w2.heap.size w2 w4 := k2d.trans (hb4.mono k2d.size)
  have L4 := hide (hl4.mono (Y := fun _ => True) fun _ _ _ => trivial)
  clear hl4 hb4
  go_simp
  refine hK.out _ _ (by exact KP.out _ k4) (fun hHeld => ?_)
  clear hK K
  try simp only [Act.put, List.setIfInBounds_toArray, List.set_cons_zero, List.set_cons_succ, List.getElem_toArray, List.getElem_cons_succ, List.getElem_cons_zero]
  refine wpAnyH_ready (rs := [4]) (by kernel_rfl) (by simp) ?_
  refine AllReadyH.cons rfl (fun K hK => ?_) AllReadyH.nil
  go_simp
  go_at_call 20
  refine (lasts_any A HA.out nn HN.out (endT A t) (by unfold endT; rw [edgT_len, HNT.out]) _ _ _ _ (fun _ => True) (by exact (VA.out _ k4).mono fun _ _ _ => trivial) (by exact L4.out)).mono ?_
  rintro e w5 ⟨rfl, hb5⟩
  have k5 : Below w2.heap.size w2 w5 := k4.trans (hb5.mono k4.size)
  clear hb5
  go_simp
  refine hK.out _ _ (by exact KP.out _ k5) (fun hHeld => ?_)
  clear hK K
  try simp only [Act.put, List.setIfInBounds_toArray, List.set_cons_zero, List.set_cons_succ, List.getElem_toArray, List.getElem_cons_succ, List.getElem_cons_zero]
  refine wpAnyH_take (i := 5) (v := ?_) rfl (by kernel_rfl) (by kernel_rfl) (by kernel_rfl) (fun _ _ _ h => h) (Or.inl ⟨by rfl, ?_⟩) (by assumption) ?_
  rotate_left
  · intro w' hSw
    go_simp <;> with_reducible rfl
  try simp only [Act.put, List.setIfInBounds_toArray, List.set_cons_zero, List.set_cons_succ, List.getElem_toArray, List.getElem_cons_succ, List.getElem_cons_zero]
  refine wpAnyH_done (by kernel_rfl) ?_ _
  go_wp2_with fail
  go_ret
  exact ⟨rfl, B2.out.trans (k5.mono B2.out.size)⟩
end Go.Proofs.Ytppdjnejjcdagaa
