/- Walks: is a term open (knots.IsOpen); is it accepted (auto.Accepts). -/
import Derived.Test.YtheknfgkilckfaaAv5
import Derived.Test.YtheknfgkilckfaaAu5
import Derived.Test.YtheknfgkilckfaaZTopWithinOwn
namespace Go.Proofs.Ytheknfgkilckfaa
open Go.RowKit
set_option linter.unusedSimpArgs false
set_option linter.unusedVariables false
set_option maxRecDepth 8000

/-- A variable stands in it. -/
def opnB (t : Tm) : Bool := (preL [t]).any fun k => varB k.name
theorem opnB_eq (t : Tm) : opnB t = (varB t.name || t.args.any opnB) := by
  have key : ∀ l : List Tm, ((preL l).any fun k => varB k.name) = l.any opnB := by
    intro l
    induction l with
    | nil => simp [preL]
    | cons x r ih =>
      have h := preL_append [x] r
      simp only [List.singleton_append] at h
      rw [h, List.any_append, ih, List.any_cons]
      rfl
  obtain ⟨s, l⟩ := t
  unfold opnB
  rw [preL, List.any_cons, List.any_append, key l]
  rw [show preL ([] : List Tm) = [] by simp [preL]]
  simp only [List.any_nil, Bool.or_false]
  rfl
theorem any_takeT {l : List Tm} {f : Tm → Bool} {k : Nat} (h : k < l.length) (hk : (l.take k).any f = false) (h1 : f l[k] = false) : (l.take (k + 1)).any f = false := by
  rw [List.take_succ_eq_append_getElem h, List.any_append, hk]; simp [h1]
theorem any_atT {l : List Tm} {f : Tm → Bool} {k : Nat} (h : k < l.length) (h1 : f l[k] = true) : l.any f = true := List.any_eq_true.2 ⟨_, List.getElem_mem h, h1⟩

set_option maxHeartbeats 1000000 in
theorem indexOpen_of (l : List Tm) (HC : ∀ x ∈ l, ∀ (v : Value) (w : World) (X : Nat → Prop), TV w X v x → Calls Try.prog 21 #[v] w fun e w' => e = .returned (.bool (opnB x)) ∧ Below w.heap.size w w') (a : Option Addr) (c : Nat) (w : World) (X : Nat → Prop) (hs : Sl w X a l) :
    Calls Try.prog 45 #[.slice a l.length c, .func (.func 21) #[] #[]] w fun e w' => ∃ z : Int, e = .returned (.int .i64 z) ∧ decide (0 ≤ z) = l.any opnB ∧ Below w.heap.size w w' := by
  have H := hide HC
  have HS := hide (hs.mono (Y := fun b => X b ∧ b < w.heap.size) fun b h1 h2 => ⟨h1, h2⟩)
  have hl := hs.1
  clear HC hs
  go_enter Try.func45, Try.ntmps45
  go_wp2_with fail
  go_loopw [8] (fun i wr => ∃ k : Nat, k ≤ l.length ∧ i = .int .i64 (k : Int) ∧ (l.take k).any opnB = false ∧ Below w.heap.size w wr) (fun i wr => l.length - (intOf i).toNat)
  case atStart => exact ⟨0, Nat.zero_le _, rfl, by simp, Below.refl _ _⟩
  case round =>
    obtain ⟨k, hk, rfl, hno, hbr⟩ := hrel
    have HNO := hide hno
    have HBR := hide hbr
    clear hno hbr
    by_cases hlt : k < l.length
    · have hki : (k : Int) < (l.length : Int) := by omega
      obtain ⟨b, o, a1, c1, rfl, x0, x1, hx⟩ := HS.out.get HBR.out (fun b h _ => h.2) k hlt
      have HX := hide hx
      clear hx
      go_wp2_with fail
      refine (H.out l[k] (List.getElem_mem hlt) _ _ _ HX.out).mono ?_
      rintro e w2 ⟨rfl, hb2⟩
      have HB2 := hide (HBR.out.trans (hb2.mono HBR.out.size))
      clear hb2 x0 x1
      cases ho : opnB l[k] with
      | true =>
        have HA := hide (any_atT (f := opnB) hlt ho)
        clear ho
        go_wp2_with fail
        go_ret
        exact ⟨_, rfl, by rw [HA.out]; simp, HB2.out⟩
      | false =>
        have HA := hide (any_takeT (f := opnB) hlt HNO.out ho)
        clear ho
        go_wp2_with fail
        go_roundw
        case rel => exact ⟨k + 1, by omega, by go_num, HA.out, HB2.out⟩
        case measure => simp [intOf]; omega
    · have hki : ¬ (k : Int) < (l.length : Int) := by omega
      have HA : Hid (l.any opnB = false) := by have h := HNO.out; rw [List.take_of_length_le (by omega)] at h; exact h
      go_wp2_with fail
      go_ret
      exact ⟨-1, rfl, by rw [HA.out]; rfl, HBR.out⟩
theorem isOpen_any (t : Tm) : ∀ (v : Value) (w : World) (X : Nat → Prop), TV w X v t → Calls Try.prog 21 #[v] w fun e w' => e = .returned (.bool (opnB t)) ∧ Below w.heap.size w w' := by
  induction t using Tm.ind with
  | h s0 l0 ih =>
    intro v w X ht
    have IH := hide ih
    clear ih
    obtain ⟨t, hte⟩ : ∃ t : Tm, t = ⟨s0, l0⟩ := ⟨_, rfl⟩
    rw [← hte] at ht ⊢
    have HTE : Hid (t.args = l0) := by rw [hte]; rfl
    clear hte
    obtain ⟨aw, ct, rfl, hst⟩ := ht
    have B1 : Hid (Below w.heap.size w (w.alloc (.cells #[.string t.name, .slice aw t.args.length ct] 30))) := (Below.refl _ _).alloc (Nat.le_refl _) _
    have K1 : Hid (Blk (w.alloc (.cells #[.string t.name, .slice aw t.args.length ct] 30)) w.heap.size #[.string t.name, .slice aw t.args.length ct] 30) := Blk.new _ _ _
    have S1 := hide (hst.later B1.out)
    have hla := hst.1
    clear hst
    have HV := hide (isVariable_all t.name (w.alloc (.cells #[.string t.name, .slice aw t.args.length ct] 30)))
    have c0 := K1.out.cell 0
    have c1 := K1.out.cell 1
    cases hv : varB t.name with
    | true =>
      have HO : Hid (opnB t = true) := by unfold Hid; rw [opnB_eq, hv]; rfl
      have HVV := hide hv
      clear hv
      go_enter Try.func21, Try.ntmps21
      go_wp2_with fail
      refine HV.out.mono ?_
      rintro e w2 ⟨rfl, rfl⟩
      rw [HVV.out]
      go_wp2_with fail
      go_ret
      exact ⟨by rw [HO.out]; rfl, B1.out⟩
    | false =>
      have HO : Hid (opnB t = t.args.any opnB) := by unfold Hid; rw [opnB_eq, hv]; rfl
      have HVV := hide hv
      clear hv
      go_enter Try.func21, Try.ntmps21
      go_wp2_with fail
      refine HV.out.mono ?_
      rintro e w2 ⟨rfl, rfl⟩
      rw [HVV.out]
      go_wp2_with fail
      generalize (w.alloc (.cells #[.string t.name, .slice aw t.args.length ct] 30)) = w1 at *
      clear c0 c1
      have CF : Calls Try.prog 35 #[.slice aw t.args.length ct, .func (.func 21) #[] #[]] w1 fun e w' => e = .returned (.bool (t.args.any opnB)) ∧ Below w1.heap.size w1 w' := by
        go_enter Try.func35, Try.ntmps35
        go_wp2_with fail
        refine (indexOpen_of t.args (fun x hx v w X h => IH.out x (by rw [← HTE.out]; exact hx) v w X h) aw ct _ _ S1.out).mono ?_
        rintro e w' ⟨z, rfl, hz, hb⟩
        have HZ := hide hz
        have HB := hide hb
        clear hz hb
        go_wp2_with fail
        go_ret
        exact ⟨by rw [← HZ.out]; rfl, HB.out⟩
      refine CF.mono ?_
      rintro e w3 ⟨rfl, hb3⟩
      have B3 := hide (B1.out.trans (hb3.mono B1.out.size))
      clear hb3
      go_wp2_with fail
      go_ret
      exact ⟨by rw [HO.out]; rfl, B3.out⟩
theorem and_las {x : Nat} {l : List Bool} {la : List Int} (hx : SetIs x l) (hla : ∀ z ∈ la, 0 ≤ z ∧ z < 64) : (bits BinOp.and IntKind.u64 (x : Int) (setN la : Int) != 0) = la.any fun i => bitAt l i := by
  rw [u64_and_nat _ _ hx.1 (setN_lt la fun z hz => (hla z hz).2)]
  have h1 : (((x &&& setN la : Nat) : Int) != 0) = ((x &&& setN la) != 0) := by
    cases h : (x &&& setN la) with
    | zero => rfl
    | succ n => simp; omega
  rw [h1, Bool.eq_iff_iff, bne_iff_ne, List.any_eq_true]
  constructor
  · intro hne
    obtain ⟨s, hs⟩ := Nat.exists_testBit_of_ne_zero hne
    rw [Nat.testBit_and, Bool.and_eq_true, hx.2 s, setN_bit la (fun z hz => (hla z hz).1), decide_eq_true_eq] at hs
    exact ⟨_, hs.2, hs.1⟩
  · rintro ⟨z, hz, hb⟩ he
    have h0 := (hla z hz).1
    have h2 : (x &&& setN la).testBit z.toNat = true := by
      rw [Nat.testBit_and, Bool.and_eq_true, hx.2, setN_bit la (fun z hz => (hla z hz).1), decide_eq_true_eq]
      have e : ((z.toNat : Nat) : Int) = z := by omega
      rw [e]
      exact ⟨hb, hz⟩
    rw [he] at h2
    simp at h2
/-- What Accepts tells. -/
def accE (A : Au) (t : Tm) : Int := if auE 8 40 A = 0 then (if mayE t = 0 then (if opnB t = true then 15 else 0) else mayE t) else auE 8 40 A
def AcP (A : Au) (t : Tm) (w : World) (e : Ending) (w' : World) : Prop := e = .returned (.tuple #[.bool (if accE A t = 0 then accB A t else false), .int .i64 (accE A t)]) ∧ Below w.heap.size w w'
theorem okMv_sy {n : Int} {m : Mv} (h : OkMv n m) : SyOk (symM m) := by
  have h1 := h.nm
  simp [nameB] at h1
  have := h.len
  exact ⟨by show m.name.size ≤ 1000000; omega, by show m.frm.length ≤ 1000000; omega⟩
theorem mayE_errA {t : Tm} (h : mayE t = 0) : errL [t] = 0 ∧ sizeL [t] ≤ 200 := by
  unfold mayE at h
  split at h
  · exact absurd h (by decide)
  · exact ⟨by assumption, by omega⟩

set_option maxHeartbeats 2000000 in
theorem accepts_any (A : Au) (t : Tm) (va vt : Value) (w : World) (X : Nat → Prop) (hva : AV w X va A) (hvt : TV w X vt t) :
    Calls Try.prog 8 #[va, vt] w fun e w' => AcP A t w e w' := by
  obtain ⟨am, cm, al, cl, rfl, hm, hla⟩ := hva
  obtain ⟨aw, ct, rfl, hst⟩ := hvt
  have B2 : Hid (Below w.heap.size w ((w.alloc (.cells #[.int .i64 A.st, .slice am A.mv.length cm, .slice al A.la.length cl] 25)).alloc (.cells #[.string t.name, .slice aw t.args.length ct] 30))) := ((Below.refl _ _).alloc (Nat.le_refl _) _).alloc (by simp) _
  have KA : Hid (Blk ((w.alloc (.cells #[.int .i64 A.st, .slice am A.mv.length cm, .slice al A.la.length cl] 25)).alloc (.cells #[.string t.name, .slice aw t.args.length ct] 30)) w.heap.size #[.int .i64 A.st, .slice am A.mv.length cm, .slice al A.la.length cl] 25) := (Blk.new _ _ _).alloc _
  have KB : Hid (Blk ((w.alloc (.cells #[.int .i64 A.st, .slice am A.mv.length cm, .slice al A.la.length cl] 25)).alloc (.cells #[.string t.name, .slice aw t.args.length ct] 30)) (w.heap.size + 1) #[.string t.name, .slice aw t.args.length ct] 30) := by
    have h := Blk.new (w.alloc (.cells #[.int .i64 A.st, .slice am A.mv.length cm, .slice al A.la.length cl] 25)) #[.string t.name, .slice aw t.args.length ct] 30
    rw [World.size_alloc] at h
    exact h
  have AVW : Hid (∀ w', Below w.heap.size w w' → AV w' X (.agg #[.int .i64 A.st, .slice am A.mv.length cm, .slice al A.la.length cl]) A) := fun w' hb => ⟨am, cm, al, cl, rfl, hm.later hb, hla.later hb⟩
  have TVW : Hid (∀ w', Below w.heap.size w w' → TV w' X (.agg #[.string t.name, .slice aw t.args.length ct]) t) := fun w' hb => ⟨aw, ct, rfl, hst.later hb⟩
  have HM := hide hm
  have HLA := hide hla
  have hl1 := hm.1
  have hl2 := hst.1
  clear hm hla hst
  have c0 := KA.out.cell 0
  have c1 := KA.out.cell 1
  have c2 := KA.out.cell 2
  go_enter Try.func8, Try.ntmps8
  go_wp2_with fail
  generalize ((w.alloc (.cells #[.int .i64 A.st, .slice am A.mv.length cm, .slice al A.la.length cl] 25)).alloc (.cells #[.string t.name, .slice aw t.args.length ct] 30)) = w2 at *
  refine (aCheck_any A _ _ _ (AVW.out _ B2.out)).mono ?_
  rintro e w3 ⟨rfl, hb3⟩
  have B3 := hide (B2.out.trans (hb3.mono B2.out.size))
  have KA3 := hide (KA.out.below hb3 KA.out.lt)
  have KB3 := hide (KB.out.below hb3 KB.out.lt)
  clear hb3 c0 c1 c2 KA KB B2
  by_cases h0 : auE 8 40 A = 0
  · have hz0 : (auE 8 40 A != 0) = false := by simp [h0]
    have H0 := hide h0
    clear h0
    have d0 := KB3.out.cell 0
    have d1 := KB3.out.cell 1
    go_wp2_with fail
    refine (check_any t _ _ _ (TVW.out _ B3.out)).mono ?_
    rintro e w4 ⟨rfl, hb4⟩
    have B4 := hide (B3.out.trans (hb4.mono B3.out.size))
    have KA4 := hide (KA3.out.below hb4 KA3.out.lt)
    have KB4 := hide (KB3.out.below hb4 KB3.out.lt)
    clear hb4 d0 d1 KA3 KB3 B3
    by_cases h1 : mayE t = 0
    · have hz1 : (mayE t != 0) = false := by simp [h1]
      have H1 := hide h1
      clear h1
      have d0 := KB4.out.cell 0
      have d1 := KB4.out.cell 1
      go_wp2_with fail
      refine (isOpen_any t _ _ _ (TVW.out _ B4.out)).mono ?_
      rintro e w5 ⟨rfl, hb5⟩
      have B5 := hide (B4.out.trans (hb5.mono B4.out.size))
      have KA5 := hide (KA4.out.below hb5 KA4.out.lt)
      have KB5 := hide (KB4.out.below hb5 KB4.out.lt)
      clear hb5 d0 d1 KA4 KB4 B4
      cases h2 : opnB t with
      | true =>
        have HE : Hid (accE A t = 15) := by unfold Hid accE; rw [if_pos H0.out, if_pos H1.out, if_pos h2]
        clear h2
        go_wp2_with fail
        go_ret2
        exact ⟨by rw [HE.out]; rfl, B5.out⟩
      | false =>
        have HE : Hid (accE A t = 0) := by unfold Hid accE; rw [if_pos H0.out, if_pos H1.out, if_neg (by rw [h2]; decide)]
        clear h2
        have OK := auE_zero.1 H0.out
        have hst8 := OK.st
        have hpos := OK.pos
        obtain ⟨n, hn⟩ : ∃ n : Nat, A.st = (n : Int) := ⟨A.st.toNat, by omega⟩
        have HOK : Hid (∀ m ∈ A.mv, SyOk (symM m) ∧ (0 ≤ m.to ∧ m.to < (n : Int)) ∧ ∀ z ∈ m.frm, 0 ≤ z ∧ z < (n : Int)) := fun m hm => ⟨okMv_sy (OK.mv m hm), by rw [← hn]; exact (OK.mv m hm).to, by rw [← hn]; exact (OK.mv m hm).frm⟩
        have HN : Hid (n ≤ 64) := by unfold Hid; omega
        have HL : Hid (∀ z ∈ A.la, 0 ≤ z ∧ z < 64) := fun z hz => by have := OK.la z hz; omega
        have HML : Hid (A.mv.length ≤ 1000) := by have := OK.len; unfold Hid; omega
        have HT := hide (mayE_errA H1.out)
        have HAC : Hid (∀ l, l = edgT A.mv n t.name (endsL A.mv n t.args) → accB A t = A.la.any fun i => bitAt l i) := fun l hl => by
          unfold accB lasB endT
          rw [hl, hn, Int.toNat_natCast]
        clear OK hst8 hpos hn
        have KP : Hid (∀ w', Below w5.heap.size w5 w' → (w'.cell? ⟨w.heap.size, 0, none⟩ = some (.int .i64 A.st) ∧ w'.cell? ⟨w.heap.size, 1, none⟩ = some (.slice am A.mv.length cm) ∧ w'.cell? ⟨w.heap.size, 2, none⟩ = some (.slice al A.la.length cl)) ∧ w'.cell? ⟨w.heap.size + 1, 0, none⟩ = some (.string t.name) ∧ w'.cell? ⟨w.heap.size + 1, 1, none⟩ = some (.slice aw t.args.length ct)) := fun w' hb =>
          ⟨⟨(KA5.out.below hb KA5.out.lt).cell 0, (KA5.out.below hb KA5.out.lt).cell 1, (KA5.out.below hb KA5.out.lt).cell 2⟩, (KB5.out.below hb KB5.out.lt).cell 0, (KB5.out.below hb KB5.out.lt).cell 1⟩
        have kd : Below w5.heap.size w5 w5.drew := (Below.refl _ _).drew
        have UP : Hid (∀ w', Below w5.heap.size w5 w' → Below w.heap.size w w') := fun w' hb => B5.out.trans (hb.mono B5.out.size)
        go_upto_region 9 with fail
        refine wp_region_held_drew (S := Below w5.heap.size w5) (by kernel_rfl) kd (fun hHeld => ?_)
        refine wpAnyH_take (i := 0) (v := ?_) rfl (by kernel_rfl) (by kernel_rfl) (by kernel_rfl) (fun _ _ _ h => h) (Or.inl ⟨by rfl, ?_⟩) (by assumption) ?_
        rotate_left
        · intro w' hSw
          go_simp <;> with_reducible rfl
        try simp only [Act.put, List.setIfInBounds_toArray, List.set_cons_zero, List.set_cons_succ, List.getElem_toArray, List.getElem_cons_succ, List.getElem_cons_zero]
        refine wpAnyH_take (i := 1) (v := ?_) rfl (by kernel_rfl) (by kernel_rfl) (by kernel_rfl) (fun _ _ _ h => h) (Or.inl ⟨by rfl, ?_⟩) (by assumption) ?_
        rotate_left
        · intro w' hSw
          obtain ⟨⟨x0, x1, x2⟩, x3, x4⟩ := KP.out w' hSw
          go_simp <;> with_reducible rfl
        try simp only [Act.put, List.setIfInBounds_toArray, List.set_cons_zero, List.set_cons_succ, List.getElem_toArray, List.getElem_cons_succ, List.getElem_cons_zero]
        refine wpAnyH_take (i := 3) (v := ?_) rfl (by kernel_rfl) (by kernel_rfl) (by kernel_rfl) (fun _ _ _ h => h) (Or.inl ⟨by rfl, ?_⟩) (by assumption) ?_
        rotate_left
        · intro w' hSw
          obtain ⟨⟨x0, x1, x2⟩, x3, x4⟩ := KP.out w' hSw
          go_simp <;> with_reducible rfl
        try simp only [Act.put, List.setIfInBounds_toArray, List.set_cons_zero, List.set_cons_succ, List.getElem_toArray, List.getElem_cons_succ, List.getElem_cons_zero]
        refine wpAnyH_take (i := 5) (v := ?_) rfl (by kernel_rfl) (by kernel_rfl) (by kernel_rfl) (fun _ _ _ h => h) (Or.inl ⟨by rfl, ?_⟩) (by assumption) ?_
        rotate_left
        · intro w' hSw
          go_simp <;> with_reducible rfl
        try simp only [Act.put, List.setIfInBounds_toArray, List.set_cons_zero, List.set_cons_succ, List.getElem_toArray, List.getElem_cons_succ, List.getElem_cons_zero]
        refine wpAnyH_take (i := 6) (v := ?_) rfl (by kernel_rfl) (by kernel_rfl) (by kernel_rfl) (fun _ _ _ h => h) (Or.inl ⟨by rfl, ?_⟩) (by assumption) ?_
        rotate_left
        · intro w' hSw
          obtain ⟨⟨x0, x1, x2⟩, x3, x4⟩ := KP.out w' hSw
          go_simp <;> with_reducible rfl
        try simp only [Act.put, List.setIfInBounds_toArray, List.set_cons_zero, List.set_cons_succ, List.getElem_toArray, List.getElem_cons_succ, List.getElem_cons_zero]
        refine wpAnyH_ready (rs := [2]) (by kernel_rfl) (by simp) ?_
        refine AllReadyH.cons rfl (fun K hK => ?_) AllReadyH.nil
        go_simp
        go_at_call 16
        refine (tableOf_any A.mv HML.out (fun m hm => (HOK.out m hm).1) am cm _ X (HM.out.later (UP.out _ kd))).mono ?_
        rintro e w6 ⟨v6, rfl, ht6, hb6⟩
        have k6 : Below w5.heap.size w5 w6 := kd.trans (hb6.mono kd.size)
        have V6 := hide ht6
        clear ht6 hb6
        obtain ⟨r6, L6, a6, c6, hv6, _⟩ := id V6.out.ex
        subst hv6
        go_simp
        refine hK.out _ _ (by exact k6) (fun hHeld => ?_)
        clear hK K
        try simp only [Act.put, List.setIfInBounds_toArray, List.set_cons_zero, List.set_cons_succ, List.getElem_toArray, List.getElem_cons_succ, List.getElem_cons_zero]
        refine wpAnyH_ready (rs := [4]) (by kernel_rfl) (by simp) ?_
        refine AllReadyH.cons rfl (fun K hK => ?_) AllReadyH.nil
        go_simp
        go_at_call 22
        refine (endOf_any A.mv n HN.out HOK.out t _ _ _ X V6.out (TVW.out _ (UP.out _ k6)) HT.out.1 (by have := HT.out.2; omega)).mono ?_
        rintro e w7 ⟨x, rfl, hx7, hb7⟩
        have k7 : Below w5.heap.size w5 w7 := k6.trans (hb7.mono k6.size)
        have X7 := hide hx7
        clear hx7 hb7
        unfold stV
        go_simp
        refine hK.out _ _ (by exact k7) (fun hHeld => ?_)
        clear hK K
        try simp only [Act.put, List.setIfInBounds_toArray, List.set_cons_zero, List.set_cons_succ, List.getElem_toArray, List.getElem_cons_succ, List.getElem_cons_zero]
        refine wpAnyH_ready (rs := [7]) (by kernel_rfl) (by simp) ?_
        refine AllReadyH.cons rfl (fun K hK => ?_) AllReadyH.nil
        go_simp
        go_at_call 15
        refine (setOf_any A.la HL.out _ _ X (HLA.out.later (UP.out _ k7))).mono ?_
        rintro e w8 ⟨rfl, rfl⟩
        go_simp
        refine hK.out _ _ (by exact k7) (fun hHeld => ?_)
        clear hK K
        try simp only [Act.put, List.setIfInBounds_toArray, List.set_cons_zero, List.set_cons_succ, List.getElem_toArray, List.getElem_cons_succ, List.getElem_cons_zero]
        refine wpAnyH_take (i := 8) (v := ?_) rfl (by kernel_rfl) (by kernel_rfl) (by kernel_rfl) (fun _ _ _ h => h) (Or.inl ⟨by rfl, ?_⟩) (by assumption) ?_
        rotate_left
        · intro w' hSw
          go_simp <;> with_reducible rfl
        try simp only [Act.put, List.setIfInBounds_toArray, List.set_cons_zero, List.set_cons_succ, List.getElem_toArray, List.getElem_cons_succ, List.getElem_cons_zero]
        refine wpAnyH_take (i := 9) (v := ?_) rfl (by kernel_rfl) (by kernel_rfl) (by kernel_rfl) (fun _ _ _ h => h) (Or.inl ⟨by rfl, ?_⟩) (by assumption) ?_
        rotate_left
        · intro w' hSw
          go_simp <;> with_reducible rfl
        try simp only [Act.put, List.setIfInBounds_toArray, List.set_cons_zero, List.set_cons_succ, List.getElem_toArray, List.getElem_cons_succ, List.getElem_cons_zero]
        refine wpAnyH_take (i := 10) (v := ?_) rfl (by kernel_rfl) (by kernel_rfl) (by kernel_rfl) (fun _ _ _ h => h) (Or.inl ⟨by rfl, ?_⟩) (by assumption) ?_
        rotate_left
        · intro w' hSw
          go_simp <;> with_reducible rfl
        try simp only [Act.put, List.setIfInBounds_toArray, List.set_cons_zero, List.set_cons_succ, List.getElem_toArray, List.getElem_cons_succ, List.getElem_cons_zero]
        refine wpAnyH_take (i := 11) (v := ?_) rfl (by kernel_rfl) (by kernel_rfl) (by kernel_rfl) (fun _ _ _ h => h) (Or.inl ⟨by rfl, ?_⟩) (by assumption) ?_
        rotate_left
        · intro w' hSw
          go_simp <;> with_reducible rfl
        try simp only [Act.put, List.setIfInBounds_toArray, List.set_cons_zero, List.set_cons_succ, List.getElem_toArray, List.getElem_cons_succ, List.getElem_cons_zero]
        refine wpAnyH_done (by kernel_rfl) ?_ _
        rw [and_las X7.out HL.out]
        go_wp2_with fail
        go_ret2
        exact ⟨by rw [HE.out, HAC.out _ rfl]; rfl, UP.out _ k7⟩
    · have hz1 : (mayE t != 0) = true := by simp [h1]
      have HE : Hid (accE A t = mayE t) := by unfold Hid accE; rw [if_pos H0.out, if_neg h1]
      have H1 := hide h1
      clear h1
      go_wp2_with fail
      go_ret2
      exact ⟨by rw [HE.out, if_neg H1.out]; rfl, B4.out⟩
  · have hz0 : (auE 8 40 A != 0) = true := by simp [h0]
    have HE : Hid (accE A t = auE 8 40 A) := by unfold Hid accE; rw [if_neg h0]
    have H0 := hide h0
    clear h0
    go_wp2_with fail
    go_ret2
    exact ⟨by rw [HE.out, if_neg H0.out]; rfl, B3.out⟩
end Go.Proofs.Ytheknfgkilckfaa
