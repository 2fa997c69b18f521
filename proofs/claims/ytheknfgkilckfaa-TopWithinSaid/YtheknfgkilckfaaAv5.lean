/- Walks: where a term may end, by the table (auto.table.endOf). -/
import Derived.Test.YtheknfgkilckfaaAv4
import Derived.Test.YtheknfgkilckfaaAu14
namespace Go.Proofs.Ytheknfgkilckfaa
open Go.RowKit
open Go.WideMaps
set_option linter.unusedSimpArgs false
set_option linter.unusedVariables false
set_option maxRecDepth 8000

theorem errL_argsA {t : Tm} (h : errL [t] = 0) : errL t.args = 0 := by
  obtain ⟨s, l⟩ := t
  simp only [errL] at h
  split at h
  · split at h
    · cases h
    · split at h
      · assumption
      · exact absurd h (by assumption)
  · cases h
theorem name_sizeA {t : Tm} (h : errL [t] = 0) : t.name.size ≤ 1000000 := by
  obtain ⟨s, l⟩ := t
  simp only [errL] at h
  split at h
  · rename_i hn
    simp [nameB] at hn
    show s.size ≤ 1000000
    omega
  · cases h
theorem errL_twoA {t : Tm} {r : List Tm} (h : errL (t :: r) = 0) : errL [t] = 0 ∧ errL r = 0 := by
  rw [errL_cons] at h
  split at h
  · rename_i h1; exact ⟨h1, h⟩
  · rename_i h1; exact absurd h h1
theorem errL_memA {l : List Tm} (h : errL l = 0) : ∀ (k : Nat) (hk : k < l.length), errL [l[k]] = 0 := by
  induction l with
  | nil => intro k hk; simp at hk
  | cons t r ih =>
    intro k hk
    obtain ⟨h1, h2⟩ := errL_twoA h
    cases k with
    | zero => exact h1
    | succ k => exact ih h2 k (by simpa using hk)
theorem Try.infoSet : (Try.prog.info? 48).map (fun i => (i.zero, i.size, i.bytes)) = some (some (.int .u64 0), 1, 8) := by kernel_rfl
/-- A set more in a row of one's own. -/
theorem app_set {w : World} {N : Nat} {q : Value} {xs : List Nat} (x : Nat) (hown : w.ownsRow N 48 1 q xs.length (xs.map stV)) (hN : N ≤ w.heap.size) (hl : xs.length ≤ 100000) :
    ∃ q2 w3, (Builtin.append_ #[50, 50] 50 #[q, .slice (some ⟨w.heap.size, 0, none⟩) 1 1]).run Try.prog (w.alloc (.cells #[.int .u64 (x : Int)] 48)) = .ok q2 w3 ∧ w3.ownsRow N 48 1 q2 (xs ++ [x]).length ((xs ++ [x]).map stV) ∧ Below N w w3 := by
  obtain ⟨i0, hi, hz0, hz1, hz2⟩ := info_parts Try.infoSet
  obtain ⟨g, cap, w3, hr, ho, hg, hat, _⟩ := run_append_lies (P := Try.prog) (w := w.alloc (.cells #[.int .u64 (x : Int)] 48)) 50 50 N 48 i0 _ 1 8 Try.underlying50 hi hz0 hz1 hz2 rfl (by decide) q xs.length _ (hown.alloc _) ⟨w.heap.size, 0, none⟩ 1 1 [.int .u64 (x : Int)] rfl (cell_one_newB _ _ _) (fun u hu => by simp at hu; subst hu; rfl) (by decide) (by unfold maxLen; omega) (by omega) (by simp; omega) _ rfl
  exact ⟨_, w3, hr, by simpa [stV] using ho, ((Below.refl N w).alloc hN _).grown hg (by simp; omega) (fun j hj => (hown.lt j hj).1)⟩
/-- What is known of these sets. -/
def SetsAre (xs : List Nat) (bs : List (List Bool)) : Prop := xs.length = bs.length ∧ ∀ (i : Nat) (h1 : i < xs.length) (h2 : i < bs.length), SetIs xs[i] bs[i]
theorem SetsAre.snoc {xs : List Nat} {bs : List (List Bool)} {x : Nat} {b : List Bool} (h : SetsAre xs bs) (hx : SetIs x b) : SetsAre (xs ++ [x]) (bs ++ [b]) := by
  refine ⟨by simp [h.1], fun i h1 h2 => ?_⟩
  have he := h.1
  by_cases hi : i < xs.length
  · rw [List.getElem_append_left hi, List.getElem_append_left (by omega)]
    exact h.2 i hi (by omega)
  · have e : i = xs.length := by simp at h1; omega
    subst e
    have e2 : (bs ++ [b])[xs.length]'h2 = b := by rw [List.getElem_append_right (by omega)]; simp [he]
    rw [List.getElem_append_right (Nat.le_refl _), e2]
    simpa using hx
structure EoI (w : World) (z_ : Nat) (ms : List Mv) (n : Nat) (l : List Tm) (tc xc : Array Value) (A : Nat) (q i : Value) (wr : World) : Prop where
  ex : ∃ (k : Nat) (xs : List Nat), k ≤ l.length ∧ i = .int .i64 (k : Int) ∧ wr.ownsRow (A + 2) 48 1 q xs.length (xs.map stV) ∧ SetsAre xs (endsL ms n (l.take k))
  bl : Below w.heap.size w wr
  ta : Blk wr A tc 54
  tb : Blk wr (A + 1) xc 30

set_option maxHeartbeats 2000000 in
theorem endOf_any (ms : List Mv) (n : Nat) (hn : n ≤ 64) (hok : ∀ m ∈ ms, SyOk (symM m) ∧ (0 ≤ m.to ∧ m.to < (n : Int)) ∧ ∀ z ∈ m.frm, 0 ≤ z ∧ z < (n : Int)) (t : Tm) : ∀ (v vt : Value) (w : World) (X : Nat → Prop), TabV w v ms → TV w X vt t → errL [t] = 0 → sizeL [t] ≤ 100000 →
    Calls Try.prog 22 #[v, vt] w fun e w' => ∃ x, e = .returned (stV x) ∧ SetIs x (edgT ms n t.name (endsL ms n t.args)) ∧ Below w.heap.size w w' := by
  induction t using Tm.ind with
  | h s0 l0 ih =>
    intro v vt w X hv ht hea hsm
    have IH := hide ih
    clear ih
    obtain ⟨t, hte⟩ : ∃ t : Tm, t = ⟨s0, l0⟩ := ⟨_, rfl⟩
    rw [← hte] at ht hea hsm ⊢
    have HTE : Hid (t.args = l0) := by rw [hte]; rfl
    clear hte
    obtain ⟨r, L, a, c, rfl, hm, hl, hall, hrow⟩ := id hv.ex
    obtain ⟨aw, ct, rfl, hst⟩ := ht
    have HV := hide hv
    have HST := hide hst
    have HOK := hide hok
    have HEA := hide hea
    have HSM := hide hsm
    have hlt0 := hst.1
    have HALL := hide hall.1
    have HMAP := hide hm
    have HROW := hide hrow
    have hnm : t.name.size ≤ 1000000 := name_sizeA hea
    have hta : t.args.length ≤ 100000 := by
      have h1 := sizeL_len t.args
      have : sizeL [t] = 1 + sizeL t.args := by obtain ⟨_, _⟩ := t; simp [sizeL]
      omega
    have HSY : Hid (SyOk (t.name, t.args.length)) := ⟨hnm, by simp only; omega⟩
    have B2 : Hid (Below w.heap.size w ((w.alloc (.cells #[.map (some r), .slice a L.length c] 54)).alloc (.cells #[.string t.name, .slice aw t.args.length ct] 30))) := ((Below.refl _ _).alloc (Nat.le_refl _) _).alloc (by simp) _
    have KA : Hid (Blk ((w.alloc (.cells #[.map (some r), .slice a L.length c] 54)).alloc (.cells #[.string t.name, .slice aw t.args.length ct] 30)) w.heap.size #[.map (some r), .slice a L.length c] 54) := (Blk.new _ _ _).alloc _
    have KB : Hid (Blk ((w.alloc (.cells #[.map (some r), .slice a L.length c] 54)).alloc (.cells #[.string t.name, .slice aw t.args.length ct] 30)) (w.heap.size + 1) #[.string t.name, .slice aw t.args.length ct] 30) := by
      have h := Blk.new (w.alloc (.cells #[.map (some r), .slice a L.length c] 54)) #[.string t.name, .slice aw t.args.length ct] 30
      rw [World.size_alloc] at h
      exact h
    have SZ : Hid (((w.alloc (.cells #[.map (some r), .slice a L.length c] 54)).alloc (.cells #[.string t.name, .slice aw t.args.length ct] 30)).heap.size = w.heap.size + 2) := by unfold Hid; simp
    have hlook := run_lookY (HMAP.out.kept (B2.out.block r hm.lt)) (t.name, t.args.length) HSY.out
    unfold symV at hlook
    simp only at hlook
    clear hv hst hok hea hsm hall hm hrow hnm
    have c0 := KA.out.cell 0
    have c1 := KA.out.cell 1
    have d0 := KB.out.cell 0
    have d1 := KB.out.cell 1
    rcases hlook with ⟨i, hi, hLi, hlk⟩ | ⟨hnL, hlk⟩
    · have HLI := hide hLi
      obtain ⟨bg, og, ai, ci, rfl, hgc, hgs⟩ := HROW.out i hi
      have HGC := hide hgc
      have HGS := hide hgs
      have hii : (i : Int) < (L.length : Int) := by omega
      clear hLi hgc hgs
      go_enter Try.func22, Try.ntmps22
      go_upto_region 5 with fail
      go_wp2_with fail
      generalize ((w.alloc (.cells #[.map (some r), .slice (some ⟨bg, og, none⟩) L.length c] 54)).alloc (.cells #[.string t.name, .slice aw t.args.length ct] 30)) = w2 at *
      clear c0 c1 d0 d1 hlk
      obtain ⟨A, hA⟩ : ∃ A, A = w.heap.size := ⟨_, rfl⟩
      rw [← hA] at KA KB SZ
      have HA := hide hA
      clear hA
      go_loopw [7, 27] (fun q i wr => EoI w 0 ms n t.args #[.map (some r), .slice (some ⟨bg, og, none⟩) L.length c] #[.string t.name, .slice aw t.args.length ct] A q i wr) (fun q i wr => t.args.length - (intOf i).toNat)
      case atStart => exact ⟨⟨0, [], Nat.zero_le _, rfl, World.ownsRow_nil _ _ _ _, ⟨by simp [endsL], fun i h => by simp at h⟩⟩, B2.out, KA.out, KB.out⟩
      case round =>
        obtain ⟨⟨k, xs, hk, rfl, hown, hset⟩, hbr, hta', htb'⟩ := hrel
        have OWN := hide hown
        have SET := hide hset
        have HBR := hide hbr
        have TA := hide hta'
        have TB := hide htb'
        clear hown hset hbr hta' htb'
        by_cases hlt : k < t.args.length
        · have hki : (k : Int) < (t.args.length : Int) := by omega
          obtain ⟨b, o, a1, c1, rfl, x0, x1, hx⟩ := (HST.out.mono (Y := fun b => X b ∧ b < w.heap.size) fun b h1 h2 => ⟨h1, h2⟩).get HBR.out (fun b h _ => h.2) k hlt
          have hzk : sizeL [t.args[k]] ≤ 100000 := by
            have h1 := sizeL_take t.args k hlt
            have h2 := sizeL_take_le t.args (k + 1)
            have h3 : sizeL [t] = 1 + sizeL t.args := by obtain ⟨_, _⟩ := t; simp [sizeL]
            have := HSM.out
            omega
          have hek := errL_memA (errL_argsA HEA.out) k hlt
          have hmem : t.args[k] ∈ l0 := by rw [← HTE.out]; exact List.getElem_mem hlt
          have B3 := hide (HBR.out.trans ((one1 wr (.cells #[.string t.args[k].name, .slice a1 t.args[k].args.length c1] 30)).mono HBR.out.size))
          have K3 : Hid (Blk (wr.alloc (.cells #[.string t.args[k].name, .slice a1 t.args[k].args.length c1] 30)) wr.heap.size #[.string t.args[k].name, .slice a1 t.args[k].args.length c1] 30) := Blk.new _ _ _
          have TA3 := hide (TA.out.alloc (.cells #[.string t.args[k].name, .slice a1 t.args[k].args.length c1] 30))
          have TB3 := hide (TB.out.alloc (.cells #[.string t.args[k].name, .slice a1 t.args[k].args.length c1] 30))
          have O3 := hide (OWN.out.alloc (.cells #[.string t.args[k].name, .slice a1 t.args[k].args.length c1] 30))
          have V3 := hide (hx.later (one1 wr (.cells #[.string t.args[k].name, .slice a1 t.args[k].args.length c1] 30)))
          have HEK := hide hek
          have HZK := hide hzk
          have HM := hide hmem
          have HTKE := hide (endsL_take (ms := ms) (n := n) hlt)
          clear hx hek hzk hmem
          go_upto_region 8 with fail
          generalize (wr.alloc (.cells #[.string t.args[k].name, .slice a1 t.args[k].args.length c1] 30)) = w3 at *
          generalize wr.heap.size = D at *
          clear x0 x1
          have y0 := K3.out.cell 0
          have y1 := K3.out.cell 1
          have z0 := TA3.out.cell 0
          have z1 := TA3.out.cell 1
          rw [HA.out] at z0 z1
          go_wp2_with fail
          refine (IH.out t.args[k] HM.out _ _ _ _ (HV.out.later B3.out) V3.out HEK.out HZK.out).mono ?_
          rintro e w4 ⟨x, rfl, hxs, hb4⟩
          have B4 := hide (B3.out.trans (hb4.mono B3.out.size))
          have TA4 := hide (TA3.out.below hb4 TA3.out.lt)
          have TB4 := hide (TB3.out.below hb4 TB3.out.lt)
          have O4 : Hid (w4.ownsRow (A + 2) 48 1 u7 xs.length (xs.map stV)) := ownsRow_at O3.out fun g hg => hb4.block g (O3.out.lt g hg).2
          have hxl : xs.length ≤ 100000 := by have := SET.out.1; rw [endsL_len] at this; simp at this; omega
          have hA4 : A + 2 ≤ w4.heap.size := TB4.out.lt
          obtain ⟨q2, w5, hr5, ho5, hb5⟩ := app_set x O4.out hA4 hxl
          have HR5 := hide hr5
          have O5 := hide ho5
          have HB5 := hide hb5
          have HXS := hide hxs
          clear hb4 hr5 ho5 hb5 hxs y0 y1 z0 z1
          unfold stV
          go_wp2_with (at_builtin; refine wpList_append_eq rfl _ _ _ _ rfl rfl rfl HR5.out ?_)
          go_roundw
          case rel => exact ⟨⟨k + 1, xs ++ [x], by omega, by go_num, O5.out, by rw [HTKE.out]; exact SET.out.snoc HXS.out⟩, B4.out.trans (HB5.out.mono (by have := HA.out; omega)), TA4.out.below HB5.out (by omega), TB4.out.below HB5.out (by omega)⟩
          case measure => simp [intOf]; omega
        · have hki : ¬ (k : Int) < (t.args.length : Int) := by omega
          have htk : t.args.take k = t.args := List.take_of_length_le (by omega)
          rw [htk] at SET
          have hlv := LV.of_own OWN.out
          have HLV := hide (hlv.mono (Y := fun _ => True) fun _ _ _ => trivial)
          have e1 := TA.out.cell 1
          rw [HA.out] at e1
          have gc := cell_below3 HBR.out HGC.out
          have hel : (endsL ms n t.args).length = t.args.length := endsL_len ms n t.args
          have HEL := hide hel
          clear hlv hel htk
          go_wp2_with fail
          refine (aEnd_any (grp ms L[i]) ai ci xs (endsL ms n t.args) (fun m hm => ?_) (fun m hm => ?_) SET.out.1 SET.out.2 (fun m hm z hz => ?_) _ _ (fun _ => True) (HGS.out.later HBR.out) HLV.out).mono ?_
          · have h2 := (List.mem_filter.1 hm).2
            rw [HLI.out] at h2
            simp only [Bool.and_eq_true, decide_eq_true_eq] at h2
            rw [HEL.out, h2.2]
          · have := ((HOK.out m (List.mem_filter.1 hm).1).2.1); omega
          · have := ((HOK.out m (List.mem_filter.1 hm).1).2.2 z hz); omega
          · rintro e w4 ⟨rfl, hb4⟩
            have B4 := hide (HBR.out.trans (hb4.mono HBR.out.size))
            have HIS : Hid (SetIs (endN (grp ms L[i]) (endsL ms n t.args)) (edgT ms n t.name (endsL ms n t.args))) := by
              have h := end_is (name := t.name) (bs := endsL ms n t.args) hn (fun m hm => (HOK.out m hm).2.1)
              rw [HEL.out] at h
              unfold Hid
              rw [HLI.out]
              exact h
            clear hb4 e1 gc
            unfold stV
            go_wp2_with fail
            go_ret
            exact ⟨_, rfl, HIS.out, B4.out⟩
    · have HIS : Hid (SetIs 0 (edgT ms n t.name (endsL ms n t.args))) := by
        have h := end_is (name := t.name) (bs := endsL ms n t.args) hn (fun m hm => (HOK.out m hm).2.1)
        have hel : (endsL ms n t.args).length = t.args.length := endsL_len ms n t.args
        rw [hel, grp_none HALL.out hnL] at h
        exact h
      clear hnL
      go_enter Try.func22, Try.ntmps22
      go_wp2_with fail
      go_ret
      exact ⟨0, rfl, HIS.out, B2.out⟩
end Go.Proofs.Ytheknfgkilckfaa
