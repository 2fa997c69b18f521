/- Several texts in one. -/
import Derived.Test.YtofebfjkodceeaaAv4
import Derived.Test.YtofebfjkodceeaaZUAutoMadeOwn
import Derived.Test.YtofebfjkodceeaaSq
import Derived.Test.YtofebfjkodceeaaZMAutoMadeOwn
import Derived.Test.YtofebfjkodceeaaZAutoMadeOwn
namespace Go.Proofs.Ytofebfjkodceeaa
open Go.RowKit
open Go.WideMaps
set_option linter.unusedSimpArgs false
set_option linter.unusedVariables false
set_option maxRecDepth 8000
theorem errL_argsA {t : Tm} (h : errL [t] = 0) : errL t.args = 0 := by
 obtain ⟨s, l⟩ := t
 simp only [errL] at h
 split at h
 ·split at h
  ·cases h
  ·split at h
   ·assumption
   ·exact absurd h (by assumption)
 ·cases h
theorem name_sizeA {t : Tm} (h : errL [t] = 0) : t.name.size ≤ 1000000 := by
 obtain ⟨s, l⟩ := t
 simp only [errL] at h
 split at h
 ·rename_i hn
  simp [nameB] at hn
  show s.size ≤ 1000000
  omega
 ·cases h
theorem errL_twoA {t : Tm} {r : List Tm} (h : errL (t :: r) = 0) : errL [t] = 0 ∧ errL r = 0 := by
 rw [errL_cons] at h
 split at h
 ·rename_i h1; exact ⟨h1, h⟩
 ·rename_i h1; exact absurd h h1
theorem errL_memA {l : List Tm} (h : errL l = 0) : ∀ (k : Nat) (hk : k < l.length), errL [l[k]] = 0 := by
 induction l with
 | nil => intro k hk; simp at hk
 | cons t r ih =>
  intro k hk
  obtain ⟨h1, h2⟩ := errL_twoA h
  cases k with
  | zero => exact h1
  | succ k => exact ih h2 k (by simpa using hk)
theorem Try.infoSet : (Try.prog.info? 71).map (fun i => (i.zero, i.size, i.bytes)) = some (some (.int .u64 0), 1, 8) := by kernel_rfl
theorem app_set {w : World} {N : Nat} {q : Value} {xs : List Nat} (x : Nat) (hown : w.ownsRow N 71 1 q xs.length (xs.map stV)) (hN : N ≤ w.heap.size) (hl : xs.length ≤ 100000) :
  ∃ q2 w3, (Builtin.append_ #[95, 95] 95 #[q, .slice (some ⟨w.heap.size, 0, none⟩) 1 1]).run Try.prog (w.alloc (.cells #[.int .u64 (x : Int)] 71)) = .ok q2 w3 ∧ w3.ownsRow N 71 1 q2 (xs ++ [x]).length ((xs ++ [x]).map stV) ∧ Below N w w3 := by
 obtain ⟨i0, hi, hz0, hz1, hz2⟩ := info_parts Try.infoSet
 obtain ⟨g, cap, w3, hr, ho, hg, hat, _⟩ := run_append_lies (P := Try.prog) (w := w.alloc (.cells #[.int .u64 (x : Int)] 71)) 95 95 N 71 i0 _ 1 8 Try.underlying95 hi hz0 hz1 hz2 rfl (by decide) q xs.length _ (hown.alloc _) ⟨w.heap.size, 0, none⟩ 1 1 [.int .u64 (x : Int)] rfl (cell_one_newB _ _ _) (fun u hu => by simp at hu; subst hu; rfl) (by decide) (by unfold maxLen; omega) (by omega) (by simp; omega) _ rfl
 exact ⟨_, w3, hr, by simpa [stV] using ho, ((Below.refl N w).alloc hN _).grown hg (by simp; omega) (fun j hj => (hown.lt j hj).1)⟩
def SetsAre (xs : List Nat) (bs : List (List Bool)) : Prop := xs.length = bs.length ∧ ∀ (i : Nat) (h1 : i < xs.length) (h2 : i < bs.length), SetIs xs[i] bs[i]
theorem SetsAre.snoc {xs : List Nat} {bs : List (List Bool)} {x : Nat} {b : List Bool} (h : SetsAre xs bs) (hx : SetIs x b) : SetsAre (xs ++ [x]) (bs ++ [b]) := by
 refine ⟨by simp [h.1], fun i h1 h2 => ?_⟩
 have he := h.1
 by_cases hi : i < xs.length
 ·rw [List.getElem_append_left hi, List.getElem_append_left (by omega)]
  exact h.2 i hi (by omega)
 ·have e : i = xs.length := by simp at h1; omega
  subst e
  have e2 : (bs ++ [b])[xs.length]'h2 = b := by rw [List.getElem_append_right (by omega)]; simp [he]
  rw [List.getElem_append_right (Nat.le_refl _), e2]
  simpa using hx
structure EoI (w : World) (z_ : Nat) (ms : List Mv) (n : Nat) (l : List Tm) (tc xc : Array Value) (A : Nat) (q i : Value) (wr : World) : Prop where
 ex : ∃ (k : Nat) (xs : List Nat), k ≤ l.length ∧ i = .int .i64 (k : Int) ∧ wr.ownsRow (A + 2) 71 1 q xs.length (xs.map stV) ∧ SetsAre xs (endsL ms n (l.take k))
 bl : Below w.heap.size w wr
 ta : Blk wr A tc 75
 tb : Blk wr (A + 1) xc 30
set_option maxHeartbeats 2000000 in
theorem endOf_any (ms : List Mv) (n : Nat) (hn : n ≤ 64) (hok : ∀ m ∈ ms, SyOk (symM m) ∧ (0 ≤ m.to ∧ m.to < (n : Int)) ∧ ∀ z ∈ m.frm, 0 ≤ z ∧ z < (n : Int)) (t : Tm) : ∀ (v vt : Value) (w : World) (X : Nat → Prop), TabV w v ms → TV w X vt t → errL [t] = 0 → sizeL [t] ≤ 100000 →
  Calls Try.prog 41 #[v, vt] w fun e w' => ∃ x, e = .returned (stV x) ∧ SetIs x (edgT ms n t.name (endsL ms n t.args)) ∧ Below w.heap.size w w' := by
 induction t using Tm.ind with
 | h s0 l0 ih =>
  intro v vt w X hv ht hea hsm
  have IH := hide ih
  clear ih
  obtain ⟨t, hte⟩ : ∃ t : Tm, t = ⟨s0, l0⟩ := ⟨_, rfl⟩
  rw [← hte] at ht hea hsm ⊢
  have HTE : Hid (t.args = l0) := by rw [hte]; rfl
  clear hte
  obtain ⟨r, L, a, c, rfl, hm, hl, hall, hrow⟩ := id hv.ex
  obtain ⟨aw, ct, rfl, hst⟩ := ht
  have HV := hide hv
  have HST := hide hst
  have HOK := hide hok
  have HEA := hide hea
  have HSM := hide hsm
  have hlt0 := hst.1
  have HALL := hide hall.1
  have HMAP := hide hm
  have HROW := hide hrow
  have hnm : t.name.size ≤ 1000000 := name_sizeA hea
  have hta : t.args.length ≤ 100000 := by
   have h1 := sizeL_len t.args
   have : sizeL [t] = 1 + sizeL t.args := by obtain ⟨_, _⟩ := t; simp [sizeL]
   omega
  have HSY : Hid (SyOk (t.name, t.args.length)) := ⟨hnm, by simp only; omega⟩
  have B2 : Hid (Below w.heap.size w ((w.alloc (.cells #[.map (some r), .slice a L.length c] 75)).alloc (.cells #[.string t.name, .slice aw t.args.length ct] 30))) := ((Below.refl _ _).alloc (Nat.le_refl _) _).alloc (by simp) _
  have KA : Hid (Blk ((w.alloc (.cells #[.map (some r), .slice a L.length c] 75)).alloc (.cells #[.string t.name, .slice aw t.args.length ct] 30)) w.heap.size #[.map (some r), .slice a L.length c] 75) := (Blk.new _ _ _).alloc _
  have KB : Hid (Blk ((w.alloc (.cells #[.map (some r), .slice a L.length c] 75)).alloc (.cells #[.string t.name, .slice aw t.args.length ct] 30)) (w.heap.size + 1) #[.string t.name, .slice aw t.args.length ct] 30) := by
   have h := Blk.new (w.alloc (.cells #[.map (some r), .slice a L.length c] 75)) #[.string t.name, .slice aw t.args.length ct] 30
   rw [World.size_alloc] at h
   exact h
  have SZ : Hid (((w.alloc (.cells #[.map (some r), .slice a L.length c] 75)).alloc (.cells #[.string t.name, .slice aw t.args.length ct] 30)).heap.size = w.heap.size + 2) := by unfold Hid; simp
  have hlook := run_lookY (HMAP.out.kept (B2.out.block r hm.lt)) (t.name, t.args.length) HSY.out
  unfold symV at hlook
  simp only at hlook
  clear hv hst hok hea hsm hall hm hrow hnm
  have c0 := KA.out.cell 0
  have c1 := KA.out.cell 1
  have d0 := KB.out.cell 0
  have d1 := KB.out.cell 1
  rcases hlook with ⟨i, hi, hLi, hlk⟩ | ⟨hnL, hlk⟩
  ·have HLI := hide hLi
   obtain ⟨bg, og, ai, ci, rfl, hgc, hgs⟩ := HROW.out i hi
   have HGC := hide hgc
   have HGS := hide hgs
   have hii : (i : Int) < (L.length : Int) := by omega
   clear hLi hgc hgs
   go_enter Try.func41, Try.ntmps41
   go_upto_region 5 with fail
   go_wp2_with fail
   generalize ((w.alloc (.cells #[.map (some r), .slice (some ⟨bg, og, none⟩) L.length c] 75)).alloc (.cells #[.string t.name, .slice aw t.args.length ct] 30)) = w2 at *
   clear c0 c1 d0 d1 hlk
   obtain ⟨A, hA⟩ : ∃ A, A = w.heap.size := ⟨_, rfl⟩
   rw [← hA] at KA KB SZ
   have HA := hide hA
   clear hA
   go_loopw [7, 27] (fun q i wr => EoI w 0 ms n t.args #[.map (some r), .slice (some ⟨bg, og, none⟩) L.length c] #[.string t.name, .slice aw t.args.length ct] A q i wr) (fun q i wr => t.args.length - (intOf i).toNat)
   case atStart => exact ⟨⟨0, [], Nat.zero_le _, rfl, World.ownsRow_nil _ _ _ _, ⟨by simp [endsL], fun i h => by simp at h⟩⟩, B2.out, KA.out, KB.out⟩
   case round =>
    obtain ⟨⟨k, xs, hk, rfl, hown, hset⟩, hbr, hta', htb'⟩ := hrel
    have OWN := hide hown
    have SET := hide hset
    have HBR := hide hbr
    have TA := hide hta'
    have TB := hide htb'
    clear hown hset hbr hta' htb'
    by_cases hlt : k < t.args.length
    ·have hki : (k : Int) < (t.args.length : Int) := by omega
     obtain ⟨b, o, a1, c1, rfl, x0, x1, hx⟩ := (HST.out.mono (Y := fun b => X b ∧ b < w.heap.size) fun b h1 h2 => ⟨h1, h2⟩).get HBR.out (fun b h _ => h.2) k hlt
     have hzk : sizeL [t.args[k]] ≤ 100000 := by
      have h1 := sizeL_take t.args k hlt
      have h2 := sizeL_take_le t.args (k + 1)
      have h3 : sizeL [t] = 1 + sizeL t.args := by obtain ⟨_, _⟩ := t; simp [sizeL]
      have := HSM.out
      omega
     have hek := errL_memA (errL_argsA HEA.out) k hlt
     have hmem : t.args[k] ∈ l0 := by rw [← HTE.out]; exact List.getElem_mem hlt
     have B3 := hide (HBR.out.trans ((one1 wr (.cells #[.string t.args[k].name, .slice a1 t.args[k].args.length c1] 30)).mono HBR.out.size))
     have K3 : Hid (Blk (wr.alloc (.cells #[.string t.args[k].name, .slice a1 t.args[k].args.length c1] 30)) wr.heap.size #[.string t.args[k].name, .slice a1 t.args[k].args.length c1] 30) := Blk.new _ _ _
     have TA3 := hide (TA.out.alloc (.cells #[.string t.args[k].name, .slice a1 t.args[k].args.length c1] 30))
     have TB3 := hide (TB.out.alloc (.cells #[.string t.args[k].name, .slice a1 t.args[k].args.length c1] 30))
     have O3 := hide (OWN.out.alloc (.cells #[.string t.args[k].name, .slice a1 t.args[k].args.length c1] 30))
     have V3 := hide (hx.later (one1 wr (.cells #[.string t.args[k].name, .slice a1 t.args[k].args.length c1] 30)))
     have HEK := hide hek
     have HZK := hide hzk
     have HM := hide hmem
     have HTKE := hide (endsL_take (ms := ms) (n := n) hlt)
     clear hx hek hzk hmem
     go_upto_region 8 with fail
     generalize (wr.alloc (.cells #[.string t.args[k].name, .slice a1 t.args[k].args.length c1] 30)) = w3 at *
     generalize wr.heap.size = D at *
     clear x0 x1
     have y0 := K3.out.cell 0
     have y1 := K3.out.cell 1
     have z0 := TA3.out.cell 0
     have z1 := TA3.out.cell 1
     rw [HA.out] at z0 z1
     go_wp2_with fail
     refine (IH.out t.args[k] HM.out _ _ _ _ (HV.out.later B3.out) V3.out HEK.out HZK.out).mono ?_
     rintro e w4 ⟨x, rfl, hxs, hb4⟩
     have B4 := hide (B3.out.trans (hb4.mono B3.out.size))
     have TA4 := hide (TA3.out.below hb4 TA3.out.lt)
     have TB4 := hide (TB3.out.below hb4 TB3.out.lt)
     have O4 : Hid (w4.ownsRow (A + 2) 71 1 u7 xs.length (xs.map stV)) := ownsRow_at O3.out fun g hg => hb4.block g (O3.out.lt g hg).2
     have hxl : xs.length ≤ 100000 := by have := SET.out.1; rw [endsL_len] at this; simp at this; omega
     have hA4 : A + 2 ≤ w4.heap.size := TB4.out.lt
     obtain ⟨q2, w5, hr5, ho5, hb5⟩ := app_set x O4.out hA4 hxl
     have HR5 := hide hr5
     have O5 := hide ho5
     have HB5 := hide hb5
     have HXS := hide hxs
     clear hb4 hr5 ho5 hb5 hxs y0 y1 z0 z1
     unfold stV
     go_wp2_with (at_builtin; refine wpList_append_eq rfl _ _ _ _ rfl rfl rfl HR5.out ?_)
     go_roundw
     case rel => exact ⟨⟨k + 1, xs ++ [x], by omega, by go_num, O5.out, by rw [HTKE.out]; exact SET.out.snoc HXS.out⟩, B4.out.trans (HB5.out.mono (by have := HA.out; omega)), TA4.out.below HB5.out (by omega), TB4.out.below HB5.out (by omega)⟩
     case measure => simp [intOf]; omega
    ·have hki : ¬ (k : Int) < (t.args.length : Int) := by omega
     have htk : t.args.take k = t.args := List.take_of_length_le (by omega)
     rw [htk] at SET
     have hlv := LV.of_own OWN.out
     have HLV := hide (hlv.mono (Y := fun _ => True) fun _ _ _ => trivial)
     have e1 := TA.out.cell 1
     rw [HA.out] at e1
     have gc := cell_below3 HBR.out HGC.out
     have hel : (endsL ms n t.args).length = t.args.length := endsL_len ms n t.args
     have HEL := hide hel
     clear hlv hel htk
     go_wp2_with fail
     refine (aEnd_any (grp ms L[i]) ai ci xs (endsL ms n t.args) (fun m hm => ?_) (fun m hm => ?_) SET.out.1 SET.out.2 (fun m hm z hz => ?_) _ _ (fun _ => True) (HGS.out.later HBR.out) HLV.out).mono ?_
     ·have h2 := (List.mem_filter.1 hm).2
      rw [HLI.out] at h2
      simp only [Bool.and_eq_true, decide_eq_true_eq] at h2
      rw [HEL.out, h2.2]
     ·have := ((HOK.out m (List.mem_filter.1 hm).1).2.1); omega
     ·have := ((HOK.out m (List.mem_filter.1 hm).1).2.2 z hz); omega
     ·rintro e w4 ⟨rfl, hb4⟩
      have B4 := hide (HBR.out.trans (hb4.mono HBR.out.size))
      have HIS : Hid (SetIs (endN (grp ms L[i]) (endsL ms n t.args)) (edgT ms n t.name (endsL ms n t.args))) := by
       have h := end_is (name := t.name) (bs := endsL ms n t.args) hn (fun m hm => (HOK.out m hm).2.1)
       rw [HEL.out] at h
       unfold Hid
       rw [HLI.out]
       exact h
      clear hb4 e1 gc
      unfold stV
      go_wp2_with fail
      go_ret
      exact ⟨_, rfl, HIS.out, B4.out⟩
  ·have HIS : Hid (SetIs 0 (edgT ms n t.name (endsL ms n t.args))) := by
    have h := end_is (name := t.name) (bs := endsL ms n t.args) hn (fun m hm => (HOK.out m hm).2.1)
    have hel : (endsL ms n t.args).length = t.args.length := endsL_len ms n t.args
    rw [hel, grp_none HALL.out hnL] at h
    exact h
   clear hnL
   go_enter Try.func41, Try.ntmps41
   go_wp2_with fail
   go_ret
   exact ⟨0, rfl, HIS.out, B2.out⟩
def opnB (t : Tm) : Bool := (preL [t]).any fun k => varB k.name
theorem opnB_eq (t : Tm) : opnB t = (varB t.name || t.args.any opnB) := by
 have key : ∀ l : List Tm, ((preL l).any fun k => varB k.name) = l.any opnB := by
  intro l
  induction l with
  | nil => simp [preL]
  | cons x r ih =>
   have h := preL_append [x] r
   simp only [List.singleton_append] at h
   rw [h, List.any_append, ih, List.any_cons]
   rfl
 obtain ⟨s, l⟩ := t
 unfold opnB
 rw [preL, List.any_cons, List.any_append, key l]
 rw [show preL ([] : List Tm) = [] by simp [preL]]
 simp only [List.any_nil, Bool.or_false]
 rfl
theorem varsP_pos : ∀ (ks : List Tm) (acc : List ByteArray), (0 < (varsP acc ks).length) ↔ (0 < acc.length ∨ (ks.any fun k => varB k.name) = true)
 | [], acc => by simp [varsP]
 | k :: r, acc => by
  have h : varsP acc (k :: r) = varsP (addV acc k.name) r := rfl
  rw [h, varsP_pos r, List.any_cons, Bool.or_eq_true]
  have h2 : 0 < (addV acc k.name).length ↔ (0 < acc.length ∨ varB k.name = true) := by
   cases hv : varB k.name with
   | false => rw [addV_no hv]; simp
   | true =>
    cases hi : inB k.name acc with
    | false => rw [addV_yes hv hi]; simp
    | true =>
     rw [addV_in hv hi]
     have : 0 < acc.length := by
      cases acc with
      | nil => simp [inB] at hi
      | cons a b => simp
     simp [this]
  rw [h2]
  constructor
  ·rintro ((h | h) | h)
   ·exact Or.inl h
   ·exact Or.inr (Or.inl h)
   ·exact Or.inr (Or.inr h)
  ·rintro (h | h | h)
   ·exact Or.inl (Or.inl h)
   ·exact Or.inl (Or.inr h)
   ·exact Or.inr h
theorem opn_vars (t : Tm) : (0 < (varsP [] (preL [t])).length) ↔ opnB t = true := by
 rw [varsP_pos]; simp [opnB]
theorem any_takeT {l : List Tm} {f : Tm → Bool} {k : Nat} (h : k < l.length) (hk : (l.take k).any f = false) (h1 : f l[k] = false) : (l.take (k + 1)).any f = false := by
 rw [List.take_succ_eq_append_getElem h, List.any_append, hk]; simp [h1]
theorem any_atT {l : List Tm} {f : Tm → Bool} {k : Nat} (h : k < l.length) (h1 : f l[k] = true) : l.any f = true := List.any_eq_true.2 ⟨_, List.getElem_mem h, h1⟩
set_option maxHeartbeats 1000000 in
theorem indexOpen_of (l : List Tm) (HC : ∀ x ∈ l, ∀ (v : Value) (w : World) (X : Nat → Prop), TV w X v x → Calls Try.prog 39 #[v] w fun e w' => e = .returned (.bool (opnB x)) ∧ Below w.heap.size w w') (a : Option Addr) (c : Nat) (w : World) (X : Nat → Prop) (hs : Sl w X a l) :
  Calls Try.prog 81 #[.slice a l.length c, .func (.func 39) #[] #[]] w fun e w' => ∃ z : Int, e = .returned (.int .i64 z) ∧ decide (0 ≤ z) = l.any opnB ∧ Below w.heap.size w w' := by
 have H := hide HC
 have HS := hide (hs.mono (Y := fun b => X b ∧ b < w.heap.size) fun b h1 h2 => ⟨h1, h2⟩)
 have hl := hs.1
 clear HC hs
 go_enter Try.func81, Try.ntmps81
 go_wp2_with fail
 go_loopw [8] (fun i wr => ∃ k : Nat, k ≤ l.length ∧ i = .int .i64 (k : Int) ∧ (l.take k).any opnB = false ∧ Below w.heap.size w wr) (fun i wr => l.length - (intOf i).toNat)
 case atStart => exact ⟨0, Nat.zero_le _, rfl, by simp, Below.refl _ _⟩
 case round =>
  obtain ⟨k, hk, rfl, hno, hbr⟩ := hrel
  have HNO := hide hno
  have HBR := hide hbr
  clear hno hbr
  by_cases hlt : k < l.length
  ·have hki : (k : Int) < (l.length : Int) := by omega
   obtain ⟨b, o, a1, c1, rfl, x0, x1, hx⟩ := HS.out.get HBR.out (fun b h _ => h.2) k hlt
   have HX := hide hx
   clear hx
   go_wp2_with fail
   refine (H.out l[k] (List.getElem_mem hlt) _ _ _ HX.out).mono ?_
   rintro e w2 ⟨rfl, hb2⟩
   have HB2 := hide (HBR.out.trans (hb2.mono HBR.out.size))
   clear hb2 x0 x1
   cases ho : opnB l[k] with
   | true =>
    have HA := hide (any_atT (f := opnB) hlt ho)
    clear ho
    go_wp2_with fail
    go_ret
    exact ⟨_, rfl, by rw [HA.out]; simp, HB2.out⟩
   | false =>
    have HA := hide (any_takeT (f := opnB) hlt HNO.out ho)
    clear ho
    go_wp2_with fail
    go_roundw
    case rel => exact ⟨k + 1, by omega, by go_num, HA.out, HB2.out⟩
    case measure => simp [intOf]; omega
  ·have hki : ¬ (k : Int) < (l.length : Int) := by omega
   have HA : Hid (l.any opnB = false) := by have h := HNO.out; rw [List.take_of_length_le (by omega)] at h; exact h
   go_wp2_with fail
   go_ret
   exact ⟨-1, rfl, by rw [HA.out]; rfl, HBR.out⟩
theorem isOpen_any (t : Tm) : ∀ (v : Value) (w : World) (X : Nat → Prop), TV w X v t → Calls Try.prog 39 #[v] w fun e w' => e = .returned (.bool (opnB t)) ∧ Below w.heap.size w w' := by
 induction t using Tm.ind with
 | h s0 l0 ih =>
  intro v w X ht
  have IH := hide ih
  clear ih
  obtain ⟨t, hte⟩ : ∃ t : Tm, t = ⟨s0, l0⟩ := ⟨_, rfl⟩
  rw [← hte] at ht ⊢
  have HTE : Hid (t.args = l0) := by rw [hte]; rfl
  clear hte
  obtain ⟨aw, ct, rfl, hst⟩ := ht
  have B1 : Hid (Below w.heap.size w (w.alloc (.cells #[.string t.name, .slice aw t.args.length ct] 30))) := (Below.refl _ _).alloc (Nat.le_refl _) _
  have K1 : Hid (Blk (w.alloc (.cells #[.string t.name, .slice aw t.args.length ct] 30)) w.heap.size #[.string t.name, .slice aw t.args.length ct] 30) := Blk.new _ _ _
  have S1 := hide (hst.later B1.out)
  have hla := hst.1
  clear hst
  have HV := hide (isVariable_all t.name (w.alloc (.cells #[.string t.name, .slice aw t.args.length ct] 30)))
  have c0 := K1.out.cell 0
  have c1 := K1.out.cell 1
  cases hv : varB t.name with
  | true =>
   have HO : Hid (opnB t = true) := by unfold Hid; rw [opnB_eq, hv]; rfl
   have HVV := hide hv
   clear hv
   go_enter Try.func39, Try.ntmps39
   go_wp2_with fail
   refine HV.out.mono ?_
   rintro e w2 ⟨rfl, rfl⟩
   rw [HVV.out]
   go_wp2_with fail
   go_ret
   exact ⟨by rw [HO.out]; rfl, B1.out⟩
  | false =>
   have HO : Hid (opnB t = t.args.any opnB) := by unfold Hid; rw [opnB_eq, hv]; rfl
   have HVV := hide hv
   clear hv
   go_enter Try.func39, Try.ntmps39
   go_wp2_with fail
   refine HV.out.mono ?_
   rintro e w2 ⟨rfl, rfl⟩
   rw [HVV.out]
   go_wp2_with fail
   generalize (w.alloc (.cells #[.string t.name, .slice aw t.args.length ct] 30)) = w1 at *
   clear c0 c1
   have CF : Calls Try.prog 66 #[.slice aw t.args.length ct, .func (.func 39) #[] #[]] w1 fun e w' => e = .returned (.bool (t.args.any opnB)) ∧ Below w1.heap.size w1 w' := by
    go_enter Try.func66, Try.ntmps66
    go_wp2_with fail
    refine (indexOpen_of t.args (fun x hx v w X h => IH.out x (by rw [← HTE.out]; exact hx) v w X h) aw ct _ _ S1.out).mono ?_
    rintro e w' ⟨z, rfl, hz, hb⟩
    have HZ := hide hz
    have HB := hide hb
    clear hz hb
    go_wp2_with fail
    go_ret
    exact ⟨by rw [← HZ.out]; rfl, HB.out⟩
   refine CF.mono ?_
   rintro e w3 ⟨rfl, hb3⟩
   have B3 := hide (B1.out.trans (hb3.mono B1.out.size))
   clear hb3
   go_wp2_with fail
   go_ret
   exact ⟨by rw [HO.out]; rfl, B3.out⟩
theorem and_las {x : Nat} {l : List Bool} {la : List Int} (hx : SetIs x l) (hla : ∀ z ∈ la, 0 ≤ z ∧ z < 64) : (bits BinOp.and IntKind.u64 (x : Int) (setN la : Int) != 0) = la.any fun i => bitAt l i := by
 rw [u64_and_nat _ _ hx.1 (setN_lt la fun z hz => (hla z hz).2)]
 have h1 : (((x &&& setN la : Nat) : Int) != 0) = ((x &&& setN la) != 0) := by
  cases h : (x &&& setN la) with
  | zero => rfl
  | succ n => simp; omega
 rw [h1, Bool.eq_iff_iff, bne_iff_ne, List.any_eq_true]
 constructor
 ·intro hne
  obtain ⟨s, hs⟩ := Nat.exists_testBit_of_ne_zero hne
  rw [Nat.testBit_and, Bool.and_eq_true, hx.2 s, setN_bit la (fun z hz => (hla z hz).1), decide_eq_true_eq] at hs
  exact ⟨_, hs.2, hs.1⟩
 ·rintro ⟨z, hz, hb⟩ he
  have h0 := (hla z hz).1
  have h2 : (x &&& setN la).testBit z.toNat = true := by
   rw [Nat.testBit_and, Bool.and_eq_true, hx.2, setN_bit la (fun z hz => (hla z hz).1), decide_eq_true_eq]
   have e : ((z.toNat : Nat) : Int) = z := by omega
   rw [e]
   exact ⟨hb, hz⟩
  rw [he] at h2
  simp at h2
def accE (A : Au) (t : Tm) : Int := if auE 8 40 A = 0 then (if mayE t = 0 then (if opnB t = true then 15 else 0) else mayE t) else auE 8 40 A
def AcP (A : Au) (t : Tm) (w : World) (e : Ending) (w' : World) : Prop := e = .returned (.tuple #[.bool (if accE A t = 0 then accB A t else false), .int .i64 (accE A t)]) ∧ Below w.heap.size w w'
theorem okMv_sy {n : Int} {m : Mv} (h : OkMv n m) : SyOk (symM m) := by
 have h1 := h.nm
 simp [nameB] at h1
 have := h.len
 exact ⟨by show m.name.size ≤ 1000000; omega, by show m.frm.length ≤ 1000000; omega⟩
theorem mayE_errA {t : Tm} (h : mayE t = 0) : errL [t] = 0 ∧ sizeL [t] ≤ 200 := by
 unfold mayE at h
 split at h
 ·exact absurd h (by decide)
 ·exact ⟨by assumption, by omega⟩
set_option maxHeartbeats 2000000 in
theorem accepts_any (A : Au) (t : Tm) (va vt : Value) (w : World) (X : Nat → Prop) (hva : AV w X va A) (hvt : TV w X vt t) :
  Calls Try.prog 19 #[va, vt] w fun e w' => AcP A t w e w' := by
 obtain ⟨am, cm, al, cl, rfl, hm, hla⟩ := hva
 obtain ⟨aw, ct, rfl, hst⟩ := hvt
 have B2 : Hid (Below w.heap.size w ((w.alloc (.cells #[.int .i64 A.st, .slice am A.mv.length cm, .slice al A.la.length cl] 25)).alloc (.cells #[.string t.name, .slice aw t.args.length ct] 30))) := ((Below.refl _ _).alloc (Nat.le_refl _) _).alloc (by simp) _
 have KA : Hid (Blk ((w.alloc (.cells #[.int .i64 A.st, .slice am A.mv.length cm, .slice al A.la.length cl] 25)).alloc (.cells #[.string t.name, .slice aw t.args.length ct] 30)) w.heap.size #[.int .i64 A.st, .slice am A.mv.length cm, .slice al A.la.length cl] 25) := (Blk.new _ _ _).alloc _
 have KB : Hid (Blk ((w.alloc (.cells #[.int .i64 A.st, .slice am A.mv.length cm, .slice al A.la.length cl] 25)).alloc (.cells #[.string t.name, .slice aw t.args.length ct] 30)) (w.heap.size + 1) #[.string t.name, .slice aw t.args.length ct] 30) := by
  have h := Blk.new (w.alloc (.cells #[.int .i64 A.st, .slice am A.mv.length cm, .slice al A.la.length cl] 25)) #[.string t.name, .slice aw t.args.length ct] 30
  rw [World.size_alloc] at h
  exact h
 have AVW : Hid (∀ w', Below w.heap.size w w' → AV w' X (.agg #[.int .i64 A.st, .slice am A.mv.length cm, .slice al A.la.length cl]) A) := fun w' hb => ⟨am, cm, al, cl, rfl, hm.later hb, hla.later hb⟩
 have TVW : Hid (∀ w', Below w.heap.size w w' → TV w' X (.agg #[.string t.name, .slice aw t.args.length ct]) t) := fun w' hb => ⟨aw, ct, rfl, hst.later hb⟩
 have HM := hide hm
 have HLA := hide hla
 have hl1 := hm.1
 have hl2 := hst.1
 clear hm hla hst
 have c0 := KA.out.cell 0
 have c1 := KA.out.cell 1
 have c2 := KA.out.cell 2
 go_enter Try.func19, Try.ntmps19
 go_wp2_with fail
 generalize ((w.alloc (.cells #[.int .i64 A.st, .slice am A.mv.length cm, .slice al A.la.length cl] 25)).alloc (.cells #[.string t.name, .slice aw t.args.length ct] 30)) = w2 at *
 refine (aCheck_any A _ _ _ (AVW.out _ B2.out)).mono ?_
 rintro e w3 ⟨rfl, hb3⟩
 have B3 := hide (B2.out.trans (hb3.mono B2.out.size))
 have KA3 := hide (KA.out.below hb3 KA.out.lt)
 have KB3 := hide (KB.out.below hb3 KB.out.lt)
 clear hb3 c0 c1 c2 KA KB B2
 by_cases h0 : auE 8 40 A = 0
 ·have hz0 : (auE 8 40 A != 0) = false := by simp [h0]
  have H0 := hide h0
  clear h0
  have d0 := KB3.out.cell 0
  have d1 := KB3.out.cell 1
  go_wp2_with fail
  refine (check_any t _ _ _ (TVW.out _ B3.out)).mono ?_
  rintro e w4 ⟨rfl, hb4⟩
  have B4 := hide (B3.out.trans (hb4.mono B3.out.size))
  have KA4 := hide (KA3.out.below hb4 KA3.out.lt)
  have KB4 := hide (KB3.out.below hb4 KB3.out.lt)
  clear hb4 d0 d1 KA3 KB3 B3
  by_cases h1 : mayE t = 0
  ·have hz1 : (mayE t != 0) = false := by simp [h1]
   have H1 := hide h1
   clear h1
   have d0 := KB4.out.cell 0
   have d1 := KB4.out.cell 1
   go_wp2_with fail
   refine (isOpen_any t _ _ _ (TVW.out _ B4.out)).mono ?_
   rintro e w5 ⟨rfl, hb5⟩
   have B5 := hide (B4.out.trans (hb5.mono B4.out.size))
   have KA5 := hide (KA4.out.below hb5 KA4.out.lt)
   have KB5 := hide (KB4.out.below hb5 KB4.out.lt)
   clear hb5 d0 d1 KA4 KB4 B4
   cases h2 : opnB t with
   | true =>
    have HE : Hid (accE A t = 15) := by unfold Hid accE; rw [if_pos H0.out, if_pos H1.out, if_pos h2]
    clear h2
    go_wp2_with fail
    go_ret2
    exact ⟨by rw [HE.out]; rfl, B5.out⟩
   | false =>
    have HE : Hid (accE A t = 0) := by unfold Hid accE; rw [if_pos H0.out, if_pos H1.out, if_neg (by rw [h2]; decide)]
    clear h2
    have OK := auE_zero.1 H0.out
    have hst8 := OK.st
    have hpos := OK.pos
    obtain ⟨n, hn⟩ : ∃ n : Nat, A.st = (n : Int) := ⟨A.st.toNat, by omega⟩
    have HOK : Hid (∀ m ∈ A.mv, SyOk (symM m) ∧ (0 ≤ m.to ∧ m.to < (n : Int)) ∧ ∀ z ∈ m.frm, 0 ≤ z ∧ z < (n : Int)) := fun m hm => ⟨okMv_sy (OK.mv m hm), by rw [← hn]; exact (OK.mv m hm).to, by rw [← hn]; exact (OK.mv m hm).frm⟩
    have HN : Hid (n ≤ 64) := by unfold Hid; omega
    have HL : Hid (∀ z ∈ A.la, 0 ≤ z ∧ z < 64) := fun z hz => by have := OK.la z hz; omega
    have HML : Hid (A.mv.length ≤ 1000) := by have := OK.len; unfold Hid; omega
    have HT := hide (mayE_errA H1.out)
    have HAC : Hid (∀ l, l = edgT A.mv n t.name (endsL A.mv n t.args) → accB A t = A.la.any fun i => bitAt l i) := fun l hl => by
     unfold accB lasB endT
     rw [hl, hn, Int.toNat_natCast]
    clear OK hst8 hpos hn
    have KP : Hid (∀ w', Below w5.heap.size w5 w' → (w'.cell? ⟨w.heap.size, 0, none⟩ = some (.int .i64 A.st) ∧ w'.cell? ⟨w.heap.size, 1, none⟩ = some (.slice am A.mv.length cm) ∧ w'.cell? ⟨w.heap.size, 2, none⟩ = some (.slice al A.la.length cl)) ∧ w'.cell? ⟨w.heap.size + 1, 0, none⟩ = some (.string t.name) ∧ w'.cell? ⟨w.heap.size + 1, 1, none⟩ = some (.slice aw t.args.length ct)) := fun w' hb =>
     ⟨⟨(KA5.out.below hb KA5.out.lt).cell 0, (KA5.out.below hb KA5.out.lt).cell 1, (KA5.out.below hb KA5.out.lt).cell 2⟩, (KB5.out.below hb KB5.out.lt).cell 0, (KB5.out.below hb KB5.out.lt).cell 1⟩
    have kd : Below w5.heap.size w5 w5.drew := (Below.refl _ _).drew
    have UP : Hid (∀ w', Below w5.heap.size w5 w' → Below w.heap.size w w') := fun w' hb => B5.out.trans (hb.mono B5.out.size)
    go_upto_region 9 with fail
    refine wp_region_held_drew (S := Below w5.heap.size w5) (by kernel_rfl) kd (fun hHeld => ?_)
    refine tkq (v := ?_) 0 rfl ?_ ?_
    rotate_left
    ·intro w' hSw
     go_simp <;> with_reducible rfl
    try simp only [Act.put, sqA, sqB, sqC, sqD, sqE, sqF]
    refine tkq (v := ?_) 1 rfl ?_ ?_
    rotate_left
    ·intro w' hSw
     obtain ⟨⟨x0, x1, x2⟩, x3, x4⟩ := KP.out w' hSw
     go_simp <;> with_reducible rfl
    try simp only [Act.put, sqA, sqB, sqC, sqD, sqE, sqF]
    refine tkq (v := ?_) 3 rfl ?_ ?_
    rotate_left
    ·intro w' hSw
     obtain ⟨⟨x0, x1, x2⟩, x3, x4⟩ := KP.out w' hSw
     go_simp <;> with_reducible rfl
    try simp only [Act.put, sqA, sqB, sqC, sqD, sqE, sqF]
    refine tkq (v := ?_) 5 rfl ?_ ?_
    rotate_left
    ·intro w' hSw
     go_simp <;> with_reducible rfl
    try simp only [Act.put, sqA, sqB, sqC, sqD, sqE, sqF]
    refine tkq (v := ?_) 6 rfl ?_ ?_
    rotate_left
    ·intro w' hSw
     obtain ⟨⟨x0, x1, x2⟩, x3, x4⟩ := KP.out w' hSw
     go_simp <;> with_reducible rfl
    try simp only [Act.put, sqA, sqB, sqC, sqD, sqE, sqF]
    refine rdq 2 rfl fun K hK => ?_
    go_simp
    go_at_call 40
    refine (tableOf_any A.mv HML.out (fun m hm => (HOK.out m hm).1) am cm _ X (HM.out.later (UP.out _ kd))).mono ?_
    rintro e w6 ⟨v6, rfl, ht6, hb6⟩
    have k6 : Below w5.heap.size w5 w6 := kd.trans (hb6.mono kd.size)
    have V6 := hide ht6
    clear ht6 hb6
    obtain ⟨r6, L6, a6, c6, hv6, _⟩ := id V6.out.ex
    subst hv6
    go_simp
    refine hK.out _ _ (by exact k6) (fun hHeld => ?_)
    clear hK K
    try simp only [Act.put, sqA, sqB, sqC, sqD, sqE, sqF]
    refine rdq 4 rfl fun K hK => ?_
    go_simp
    go_at_call 41
    refine (endOf_any A.mv n HN.out HOK.out t _ _ _ X V6.out (TVW.out _ (UP.out _ k6)) HT.out.1 (by have := HT.out.2; omega)).mono ?_
    rintro e w7 ⟨x, rfl, hx7, hb7⟩
    have k7 : Below w5.heap.size w5 w7 := k6.trans (hb7.mono k6.size)
    have X7 := hide hx7
    clear hx7 hb7
    unfold stV
    go_simp
    refine hK.out _ _ (by exact k7) (fun hHeld => ?_)
    clear hK K
    try simp only [Act.put, sqA, sqB, sqC, sqD, sqE, sqF]
    refine rdq 7 rfl fun K hK => ?_
    go_simp
    go_at_call 42
    refine (setOf_any A.la HL.out _ _ X (HLA.out.later (UP.out _ k7))).mono ?_
    rintro e w8 ⟨rfl, rfl⟩
    go_simp
    refine hK.out _ _ (by exact k7) (fun hHeld => ?_)
    clear hK K
    try simp only [Act.put, sqA, sqB, sqC, sqD, sqE, sqF]
    refine tkq (v := ?_) 8 rfl ?_ ?_
    rotate_left
    ·intro w' hSw
     go_simp <;> with_reducible rfl
    try simp only [Act.put, sqA, sqB, sqC, sqD, sqE, sqF]
    refine tkq (v := ?_) 9 rfl ?_ ?_
    rotate_left
    ·intro w' hSw
     go_simp <;> with_reducible rfl
    try simp only [Act.put, sqA, sqB, sqC, sqD, sqE, sqF]
    refine tkq (v := ?_) 10 rfl ?_ ?_
    rotate_left
    ·intro w' hSw
     go_simp <;> with_reducible rfl
    try simp only [Act.put, sqA, sqB, sqC, sqD, sqE, sqF]
    refine tkq (v := ?_) 11 rfl ?_ ?_
    rotate_left
    ·intro w' hSw
     go_simp <;> with_reducible rfl
    try simp only [Act.put, sqA, sqB, sqC, sqD, sqE, sqF]
    refine wpAnyH_done (by kernel_rfl) ?_ _
    rw [and_las X7.out HL.out]
    go_wp2_with fail
    go_ret2
    exact ⟨by rw [HE.out, HAC.out _ rfl]; rfl, UP.out _ k7⟩
  ·have hz1 : (mayE t != 0) = true := by simp [h1]
   have HE : Hid (accE A t = mayE t) := by unfold Hid accE; rw [if_pos H0.out, if_neg h1]
   have H1 := hide h1
   clear h1
   go_wp2_with fail
   go_ret2
   exact ⟨by rw [HE.out, if_neg H1.out]; rfl, B4.out⟩
 ·have hz0 : (auE 8 40 A != 0) = true := by simp [h0]
  have HE : Hid (accE A t = auE 8 40 A) := by unfold Hid accE; rw [if_neg h0]
  have H0 := hide h0
  clear h0
  go_wp2_with fail
  go_ret2
  exact ⟨by rw [HE.out, if_neg H0.out]; rfl, B3.out⟩
end Go.Proofs.Ytofebfjkodceeaa
