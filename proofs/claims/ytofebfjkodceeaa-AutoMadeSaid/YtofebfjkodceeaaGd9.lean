import Derived.Test.YtofebfjkodceeaaSq
import Derived.Test.YtofebfjkodceeaaGd8
import Derived.Test.YtofebfjkodceeaaAy5
import Derived.Deep.LoopGhost
namespace Go.Proofs.Ytofebfjkodceeaa
open Go.RowKit
set_option linter.unusedSimpArgs false
set_option linter.unusedVariables false
set_option maxRecDepth 8000
def noA : Au := ⟨0, [], []⟩
theorem noA_ok : OkAu 8 40 noA := ⟨by decide, by decide, by decide, (fun m hm => by cases hm), (fun s hs => by cases hs)⟩
theorem noA_sm : smB noA = true := by decide
theorem noA_v (w : World) : AV w (fun _ => True) (.agg #[.int .i64 0, .slice none 0 0, .slice none 0 0]) noA := ⟨none, 0, none, 0, rfl, ⟨by simp [noA], Or.inl rfl⟩, ⟨none, 0, rfl, by simp [noA], Or.inl rfl⟩⟩
theorem keyA_nd {A : Au} {out : List Tm} (h : (out.map (keyT A noA)).Nodup) : (out.map (keyA A)).Nodup := by
 rw [List.nodup_iff_pairwise_ne, List.pairwise_map] at h ⊢
 refine h.imp fun hne e => hne (key_iff.2 ⟨tldB_inj e, ?_⟩)
 rename_i t u
 have h1 : endT noA t = [] := List.length_eq_zero_iff.1 (by rw [endT_len]; rfl)
 have h2 : endT noA u = [] := List.length_eq_zero_iff.1 (by rw [endT_len]; rfl)
 rw [h1, h2]
def tmD : Tm := ⟨⟨#[]⟩, []⟩
def accU (A : Au) (out : List Tm) (i k : Nat) : Bool := accB A (out.getD i tmD) != accB A (out.getD k tmD)
def rowU (A : Au) (out : List Tm) (c k0 : Nat) (x y : Nat) : Bool := if x = c then (if y < k0 then accU A out x y else false) else accU A out x y
theorem MatP.cellt {w : World} {M n c : Nat} {R : Nat → Nat} {U : Nat → Nat → Bool} (h : MatP w M n c R U) {i : Nat} (hi : i < c) : w.cell? ⟨M, i, none⟩ = some (.slice (some ⟨R i, 0, none⟩) n n) := by
 obtain ⟨cs, _, h2, h3⟩ := h.top
 rw [h2.cell i]
 exact h3 i hi
theorem MatP.cellr {w : World} {M n c : Nat} {R : Nat → Nat} {U : Nat → Nat → Bool} (h : MatP w M n c R U) {i k : Nat} (hi : i < c) (hk : k < n) : w.cell? ⟨R i, k, none⟩ = some (.bool (U i k)) := by
 rw [(h.row i hi).cell k]
 simp [hk]
def SK (wM : World) (M c n Rc : Nat) (w' : World) : Prop := Below wM.heap.size wM w' ∧ w'.cell? ⟨M, c, none⟩ = some (.slice (some ⟨Rc, 0, none⟩) n n)
theorem SK.later {wM w w' : World} {M c n Rc : Nat} (h : SK wM M c n Rc w) (hb : Below w.heap.size w w') : SK wM M c n Rc w' := ⟨h.1.trans (hb.mono h.1.size), (hb.cell (p := ⟨M, c, none⟩) (cell_ltA h.2)).trans h.2⟩
theorem accU_at {A : Au} {out : List Tm} {i k : Nat} (hi : i < out.length) (hk : k < out.length) : accU A out i k = (accB A out[i] != accB A out[k]) := by
 unfold accU
 rw [List.getD_eq_getElem?_getD, List.getElem?_eq_getElem hi, List.getD_eq_getElem?_getD, List.getElem?_eq_getElem hk]
 rfl
def msU (n : Nat) (U : Nat → Nat → Bool) : Nat := ((List.range (n * n)).filter fun q => !U (q / n) (q % n)).length
theorem msU_lt {n : Nat} {U : Nat → Nat → Bool} {i k : Nat} (hi : i < n) (hk : k < n) (h : U i k = false) : msU n (setU (setU U i k) k i) < msU n U := by
 unfold msU
 have hn : 0 < n := by omega
 have e1 : (i * n + k) / n = i := by rw [Nat.mul_comm, Nat.mul_add_div hn, Nat.div_eq_of_lt hk]; omega
 have e2 : (i * n + k) % n = k := by rw [Nat.mul_comm, Nat.mul_add_mod, Nat.mod_eq_of_lt hk]
 refine filterX_lt (fun q _ h1 => ?_) ⟨i * n + k, ?_, ?_, ?_⟩
 ·unfold setU at h1
  by_cases c1 : q / n = k ∧ q % n = i
  ·rw [if_pos c1] at h1; simp at h1
  ·rw [if_neg c1] at h1
   by_cases c2 : q / n = i ∧ q % n = k
   ·rw [if_pos c2] at h1; simp at h1
   ·rw [if_neg c2] at h1; exact h1
 ·rw [List.mem_range]
  have := Nat.mul_le_mul_right n (show i + 1 ≤ n by omega)
  rw [Nat.succ_mul] at this
  omega
 ·simp only [e1, e2, h]; rfl
 ·simp only [e1, e2]; unfold setU; simp
def ClU (A : Au) (out : List Tm) (n : Nat) (U : Nat → Nat → Bool) (i0 k0 : Nat) : Prop := ∀ i k, i < n → k < n → (i < i0 ∨ (i = i0 ∧ k < k0)) → PtP A out U i k → U i k = true
structure AgI (A : Au) (out : List Tm) (wM : World) (M n : Nat) (R : Nat → Nat) (g : Nat) (ag : Value) (wr : World) : Prop where
 ex : ∃ (U : Nat → Nat → Bool) (b : Bool), ag = .bool b ∧ MatP wr M n n R U ∧ MarksT A out U ∧ (b = false → ClU A out n U n 0) ∧ (b = true → msU n U + 1 ≤ g)
 bl : Below wM.heap.size wM wr
structure AiI (A : Au) (out : List Tm) (wM : World) (M n : Nat) (R : Nat → Nat) (U0 : Nat → Nat → Bool) (ag iv : Value) (wr : World) : Prop where
 ex : ∃ (U : Nat → Nat → Bool) (b : Bool) (i : Nat), ag = .bool b ∧ iv = .int .i64 (i : Int) ∧ i ≤ n ∧ MatP wr M n n R U ∧ MarksT A out U ∧ (b = false → U = U0 ∧ ClU A out n U i 0) ∧ (b = true → msU n U < msU n U0)
 bl : Below wM.heap.size wM wr
structure AkI (A : Au) (out : List Tm) (wM : World) (M n : Nat) (R : Nat → Nat) (U0 : Nat → Nat → Bool) (i : Nat) (ag kv : Value) (wr : World) : Prop where
 ex : ∃ (U : Nat → Nat → Bool) (b : Bool) (k : Nat), ag = .bool b ∧ kv = .int .i64 (k : Int) ∧ k ≤ n ∧ MatP wr M n n R U ∧ MarksT A out U ∧ (b = false → U = U0 ∧ ClU A out n U i k) ∧ (b = true → msU n U < msU n U0)
 bl : Below wM.heap.size wM wr
set_option maxHeartbeats 20000000 in
theorem leastOf_any (A : Au) (hA : OkAu 8 40 A) (sA : smB A = true) (va : Value) (w : World) (X : Nat → Prop) (hva : AV w X va A) :
  Calls Try.prog 27 #[va] w fun e w' => ∃ out : List Tm, GrdOk A noA out ∧ e = .returned (.int .i64 ((cntK (alkT A out) out : Nat) : Int)) ∧ Below w.heap.size w w' := by
 obtain ⟨am, an, al, ao, rfl, ham, hal⟩ := hva
 have KA : Hid (Blk (w.alloc (.cells #[.int .i64 A.st, .slice am A.mv.length an, .slice al A.la.length ao] 25)) w.heap.size #[.int .i64 A.st, .slice am A.mv.length an, .slice al A.la.length ao] 25) := Blk.new _ _ _
 have B2 := hide (one1 w (.cells #[.int .i64 A.st, .slice am A.mv.length an, .slice al A.la.length ao] 25))
 have AVW : Hid (∀ w', Below w.heap.size w w' → AV w' (fun _ => True) (.agg #[.int .i64 A.st, .slice am A.mv.length an, .slice al A.la.length ao]) A) := fun w' hb => ⟨am, an, al, ao, rfl, slV_monoG (ham.later hb), (hal.later hb).mono fun _ _ _ => trivial⟩
 have HG : Hid (∀ w', Below w.heap.size w w' → Calls Try.prog 53 #[.agg #[.int .i64 A.st, .slice am A.mv.length an, .slice al A.la.length ao], .agg #[.int .i64 0, .slice none 0 0, .slice none 0 0]] w' fun e w2 => GdP A noA w' e w2) := fun w' hb => grounds_any A noA hA sA noA_ok noA_sm _ _ w' (fun _ => True) (AVW.out w' hb) (noA_v w')
 have OA := hide hA
 have SA := hide sA
 unfold smB at sA
 rw [Bool.and_eq_true, decide_eq_true_eq] at sA
 have HFW : Hid (∀ m ∈ A.mv, m.frm.length ≤ 2) := fun m hm => by have := List.all_eq_true.1 sA.2 m hm; simpa using this
 have HS3 := hide sA.1
 clear ham hal hA sA
 go_enter Try.func27, Try.ntmps27
 go_upto_region 1 with fail
 generalize w.alloc (.cells #[.int .i64 A.st, .slice am A.mv.length an, .slice al A.la.length ao] 25) = w2 at *
 have a0 := KA.out.cell 0
 have a1 := KA.out.cell 1
 have a2 := KA.out.cell 2
 have hmm := @run_makeMap Try.prog
 go_wp2_with (go_at_call 53; refine (HG.out _ B2.out).mono ?_; rintro e w5 ⟨out, oa, oc, rfl, hsl, ⟨hgrd, hgs⟩, hb5⟩)
 have h64 := hgs.len HS3.out (by decide)
 obtain ⟨n, hn⟩ : ∃ n, n = out.length := ⟨_, rfl⟩
 have HN := hide hn
 rw [← hn] at h64 ⊢
 have M0 := hide (MapAt.new w5)
 have B6 : Hid (Below w5.heap.size w5 (w5.alloc (.map #[] 0))) := one1 w5 _
 generalize w5.alloc (.map #[] 0) = w6 at *
 obtain ⟨r, hr⟩ : ∃ r, r = w5.heap.size := ⟨_, rfl⟩
 rw [← hr] at M0 ⊢
 have HR := hide hr
 have HSL := hide hsl
 have HGR := hide hgrd
 have HGS := hide hgs
 have HB5 := hide hb5
 have HND : Hid ((out.map (keyA A)).Nodup) := keyA_nd hgs.nd
 have UP5 : Hid (∀ w', Below w5.heap.size w5 w' → Below w.heap.size w w') := fun w' hb => by
  have h1 := hb5.trans (hb.mono hb5.size)
  exact B2.out.trans (h1.mono B2.out.size)
 have KAA : Hid (∀ w', Below w5.heap.size w5 w' → w'.cell? ⟨w.heap.size, 0, none⟩ = some (.int .i64 A.st) ∧ w'.cell? ⟨w.heap.size, 1, none⟩ = some (.slice am A.mv.length an) ∧ w'.cell? ⟨w.heap.size, 2, none⟩ = some (.slice al A.la.length ao)) := fun w' hb => by
  have h0 := hb5.trans (hb.mono hb5.size)
  have h1 := KA.out.below h0 KA.out.lt
  exact ⟨h1.cell 0, h1.cell 1, h1.cell 2⟩
 clear hsl hgrd hgs hb5 a0 a1 a2 hmm hr hn
 go_loopw [6] (fun q wr => ∃ i : Nat, i ≤ n ∧ q = .int .i64 (i : Int) ∧ MapAt wr r (ixL ((out.take i).map (keyA A))) ∧ Below w5.heap.size w5 wr) (fun q wr => n - (intOf q).toNat)
 case atStart => exact ⟨0, Nat.zero_le _, rfl, M0.out, B6.out⟩
 case round =>
  obtain ⟨i, hi, rfl, hmp, hbr⟩ := hrel
  have HMP := hide hmp
  have HBR := hide hbr
  clear hmp hbr
  by_cases hlt : i < n
  ·have hii : (i : Int) < (n : Int) := by omega
   have hol : i < out.length := by have := HN.out; omega
   obtain ⟨lb, lo, hoe, hLK⟩ := lsK_of HSL.out (by omega)
   subst hoe
   obtain ⟨ax, cx, hLo⟩ := hLK i hol
   obtain ⟨x, hx⟩ : ∃ x, x = out[i] := ⟨_, rfl⟩
   rw [← hx] at hLo
   have HLO := hide hLo
   have HTK : Hid (out.take (i + 1) = out.take i ++ [x]) := by unfold Hid; rw [hx]; exact List.take_succ_eq_append_getElem hol
   have HWX : Hid (Wid x) := by unfold Hid; rw [hx]; exact HGS.out.wid _ (List.getElem_mem hol)
   have HNI : Hid (mapGet (ixL ((out.take i).map (keyA A))) (keyA A x) = none) := by
    refine ixL_none _ fun hm => ?_
    have h1 := HND.out
    rw [← List.take_append_drop (i + 1) out, HTK.out, List.map_append, List.map_append, List.nodup_append, List.nodup_append] at h1
    exact h1.1.2.2 _ hm _ (by simp) rfl
   clear hx hLo hLK hol
   have hkd : Below w5.heap.size w5 wr.drew := HBR.out.drew
   have HMD : Hid (MapAt wr.drew r (ixL ((out.take i).map (keyA A)))) := mapAt_later HMP.out ((Below.refl wr.heap.size wr).drew)
   go_upto_region 7 with fail
   refine wp_region_held_drew (S := Below w5.heap.size w5) (by kernel_rfl) hkd (fun hHeld => ?_)
   generalize wr.drew = wd at *
   refine tkq (v := ?_) 0 rfl ?_ ?_
   rotate_left
   ·intro w' hSw
    go_simp <;> with_reducible rfl
   try simp only [Act.put, sqA, sqB, sqC, sqD, sqE, sqF]
   refine tkq (v := ?_) 1 rfl ?_ ?_
   rotate_left
   ·intro w' hSw
    obtain ⟨a0, a1, a2⟩ := KAA.out w' hSw
    go_simp <;> with_reducible rfl
   try simp only [Act.put, sqA, sqB, sqC, sqD, sqE, sqF]
   refine tkq (v := ?_) 2 rfl ?_ ?_
   rotate_left
   ·intro w' hSw
    go_simp <;> with_reducible rfl
   try simp only [Act.put, sqA, sqB, sqC, sqD, sqE, sqF]
   refine tkq (v := ?_) 3 rfl ?_ ?_
   rotate_left
   ·intro w' hSw
    go_simp <;> with_reducible rfl
   try simp only [Act.put, sqA, sqB, sqC, sqD, sqE, sqF]
   refine tkq (v := ?_) 4 rfl ?_ ?_
   rotate_left
   ·intro w' hSw
    go_simp <;> with_reducible rfl
   try simp only [Act.put, sqA, sqB, sqC, sqD, sqE, sqF]
   refine tkq (v := ?_) 5 rfl ?_ ?_
   rotate_left
   ·intro w' hSw
    obtain ⟨x0, x1, -⟩ := HLO.out w' hSw
    go_simp <;> with_reducible rfl
   try simp only [Act.put, sqA, sqB, sqC, sqD, sqE, sqF]
   refine tkq (v := ?_) 8 rfl ?_ ?_
   rotate_left
   ·intro w' hSw
    go_simp <;> with_reducible rfl
   try simp only [Act.put, sqA, sqB, sqC, sqD, sqE, sqF]
   obtain ⟨nA, hnA⟩ : ∃ nA : Nat, A.st = (nA : Int) := ⟨A.st.toNat, by have := OA.out.pos; omega⟩
   have HNA := hide hnA
   clear hnA
   refine rdq 6 rfl fun K hK => ?_
   go_simp
   go_at_call 36
   refine (endsInW_any A (S := 8) (M := 40) (by omega) (by omega) OA.out nA HNA.out x _ _ _ _ HWX.out (AVW.out _ (UP5.out _ hkd)) ⟨ax, cx, rfl, (HLO.out _ hkd).2.2.mono fun _ _ _ => trivial⟩).mono ?_
   rintro e wC ⟨ca, cc, rfl, hlC, hbC⟩
   have hBC := hkd.trans (hbC.mono hkd.size)
   go_simp
   refine hK.out _ _ (by exact hBC) (fun hHeld => ?_)
   clear hK K
   try simp only [Act.put, sqA, sqB, sqC, sqD, sqE, sqF]
   refine rdq 7 rfl fun K hK => ?_
   go_simp
   go_at_call 54
   refine (told_any _ (by rw [endT_len]; have := HS3.out; omega) _ _ _ hlC).mono ?_
   rintro e wc2 ⟨rfl, hw2⟩
   obtain rfl := hw2.symm
   go_simp
   refine hK.out _ _ (by exact hBC) (fun hHeld => ?_)
   clear hK K
   try simp only [Act.put, sqA, sqB, sqC, sqD, sqE, sqF]
   obtain ⟨wE, hput, hM2, hz2, ho2, ht2, hu2, hkp⟩ := run_put (P := Try.prog) Try.underlying91 Try.underlying9 (mapAt_later HMD.out hbC) (keyA A x) (.int .i64 (i : Int)) HNI.out
   have hxE : ExQ (fun b => b = r) wC wE := ⟨ho2, ht2, hu2, by omega, fun k _ hn => hkp k hn⟩
   have hBE : Below w5.heap.size w5 wE := hBC.trans (hxE.below (by have := hBC.size; omega) fun b e => by have := HR.out; omega)
   have HM2 : Hid (MapAt wE r (ixL ((out.take (i + 1)).map (keyA A)))) := by unfold Hid; rw [HTK.out, List.map_append, List.map_singleton, ixL_snoc, List.length_map, List.length_take, Nat.min_eq_left (by have := HN.out; omega)]; exact hM2
   have HBE := hide hBE
   unfold keyA at hput
   clear hM2 hz2 ho2 ht2 hu2 hkp hxE
   refine rdq 9 rfl fun K hK => ?_
   go_simp
   refine hK.out _ _ (by exact HBE.out) (fun hHeld => ?_)
   clear hK K
   try simp only [Act.put, sqA, sqB, sqC, sqD, sqE, sqF]
   refine wpAnyH_done (by kernel_rfl) ?_ _
   clear hHeld hput hBE hbC hBC hlC
   go_wp2_with fail
   go_roundw
   case rel => exact ⟨i + 1, by omega, by go_num, HM2.out, HBE.out⟩
   case measure => simp [intOf]; omega
  ·have hii : ¬ (i : Int) < (n : Int) := by omega
   have HM1 : Hid (MapAt wr r (ixL (out.map (keyA A)))) := by
    have h1 := HMP.out
    rw [List.take_of_length_le (by have := HN.out; omega)] at h1
    exact h1
   obtain ⟨wM, hwM⟩ : ∃ x, x = wr := ⟨_, rfl⟩
   rw [← hwM] at HM1 HBR ⊢
   clear hwM HMP
   obtain ⟨cs, hcs, hmk⟩ := make_rowsG n (by omega)
   have hmk1 := hmk wM
   have P0 : Hid (MatP (wM.alloc (.cells cs 67)) wM.heap.size n 0 (fun i => i) (accU A out)) := MatP.new _ _ _ hcs _ _
   have B7 : Hid (Below wM.heap.size wM (wM.alloc (.cells cs 67))) := one1 wM _
   go_upto_region 9 with fail
   clear hmk1 hmk hcs
   generalize wM.alloc (.cells cs 67) = w7 at *
   obtain ⟨M, hM⟩ : ∃ M, M = wM.heap.size := ⟨_, rfl⟩
   rw [← hM] at P0 ⊢
   have HM := hide hM
   clear hM
   have UPM : Hid (∀ w', Below wM.heap.size wM w' → Below w5.heap.size w5 w') := fun w' hb => HBR.out.trans (hb.mono HBR.out.size)
   go_wp2_with fail
   go_loopw [8] (fun q wr => ∃ (c : Nat) (R : Nat → Nat), c ≤ n ∧ q = .int .i64 (c : Int) ∧ MatP wr M n c R (accU A out) ∧ Below wM.heap.size wM wr) (fun q wr => n - (intOf q).toNat)
   case atStart => exact ⟨0, _, Nat.zero_le _, rfl, P0.out, B7.out⟩
   case round =>
    obtain ⟨c, R, hc, rfl, hmat, hbr⟩ := hrel
    have HMA := hide hmat
    have HB8 := hide hbr
    clear hmat hbr
    by_cases hlt : c < n
    ·have hci : (c : Int) < (n : Int) := by omega
     have hmk := make_boolsA n (by omega) wr
     obtain ⟨cs0, hcs0, hb0, hc0⟩ := HMA.out.top
     have tc : (wr.alloc (.cells (Array.replicate n (Value.bool false)) 4)).cell? ⟨M, c, none⟩ = some (cs0[c]'(by omega)) := by rw [(hb0.alloc _).cell c]; exact Array.getElem?_eq_getElem (by omega)
     have tf : (wr.alloc (.cells (Array.replicate n (Value.bool false)) 4)).frozen? ⟨M, c, none⟩ = false := (hb0.alloc _).frozen c
     have tl : M < (wr.alloc (.cells (Array.replicate n (Value.bool false)) 4)).heap.size := (hb0.alloc _).lt
     obtain ⟨v0, hv0⟩ : ∃ v, v = cs0[c]'(by omega) := ⟨_, rfl⟩
     rw [← hv0] at tc
     have hbA : Below wM.heap.size wM (wr.alloc (.cells (Array.replicate n (Value.bool false)) 4)) := HB8.out.alloc HB8.out.size _
     have HBS : Hid (Below wM.heap.size wM ((wr.alloc (.cells (Array.replicate n (Value.bool false)) 4)).setCell ⟨M, c, none⟩ (.slice (some ⟨wr.heap.size, 0, none⟩) n n))) := hbA.setCell (p := ⟨M, c, none⟩) (by have := HM.out; simp; omega) _
     have HRW : Hid (∃ R2, MatP ((wr.alloc (.cells (Array.replicate n (Value.bool false)) 4)).setCell ⟨M, c, none⟩ (.slice (some ⟨wr.heap.size, 0, none⟩) n n)) M n (c + 1) R2 (rowU A out c 0)) := ⟨_, (HMA.out.addrow hlt).congr fun x y _ _ => by unfold rowU; by_cases e : x = c <;> simp [e]⟩
     clear hb0 hcs0 hc0 hv0 hbA
     go_upto_region 13 with fail
     clear hmk tc tf tl
     generalize (wr.alloc (.cells (Array.replicate n (Value.bool false)) 4)).setCell ⟨M, c, none⟩ (.slice (some ⟨wr.heap.size, 0, none⟩) n n) = w8 at *
     obtain ⟨R2, hR2⟩ := HRW.out
     have HR2 := hide hR2
     clear hR2 HRW
     go_wp2_with fail
     go_loopw [9] (fun q wr => ∃ k : Nat, k ≤ n ∧ q = .int .i64 (k : Int) ∧ MatP wr M n (c + 1) R2 (rowU A out c k) ∧ Below wM.heap.size wM wr) (fun q wr => n - (intOf q).toNat)
     case atStart => exact ⟨0, Nat.zero_le _, rfl, HR2.out, HBS.out⟩
     case round =>
      obtain ⟨k, hk, rfl, hmat, hbr⟩ := hrel
      have HMK := hide hmat
      have HBK := hide hbr
      clear hmat hbr
      by_cases hlk : k < n
      ·have hki : (k : Int) < (n : Int) := by omega
       have hcl : c < out.length := by have := HN.out; omega
       have hkl : k < out.length := by have := HN.out; omega
       obtain ⟨lb, lo, hoe, hLK⟩ := lsK_of HSL.out (by omega)
       subst hoe
       obtain ⟨ax, cx, hLx⟩ := hLK c hcl
       obtain ⟨ay, cy, hLy⟩ := hLK k hkl
       have HAU := hide (accU_at (A := A) hcl hkl)
       obtain ⟨x, hx⟩ : ∃ x, x = out[c] := ⟨_, rfl⟩
       obtain ⟨y, hy⟩ : ∃ y, y = out[k] := ⟨_, rfl⟩
       rw [← hx] at hLx HAU
       rw [← hy] at hLy HAU
       have HLX := hide hLx
       have HLY := hide hLy
       have HWX : Hid (Wid x) := by unfold Hid; rw [hx]; exact HGS.out.wid _ (List.getElem_mem hcl)
       have HWY : Hid (Wid y) := by unfold Hid; rw [hy]; exact HGS.out.wid _ (List.getElem_mem hkl)
       obtain ⟨bx, hbx⟩ : ∃ b, b = accB A x := ⟨_, rfl⟩
       obtain ⟨by_, hby⟩ : ∃ b, b = accB A y := ⟨_, rfl⟩
       have HBX := hide hbx
       have HBY := hide hby
       rw [← hbx, ← hby] at HAU
       have HAU2 : Hid (accU A out c k = (!(bx == by_))) := HAU.out
       have HRU : Hid (∀ x y, rowU A out c (k + 1) x y = if x = c ∧ y = k then (!(bx == by_)) else rowU A out c k x y) := fun x y => by
        unfold rowU
        by_cases e : x = c
        ·subst e
         by_cases e2 : y = k
         ·subst e2
          simp [HAU2.out]
         ·by_cases e3 : y < k
          ·simp [e2, e3, show y < k + 1 by omega]
          ·simp [e2, e3, show ¬ y < k + 1 by omega]
        ·simp [e]
       clear hx hy hLx hLy hLK hbx hby
       have hMD := HMK.out.later ((Below.refl wr.heap.size wr).drew)
       have hSK : SK wM M c n (R2 c) wr.drew := ⟨HBK.out.drew, hMD.cellt (Nat.lt_succ_self c)⟩
       have HMD := hide hMD
       clear hMD
       go_upto_region 16 with fail
       refine wp_region_held_drew (S := SK wM M c n (R2 c)) (by kernel_rfl) hSK (fun hHeld => ?_)
       generalize wr.drew = wd at *
       refine tkq (v := ?_) 0 rfl ?_ ?_
       rotate_left
       ·intro w' hSw
        go_simp <;> with_reducible rfl
       try simp only [Act.put, sqA, sqB, sqC, sqD, sqE, sqF]
       refine tkq (v := ?_) 1 rfl ?_ ?_
       rotate_left
       ·intro w' hSw
        go_simp <;> with_reducible rfl
       try simp only [Act.put, sqA, sqB, sqC, sqD, sqE, sqF]
       refine tkq (v := ?_) 2 rfl ?_ ?_
       rotate_left
       ·intro w' hSw
        go_simp <;> with_reducible rfl
       try simp only [Act.put, sqA, sqB, sqC, sqD, sqE, sqF]
       refine tkq (v := ?_) 3 rfl ?_ ?_
       rotate_left
       ·intro w' hSw
        have hSc := hSw.2
        go_simp <;> with_reducible rfl
       try simp only [Act.put, sqA, sqB, sqC, sqD, sqE, sqF]
       refine tkq (v := ?_) 4 rfl ?_ ?_
       rotate_left
       ·intro w' hSw
        go_simp <;> with_reducible rfl
       try simp only [Act.put, sqA, sqB, sqC, sqD, sqE, sqF]
       refine tkq (v := ?_) 5 rfl ?_ ?_
       rotate_left
       ·intro w' hSw
        obtain ⟨a0, a1, a2⟩ := KAA.out w' (UPM.out w' hSw.1)
        go_simp <;> with_reducible rfl
       try simp only [Act.put, sqA, sqB, sqC, sqD, sqE, sqF]
       refine tkq (v := ?_) 6 rfl ?_ ?_
       rotate_left
       ·intro w' hSw
        go_simp <;> with_reducible rfl
       try simp only [Act.put, sqA, sqB, sqC, sqD, sqE, sqF]
       refine tkq (v := ?_) 7 rfl ?_ ?_
       rotate_left
       ·intro w' hSw
        go_simp <;> with_reducible rfl
       try simp only [Act.put, sqA, sqB, sqC, sqD, sqE, sqF]
       refine tkq (v := ?_) 8 rfl ?_ ?_
       rotate_left
       ·intro w' hSw
        go_simp <;> with_reducible rfl
       try simp only [Act.put, sqA, sqB, sqC, sqD, sqE, sqF]
       refine tkq (v := ?_) 9 rfl ?_ ?_
       rotate_left
       ·intro w' hSw
        obtain ⟨x0, x1, -⟩ := HLX.out w' (UPM.out w' hSw.1)
        go_simp <;> with_reducible rfl
       try simp only [Act.put, sqA, sqB, sqC, sqD, sqE, sqF]
       refine tkq (v := ?_) 11 rfl ?_ ?_
       rotate_left
       ·intro w' hSw
        obtain ⟨a0, a1, a2⟩ := KAA.out w' (UPM.out w' hSw.1)
        go_simp <;> with_reducible rfl
       try simp only [Act.put, sqA, sqB, sqC, sqD, sqE, sqF]
       refine tkq (v := ?_) 12 rfl ?_ ?_
       rotate_left
       ·intro w' hSw
        go_simp <;> with_reducible rfl
       try simp only [Act.put, sqA, sqB, sqC, sqD, sqE, sqF]
       refine tkq (v := ?_) 13 rfl ?_ ?_
       rotate_left
       ·intro w' hSw
        go_simp <;> with_reducible rfl
       try simp only [Act.put, sqA, sqB, sqC, sqD, sqE, sqF]
       refine tkq (v := ?_) 14 rfl ?_ ?_
       rotate_left
       ·intro w' hSw
        go_simp <;> with_reducible rfl
       try simp only [Act.put, sqA, sqB, sqC, sqD, sqE, sqF]
       refine tkq (v := ?_) 15 rfl ?_ ?_
       rotate_left
       ·intro w' hSw
        obtain ⟨x0, x1, -⟩ := HLY.out w' (UPM.out w' hSw.1)
        go_simp <;> with_reducible rfl
       try simp only [Act.put, sqA, sqB, sqC, sqD, sqE, sqF]
       refine rdq 10 rfl fun K hK => ?_
       go_simp
       go_at_call 17
       refine (acceptsOfW_any A (S := 8) (M := 40) (by omega) (by omega) OA.out x HWX.out _ _ _ _ (AVW.out _ (UP5.out _ (UPM.out _ hSK.1))) ⟨ax, cx, rfl, (HLX.out _ (UPM.out _ hSK.1)).2.2.mono fun _ _ _ => trivial⟩).mono ?_
       rintro e wC ⟨rfl, hbC⟩
       rw [← HBX.out]
       have hSC := hSK.later hbC
       have HMC := hide (HMD.out.later hbC)
       go_simp
       refine hK.out _ _ (by exact hSC) (fun hHeld => ?_)
       clear hK K
       try simp only [Act.put, sqA, sqB, sqC, sqD, sqE, sqF]
       refine rdq 16 rfl fun K hK => ?_
       go_simp
       go_at_call 17
       refine (acceptsOfW_any A (S := 8) (M := 40) (by omega) (by omega) OA.out y HWY.out _ _ _ _ (AVW.out _ (UP5.out _ (UPM.out _ hSC.1))) ⟨ay, cy, rfl, (HLY.out _ (UPM.out _ hSC.1)).2.2.mono fun _ _ _ => trivial⟩).mono ?_
       rintro e wD ⟨rfl, hbD⟩
       rw [← HBY.out]
       have hSD := hSC.later hbD
       have HME := hide (HMC.out.later hbD)
       go_simp
       refine hK.out _ _ (by exact hSD) (fun hHeld => ?_)
       clear hK K
       try simp only [Act.put, sqA, sqB, sqC, sqD, sqE, sqF]
       refine tkq (v := ?_) 17 rfl ?_ ?_
       rotate_left
       ·intro w' hSw
        go_simp <;> with_reducible rfl
       try simp only [Act.put, sqA, sqB, sqC, sqD, sqE, sqF]
       refine tkq (v := ?_) 18 rfl ?_ ?_
       rotate_left
       ·intro w' hSw
        go_simp <;> with_reducible rfl
       try simp only [Act.put, sqA, sqB, sqC, sqD, sqE, sqF]
       have hro := HME.out.row c (Nat.lt_succ_self c)
       have tc := HME.out.cellr (Nat.lt_succ_self c) hlk
       have tf := hro.frozen k
       have tl := hro.lt
       have hMN := (HME.out.set (Nat.lt_succ_self c) k (!(bx == by_)))
       have HMN : Hid (MatP (wD.setCell ⟨R2 c, k, none⟩ (.bool (!(bx == by_)))) M n (c + 1) R2 (rowU A out c (k + 1))) := hMN.congr fun x y _ _ => HRU.out x y
       have hSN : SK wM M c n (R2 c) (wD.setCell ⟨R2 c, k, none⟩ (.bool (!(bx == by_)))) := ⟨hSD.1.setCell (p := ⟨R2 c, k, none⟩) (by have := HM.out; have := HME.out.gt c (Nat.lt_succ_self c); simp; omega) _, hMN.cellt (Nat.lt_succ_self c)⟩
       have HSN := hide hSN
       clear hro hMN hSN
       refine rdq 19 rfl fun K hK => ?_
       go_simp
       refine hK.out _ _ (by exact HSN.out) (fun hHeld => ?_)
       clear hK K
       try simp only [Act.put, sqA, sqB, sqC, sqD, sqE, sqF]
       refine wpAnyH_done (by kernel_rfl) ?_ _
       clear hHeld tc tf tl hSK hSC hSD hbC hbD
       generalize wD.setCell ⟨R2 c, k, none⟩ (.bool (!(bx == by_))) = w9 at *
       go_wp2_with fail
       go_roundw
       case rel => exact ⟨k + 1, by omega, by go_num, HMN.out, HSN.out.1⟩
       case measure => simp [intOf]; omega
      ·have hki : ¬ (k : Int) < (n : Int) := by omega
       have HME : Hid (MatP wr M n (c + 1) R2 (accU A out)) := HMK.out.congr fun x y _ hy => by
        unfold rowU
        by_cases e : x = c
        ·rw [if_pos e, if_pos (by omega)]
        ·rw [if_neg e]
       go_wp2_with fail
       go_roundw
       case rel => exact ⟨c + 1, R2, by omega, by go_num, HME.out, HBK.out⟩
       case measure => simp [intOf]; omega
    ·have hci : ¬ (c : Int) < (n : Int) := by omega
     have HMF : Hid (MatP wr M n n R (accU A out)) := by
      have h := HMA.out
      rw [show c = n by omega] at h
      exact h
     have HMT0 : Hid (MarksT A out (accU A out)) := MarksT.start fun i k hi hk => accU_at hi hk
     obtain ⟨w9, hw9⟩ : ∃ x, x = wr := ⟨_, rfl⟩
     rw [← hw9] at HMF HB8 ⊢
     clear hw9 HMA
     have HMAP := HM1
     go_wp2_with fail
     go_loopg [10] (msU n (accU A out) + 1) (fun g ag wr => AgI A out wM M n R g ag wr)
     case atStart => exact ⟨⟨accU A out, true, rfl, HMF.out, HMT0.out, (fun h => by cases h), fun _ => Nat.le_refl _⟩, HB8.out⟩
     case round =>
      obtain ⟨⟨U0, b, rfl, hm0, hk0, hcl, hms⟩, hb0⟩ := hrel
      have HM0 := hide hm0
      have HK0 := hide hk0
      have HCL := hide hcl
      have HMS := hide hms
      have HB0 := hide hb0
      clear hm0 hk0 hcl hms hb0
      obtain ⟨wa, hwa⟩ : ∃ x, x = wr := ⟨_, rfl⟩
      rw [← hwa] at HM0 HB0 ⊢
      clear hwa
      cases b with
      | false =>
       have HALK : Hid (∀ (i k : Nat) (hi : i < out.length) (hk : k < out.length), alkT A out out[i] out[k] = !U0 i k) := HK0.out.alk (fun i j hi hj e => ix_inj HND.out (by simpa using hi) (by simpa using hj) (by rw [List.getElem_map, List.getElem_map]; unfold keyA; rw [e])) HFW.out fun i k hi hk hp => HCL.out (by trivial) i k (by have := HN.out; omega) (by have := HN.out; omega) (Or.inl (by have := HN.out; omega)) hp
       go_wp2_with fail
       go_loopw [13, 14] (fun kv iv wr => ∃ i3 : Nat, i3 ≤ n ∧ iv = .int .i64 (i3 : Int) ∧ kv = .int .i64 ((cntK (alkT A out) (out.take i3) : Nat) : Int) ∧ cntK (alkT A out) (out.take i3) ≤ i3 ∧ MatP wr M n n R U0 ∧ Below wM.heap.size wM wr) (fun kv iv wr => n - (intOf iv).toNat)
       case atStart => exact ⟨0, Nat.zero_le _, rfl, rfl, Nat.le_refl _, HM0.out, HB0.out⟩
       case round =>
        obtain ⟨i3, hi3, rfl, rfl, hle3, hm3, hb3⟩ := hrel
        have HM3 := hide hm3
        have HB3 := hide hb3
        clear hm3 hb3
        by_cases hl3 : i3 < n
        ·have hii3 : (i3 : Int) < (n : Int) := by omega
         have hol3 : i3 < out.length := by have := HN.out; omega
         obtain ⟨x3, hx3⟩ : ∃ x, x = out[i3] := ⟨_, rfl⟩
         have HSN3 : Hid (cntK (alkT A out) (out.take (i3 + 1)) = cntK (alkT A out) (out.take i3) + (if (out.take i3).any (alkT A out x3) then 0 else 1)) := by unfold Hid; rw [List.take_succ_eq_append_getElem hol3, cntK_snoc, hx3]
         have HSK3 : Hid (∀ k3 (h : k3 < i3), (!(out.take (k3 + 1)).any (alkT A out x3)) = ((!(out.take k3).any (alkT A out x3)) && U0 i3 k3)) := fun k3 h => by
          have hk3 : k3 < out.length := by omega
          rw [List.take_succ_eq_append_getElem hk3, List.any_append, hx3]
          simp [HALK.out i3 k3 hol3 hk3]
         clear hx3
         obtain ⟨C3, hC3⟩ : ∃ C, C = cntK (alkT A out) (out.take i3) := ⟨_, rfl⟩
         rw [← hC3] at HSN3 hle3 ⊢
         clear hC3
         have HSN3' := HSN3
         go_wp2_with fail
         go_loopw [15, 16] (fun fv kv wr => ∃ k3 : Nat, k3 ≤ i3 ∧ kv = .int .i64 (k3 : Int) ∧ fv = .bool (!(out.take k3).any (alkT A out x3)) ∧ MatP wr M n n R U0 ∧ Below wM.heap.size wM wr) (fun fv kv wr => i3 - (intOf kv).toNat)
         case atStart => exact ⟨0, Nat.zero_le _, rfl, by simp, HM3.out, HB3.out⟩
         case round =>
          obtain ⟨k3, hk3, rfl, rfl, hm4, hb4⟩ := hrel
          have HM4 := hide hm4
          have HB4 := hide hb4
          clear hm4 hb4
          by_cases hlk3 : k3 < i3
          ·have hki3 : (k3 : Int) < (i3 : Int) := by omega
           have HSK4 := hide (HSK3.out k3 hlk3)
           have m0 := HM4.out.cellt hl3
           have m1 := HM4.out.cellr (k := k3) hl3 (by omega)
           have hkn3 : (k3 : Int) < (n : Int) := by omega
           cases hf : (!(out.take k3).any (alkT A out x3)) with
           | true =>
            rw [hf] at HSK4
            clear hf
            cases hu : U0 i3 k3 with
            | true =>
             rw [hu] at HSK4 m1
             clear hu
             go_wp2_with fail
             go_roundw
             case rel => exact ⟨k3 + 1, by omega, by go_num, by rw [HSK4.out]; rfl, HM4.out, HB4.out⟩
             case measure => simp [intOf]; omega
            | false =>
             rw [hu] at HSK4 m1
             clear hu
             go_wp2_with fail
             go_roundw
             case rel => exact ⟨k3 + 1, by omega, by go_num, by rw [HSK4.out]; rfl, HM4.out, HB4.out⟩
             case measure => simp [intOf]; omega
           | false =>
            rw [hf] at HSK4
            clear hf
            go_wp2_with fail
            go_roundw
            case rel => exact ⟨k3 + 1, by omega, by go_num, by rw [HSK4.out]; simp, HM4.out, HB4.out⟩
            case measure => simp [intOf]; omega
          ·have hki3 : ¬ (k3 : Int) < (i3 : Int) := by omega
           have e3 : k3 = i3 := by omega
           subst e3
           cases hf : (!(out.take k3).any (alkT A out x3)) with
           | true =>
            have HC4 : Hid (cntK (alkT A out) (out.take (k3 + 1)) = C3 + 1) := by have h := HSN3'.out; rw [if_neg (by rw [Bool.not_eq_true']  at hf; rw [hf]; simp)] at h; exact h
            clear hf
            go_wp2_with fail
            go_roundw
            case rel => exact ⟨k3 + 1, by omega, by go_num, by rw [HC4.out]; go_num, by rw [HC4.out]; omega, HM4.out, HB4.out⟩
            case measure => simp [intOf]; omega
           | false =>
            have HC4 : Hid (cntK (alkT A out) (out.take (k3 + 1)) = C3) := by have h := HSN3'.out; rw [if_pos (by rw [Bool.not_eq_false'] at hf; exact hf)] at h; exact h
            clear hf
            go_wp2_with fail
            go_roundw
            case rel => exact ⟨k3 + 1, by omega, by go_num, by rw [HC4.out], by rw [HC4.out]; omega, HM4.out, HB4.out⟩
            case measure => simp [intOf]; omega
        ·have hii3 : ¬ (i3 : Int) < (n : Int) := by omega
         have HTE : Hid (out.take i3 = out) := List.take_of_length_le (by have := HN.out; omega)
         rw [HTE.out]
         have HBF := hide (UP5.out _ (UPM.out _ HB3.out))
         go_wp2_with fail
         go_ret
         exact ⟨out, HGR.out, rfl, HBF.out⟩
      | true =>
       go_wp2_with fail
       go_loopw [10, 11] (fun ag iv wr => AiI A out wM M n R U0 ag iv wr) (fun ag iv wr => n - (intOf iv).toNat)
       case atStart => exact ⟨⟨U0, false, 0, rfl, rfl, Nat.zero_le _, HM0.out, HK0.out, (fun _ => ⟨rfl, fun i k _ _ h => absurd h (by omega)⟩), (fun h => by cases h)⟩, HB0.out⟩
       case round =>
        obtain ⟨⟨U1, b1, i1, rfl, rfl, hi1, hm1, hk1, hf1, ht1⟩, hb1⟩ := hrel
        have HM1 := hide hm1
        have HK1 := hide hk1
        have HF1 := hide hf1
        have HT1 := hide ht1
        have HB1 := hide hb1
        clear hm1 hk1 hf1 ht1 hb1
        obtain ⟨wb, hwb⟩ : ∃ x, x = wr := ⟨_, rfl⟩
        rw [← hwb] at HM1 HB1 ⊢
        clear hwb
        by_cases hli : i1 < n
        ·have hii1 : (i1 : Int) < (n : Int) := by omega
         go_wp2_with fail
         go_loopw [10, 12] (fun ag kv wr => AkI A out wM M n R U0 i1 ag kv wr) (fun ag kv wr => n - (intOf kv).toNat)
         case atStart => exact ⟨⟨U1, b1, 0, rfl, rfl, Nat.zero_le _, HM1.out, HK1.out, HF1.out, HT1.out⟩, HB1.out⟩
         case round =>
          obtain ⟨⟨U2, b2, k2, rfl, rfl, hk2, hm2, hmk2, hf2, ht2⟩, hb2⟩ := hrel
          have HM2 := hide hm2
          have HK2 := hide hmk2
          have HF2 := hide hf2
          have HT2 := hide ht2
          have HB2 := hide hb2
          clear hm2 hmk2 hf2 ht2 hb2
          obtain ⟨wc, hwc⟩ : ∃ x, x = wr := ⟨_, rfl⟩
          rw [← hwc] at HM2 HB2 ⊢
          clear hwc
          by_cases hlk : k2 < n
          ·have hkk2 : (k2 : Int) < (n : Int) := by omega
           have c1 := HM2.out.cellt hli
           have c2 := HM2.out.cellr (k := k2) hli hlk
           obtain ⟨a0, a1, a2⟩ := KAA.out wc (UPM.out _ HB2.out)
           have HNU : Hid (b2 = false → U2 i1 k2 = true ∨ ¬ PtP A out U2 i1 k2 → U2 = U0 ∧ ClU A out n U2 i1 (k2 + 1)) := fun h hor => by
            obtain ⟨h1, h2⟩ := HF2.out h
            refine ⟨h1, fun i k hi hk hc hp => ?_⟩
            by_cases e : i = i1 ∧ k = k2
            ·obtain ⟨rfl, rfl⟩ := e
             rcases hor with h3 | h3
             ·exact h3
             ·exact absurd hp h3
            ·exact h2 i k hi hk (by omega) hp
           cases hU : U2 i1 k2 with
           | true =>
            have HNX : Hid (b2 = false → U2 = U0 ∧ ClU A out n U2 i1 (k2 + 1)) := fun h => HNU.out h (Or.inl hU)
            rw [hU] at c2
            clear hU
            go_wp2_with fail
            go_roundw
            case rel => exact ⟨⟨U2, b2, k2 + 1, rfl, by go_num, by omega, HM2.out, HK2.out, HNX.out, HT2.out⟩, HB2.out⟩
            case measure => simp [intOf]; omega
           | false =>
            have HU := hide hU
            rw [hU] at c2
            clear hU
            have HPT : Hid (∀ w', Below wc.heap.size wc w' → Calls Try.prog 55 #[.agg #[.int .i64 A.st, .slice am A.mv.length an, .slice al A.la.length ao], .slice oa n oc, .map (some r), .slice (some ⟨M, 0, none⟩) n n, .int .i64 (i1 : Int), .int .i64 (k2 : Int)] w' fun e w2 => PaP A out U2 i1 k2 w' e w2) := fun w' hb => by
             have hb2 := HB2.out.trans (hb.mono HB2.out.size)
             have hb5 := UPM.out w' hb2
             have h := parted_any A OA.out SA.out out (by have := HN.out; omega) HGS.out.wid HND.out (fun m hm k hk hx => by obtain ⟨t, ht, g, _⟩ := HGR.out.cl m (List.mem_append.2 (Or.inl hm)) k hk hx; exact ⟨t, ht, g⟩) U2 i1 k2 (by have := HN.out; omega) (by have := HN.out; omega) (.agg #[.int .i64 A.st, .slice am A.mv.length an, .slice al A.la.length ao]) oa oc r M R w' (fun _ => True) (AVW.out w' (UP5.out w' hb5)) ((HSL.out.later hb5).mono fun _ _ _ => trivial) (mapAt_later HMAP.out hb2) (by have h9 := (HM2.out.later hb).mat; rw [HN.out] at h9; exact h9)
             rw [← HN.out] at h
             exact h
            go_wp2_with fail
            refine (HPT.out _ (by first | exact Below.refl _ _ | exact (Below.refl _ _).drew)).mono ?_
            rintro e wp ⟨z, rfl, hz1, hz2, hbp⟩
            have hBP : Below wc.heap.size wc wp := by first | exact hbp | exact ((Below.refl _ _).drew).trans hbp
            have HBP := hide hBP
            cases z with
            | false =>
             have HNX : Hid (b2 = false → U2 = U0 ∧ ClU A out n U2 i1 (k2 + 1)) := fun h => HNU.out h (Or.inr (hz2 rfl))
             clear hz1 hz2 hbp hBP c1 c2 a0 a1 a2
             go_wp2_with fail
             go_roundw
             case rel => exact ⟨⟨U2, b2, k2 + 1, rfl, by go_num, by omega, HM2.out.later HBP.out, HK2.out, HNX.out, HT2.out⟩, HB2.out.trans (HBP.out.mono HB2.out.size)⟩
             case measure => simp [intOf]; omega
            | true =>
             have HPP := hide (hz1 rfl)
             have hmp := HM2.out.later hBP
             have hBp2 : Below wM.heap.size wM wp := HB2.out.trans (hBP.mono HB2.out.size)
             have d1 := hmp.cellt hli
             have tc1 := hmp.cellr (k := k2) hli hlk
             have row1 := hmp.row i1 hli
             have tf1 := row1.frozen k2
             have tl1 := row1.lt
             have hm10 : MatP (wp.setCell ⟨R i1, k2, none⟩ (.bool true)) M n n R (setU U2 i1 k2) := hmp.set hli k2 true
             have d2 := hm10.cellt hlk
             have tc2 := hm10.cellr (k := i1) hlk hli
             have row2 := hm10.row k2 hlk
             have tf2 := row2.frozen i1
             have tl2 := row2.lt
             have HM11 : Hid (MatP ((wp.setCell ⟨R i1, k2, none⟩ (.bool true)).setCell ⟨R k2, i1, none⟩ (.bool true)) M n n R (setU (setU U2 i1 k2) k2 i1)) := hm10.set hlk i1 true
             have hgt1 := hmp.gt i1 hli
             have hgt2 := hmp.gt k2 hlk
             have HB11 : Hid (Below wM.heap.size wM ((wp.setCell ⟨R i1, k2, none⟩ (.bool true)).setCell ⟨R k2, i1, none⟩ (.bool true))) := (hBp2.setCell (p := ⟨R i1, k2, none⟩) (by have := HM.out; simp; omega) _).setCell (p := ⟨R k2, i1, none⟩) (by have := HM.out; simp; omega) _
             have HLT : Hid (msU n (setU (setU U2 i1 k2) k2 i1) < msU n U0) := by
              have h1 := msU_lt hli hlk HU.out
              have h2 : msU n U2 ≤ msU n U0 := by
               cases b2 with
               | true => exact Nat.le_of_lt (HT2.out rfl)
               | false => rw [(HF2.out rfl).1]; exact Nat.le_refl _
              exact Nat.lt_of_lt_of_le h1 h2
             clear hz1 hz2 hbp hBP c1 c2 a0 a1 a2 row1 row2 hmp hm10 hgt1 hgt2 hBp2
             go_wp2_with fail
             go_roundw
             case rel => exact ⟨⟨setU (setU U2 i1 k2) k2 i1, true, k2 + 1, rfl, by go_num, by omega, HM11.out, HK2.out.mark HPP.out, (fun h => by cases h), (fun _ => HLT.out)⟩, HB11.out⟩
             case measure => simp [intOf]; omega
          ·have hkk2 : ¬ (k2 : Int) < (n : Int) := by omega
           have HFN : Hid (b2 = false → U2 = U0 ∧ ClU A out n U2 (i1 + 1) 0) := fun h => by
            obtain ⟨h1, h2⟩ := HF2.out h
            refine ⟨h1, fun i k hi hk hc hp => h2 i k hi hk ?_ hp⟩
            omega
           go_wp2_with fail
           go_roundw
           case rel => exact ⟨⟨U2, b2, i1 + 1, rfl, by go_num, by omega, HM2.out, HK2.out, HFN.out, HT2.out⟩, HB2.out⟩
           case measure => simp [intOf]; omega
        ·have hii1 : ¬ (i1 : Int) < (n : Int) := by omega
         have HCN : Hid (b1 = false → ClU A out n U1 n 0) := fun h => by
          obtain ⟨h1, h2⟩ := HF1.out h
          intro i k hi hk hc hp
          exact h2 i k hi hk (by omega) hp
         cases b1 with
         | true =>
          have HLS : Hid (msU n U1 + 1 < gk) := by have h1 := HT1.out rfl; have h2 := HMS.out (by trivial); unfold Hid; omega
          go_wp2_with fail
          go_roundg (msU n U1 + 1)
          case measure => exact HLS.out
          case rel => exact ⟨⟨U1, true, rfl, HM1.out, HK1.out, (fun h => by cases h), fun _ => Nat.le_refl _⟩, HB1.out⟩
         | false =>
          have HLS : Hid (0 < gk) := by have h2 := HMS.out (by trivial); unfold Hid; omega
          go_wp2_with fail
          go_roundg 0
          case measure => exact HLS.out
          case rel => exact ⟨⟨U1, false, rfl, HM1.out, HK1.out, (fun _ => HCN.out (by trivial)), (fun h => by cases h)⟩, HB1.out⟩
end Go.Proofs.Ytofebfjkodceeaa
