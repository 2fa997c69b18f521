/- Walks: of each state the first term (auto.firstsOf). -/
import Derived.Test.YtdencaekailmcaaAv9
import Derived.Deep.LoopGhost
namespace Go.Proofs.Ytdencaekailmcaa
open Go.RowKit
set_option linter.unusedSimpArgs false
set_option linter.unusedVariables false
set_option maxRecDepth 8000

theorem newM_eq (st : Fs) (m : Mv) : newM st m = if ahO (byM st m) (atF st m.to) = true then byM st m else none := by
  unfold newM
  cases byM st m with
  | none => simp [ahO]
  | some t =>
    cases atF st m.to with
    | none => simp [ahO]
    | some u => cases hag : agT t u <;> simp [ahO, hag]
theorem step_yes {st : Fs} {m : Mv} (h : ahO (byM st m) (atF st m.to) = true) : stepF st m = st.set m.to.toNat (byM st m) ∧ (newM st m).isSome = true := by
  have e := newM_eq st m
  rw [if_pos h] at e
  unfold stepF
  rw [e]
  cases hb : byM st m with
  | none => rw [hb] at h; simp [ahO] at h
  | some t => exact ⟨rfl, rfl⟩
theorem step_no {st : Fs} {m : Mv} (h : ahO (byM st m) (atF st m.to) = false) : stepF st m = st ∧ (newM st m).isSome = false := by
  have e := newM_eq st m
  rw [if_neg (by rw [h]; decide)] at e
  unfold stepF
  rw [e]
  exact ⟨rfl, rfl⟩
/-- What holds between two passes. -/
structure FoI (w : World) (n G : Nat) (ms : List Mv) (st0 : Fs) (ac : Array Value) (g : Nat) (q : Value) (wr : World) : Prop where
  ex : ∃ (st : Fs) (b : Bool), q = .bool b ∧ FsV wr G st ∧ OkF st ∧ st.length = n ∧ rkF 100000 st + b.toNat ≤ g ∧ (b = true → ∀ e, FinF ms st e → FinF ms st0 e) ∧ (b = false → FinF ms st0 st)
  bl : Below w.heap.size w wr
  bx : Blk wr w.heap.size ac 25
structure FoJ (w : World) (n G : Nat) (ms : List Mv) (st : Fs) (ac : Array Value) (q i : Value) (wr : World) : Prop where
  ex : ∃ k : Nat, k ≤ ms.length ∧ i = .int .i64 (k : Int) ∧ q = .bool (newsF st (ms.take k)) ∧ FsV wr G (passF st (ms.take k))
  bl : Below w.heap.size w wr
  bx : Blk wr w.heap.size ac 25
theorem okF_start (n : Nat) : OkF (List.replicate n none) := fun s t h => by
  unfold atF at h
  rw [List.getElem?_replicate] at h
  split at h <;> simp at h
/-- What firstsOf tells. -/
def FoP (n : Nat) (ms : List Mv) (w : World) (e : Ending) (w' : World) : Prop := ∃ G st, e = .returned (.slice (some ⟨G, 0, none⟩) n n) ∧ FinF ms (List.replicate n none) st ∧ FsV w' G st ∧ OkF st ∧ st.length = n ∧ w.heap.size ≤ G ∧ Below w.heap.size w w'

set_option maxHeartbeats 4000000 in
theorem firstsOf_any (A : Au) (hA : OkAu 8 40 A) (n : Nat) (hn : A.st = (n : Int)) (va : Value) (w : World) (X : Nat → Prop) (hva : AV w X va A) :
    Calls Try.prog 33 #[va] w fun e w' => FoP n A.mv w e w' := by
  obtain ⟨am, cm, al, cl, rfl, hm, hla⟩ := hva
  rw [hn]
  have hn8 : n ≤ 8 := by have := hA.st; omega
  have hml := hm.1
  have HM := hide hm
  have HMV : Hid (∀ m ∈ A.mv, OkMv (n : Int) m) := fun m h => by rw [← hn]; exact hA.mv m h
  have B1 : Hid (Below w.heap.size w (w.alloc (.cells #[.int .i64 (n : Int), .slice am A.mv.length cm, .slice al A.la.length cl] 25))) := (Below.refl _ _).alloc (Nat.le_refl _) _
  have K1 : Hid (Blk (w.alloc (.cells #[.int .i64 (n : Int), .slice am A.mv.length cm, .slice al A.la.length cl] 25)) w.heap.size #[.int .i64 (n : Int), .slice am A.mv.length cm, .slice al A.la.length cl] 25) := Blk.new _ _ _
  have hmk := make_founds n (by omega)
  have c0 := K1.out.cell 0
  clear hm hla hA hn
  go_enter Try.func33, Try.ntmps33
  go_wp2_with fail
  have F2 := hide (FsV.start (w.alloc (.cells #[.int .i64 (n : Int), .slice am A.mv.length cm, .slice al A.la.length cl] 25)) n 0)
  have B2 := hide (B1.out.trans ((one1 (w.alloc (.cells #[.int .i64 (n : Int), .slice am A.mv.length cm, .slice al A.la.length cl] 25)) (.cells (madeCells #[.string ⟨#[]⟩, .slice none 0 0, .int .i64 0, .string ⟨#[]⟩] (n * 4)) 73)).mono B1.out.size))
  have K2 := hide (K1.out.alloc (.cells (madeCells #[.string ⟨#[]⟩, .slice none 0 0, .int .i64 0, .string ⟨#[]⟩] (n * 4)) 73))
  have HG : Hid (w.heap.size < (w.alloc (.cells #[.int .i64 (n : Int), .slice am A.mv.length cm, .slice al A.la.length cl] 25)).heap.size) := by unfold Hid; simp
  generalize (w.alloc (.cells #[.int .i64 (n : Int), .slice am A.mv.length cm, .slice al A.la.length cl] 25)).alloc (.cells (madeCells #[.string ⟨#[]⟩, .slice none 0 0, .int .i64 0, .string ⟨#[]⟩] (n * 4)) 73) = w2 at *
  obtain ⟨G, hG⟩ : ∃ G, G = (w.alloc (.cells #[.int .i64 (n : Int), .slice am A.mv.length cm, .slice al A.la.length cl] 25)).heap.size := ⟨_, rfl⟩
  have hG2 : w.heap.size + 1 = G := by rw [hG]; simp
  rw [← hG] at F2 HG
  try rw [← hG]
  try rw [hG2]
  clear hmk c0 hG hG2 B1 K1
  obtain ⟨st0, hst0⟩ : ∃ st0 : Fs, st0 = List.replicate n none := ⟨_, rfl⟩
  rw [← hst0] at F2
  have HST0 := hide hst0
  clear hst0
  go_loopg [4] (rkF 100000 st0 + 1) (fun g q wr => FoI w n G A.mv st0 #[.int .i64 (n : Int), .slice am A.mv.length cm, .slice al A.la.length cl] g q wr)
  case atStart => exact ⟨⟨st0, true, rfl, F2.out, by rw [HST0.out]; exact okF_start n, by rw [HST0.out]; simp, Nat.le_refl _, fun _ e h => h, fun h => by cases h⟩, B2.out, K2.out⟩
  case round =>
    obtain ⟨⟨st, b, rfl, hfs, hok, hln, hrk, hf1, hf2⟩, hbl, hbx⟩ := hrel
    have HFS := hide hfs
    have HOK := hide hok
    have HLN := hide hln
    have HRK := hide hrk
    have HF1 := hide hf1
    have HF2 := hide hf2
    have HBL := hide hbl
    have HBX := hide hbx
    clear hfs hok hln hrk hf1 hf2 hbl hbx
    cases b with
    | false =>
      go_wp2_with fail
      go_ret
      exact ⟨G, st, rfl, by rw [← HST0.out]; exact HF2.out (by trivial), HFS.out, HOK.out, HLN.out, Nat.le_of_lt HG.out, HBL.out⟩
    | true =>
      have x1 := HBX.out.cell 1
      go_wp2_with fail
      obtain ⟨w4, hw4⟩ : ∃ w4, w4 = wr := ⟨_, rfl⟩
      subst hw4
      clear x1
      go_loopw [4, 15] (fun q i wr => FoJ w n G A.mv st #[.int .i64 (n : Int), .slice am A.mv.length cm, .slice al A.la.length cl] q i wr) (fun q i wr => A.mv.length - (intOf i).toNat)
      case atStart => exact ⟨⟨0, Nat.zero_le _, rfl, rfl, HFS.out⟩, HBL.out, HBX.out⟩
      case round =>
        obtain ⟨⟨k, hk, rfl, rfl, hfs2⟩, hbl2, hbx2⟩ := hrel
        have FS := hide hfs2
        have BL := hide hbl2
        have BX := hide hbx2
        have OKK := hide (passF_ok (n := (n : Int)) (A.mv.take k) st HOK.out (fun m hm => HMV.out m (List.mem_of_mem_take hm)))
        have LNK : Hid ((passF st (A.mv.take k)).length = n) := by unfold Hid; rw [passF_len, HLN.out]
        clear hfs2 hbl2 hbx2
        by_cases hlt : k < A.mv.length
        · have hki : (k : Int) < (A.mv.length : Int) := by omega
          obtain ⟨b, o, af, cf, rfl, hb, x0, x1, x2, hpv⟩ := HM.out.get BL.out k hlt
          have hmok := HMV.out A.mv[k] (List.getElem_mem hlt)
          have HMOK := hide hmok
          obtain ⟨s, hs⟩ : ∃ s : Nat, A.mv[k].to = (s : Int) := ⟨A.mv[k].to.toNat, by have := hmok.to.1; omega⟩
          have hsn : s < n := by have := hmok.to.2; omega
          have hsi : (s : Int) < (n : Int) := by omega
          have HPT := hide (passF_take (st := st) hlt)
          have HNT := hide (newsF_take (st := st) hlt)
          obtain ⟨sk, hsk⟩ : ∃ sk, sk = passF st (A.mv.take k) := ⟨_, rfl⟩
          obtain ⟨nw, hnw⟩ : ∃ nw, nw = newsF st (A.mv.take k) := ⟨_, rfl⟩
          rw [← hsk] at FS OKK LNK HPT HNT
          rw [← hnw] at HNT ⊢
          have hsl : s < sk.length := by rw [LNK.out]; exact hsn
          have HAT : Hid (atF sk A.mv[k].to = sk[s]) := by unfold Hid atF; rw [hs, Int.toNat_natCast, List.getElem?_eq_getElem hsl]; rfl
          have HSS := hide hs
          have FS3 := hide (FS.out.later (one1 wr (.cells #[.string A.mv[k].name, .slice af A.mv[k].frm.length cf, .int .i64 A.mv[k].to] 50)))
          have B3 := hide (BL.out.trans ((one1 wr (.cells #[.string A.mv[k].name, .slice af A.mv[k].frm.length cf, .int .i64 A.mv[k].to] 50)).mono BL.out.size))
          have X3 := hide (BX.out.alloc (.cells #[.string A.mv[k].name, .slice af A.mv[k].frm.length cf, .int .i64 A.mv[k].to] 50))
          have M3 : Hid (Blk (wr.alloc (.cells #[.string A.mv[k].name, .slice af A.mv[k].frm.length cf, .int .i64 A.mv[k].to] 50)) wr.heap.size #[.string A.mv[k].name, .slice af A.mv[k].frm.length cf, .int .i64 A.mv[k].to] 50) := Blk.new _ _ _
          have P3 := hide (hpv.later (one1 wr (.cells #[.string A.mv[k].name, .slice af A.mv[k].frm.length cf, .int .i64 A.mv[k].to] 50)))
          clear hpv hmok hs hsk hnw
          go_upto_region 8 with fail
          generalize (wr.alloc (.cells #[.string A.mv[k].name, .slice af A.mv[k].frm.length cf, .int .i64 A.mv[k].to] 50)) = w5 at *
          generalize wr.heap.size = D at *
          clear x0 x1 x2 FS BL BX
          have m0 := M3.out.cell 0
          have m1 := M3.out.cell 1
          have m2 := M3.out.cell 2
          go_wp2_with fail
          refine (firstBy_any sk n LNK.out OKK.out A.mv[k] HMOK.out (by omega) af cf G _ _ P3.out FS3.out).mono ?_
          rintro e w6 ⟨s1, a1, n1, c1, z1, u1, rfl, his, hb6⟩
          unfold fdA
          have FS7 := hide ((FS3.out.later hb6).later (one1 w6 (.cells #[.string s1, .slice a1 n1 c1, .int .i64 z1, .string u1] 73)))
          have B7 := hide ((B3.out.trans (hb6.mono B3.out.size)).trans ((one1 w6 (.cells #[.string s1, .slice a1 n1 c1, .int .i64 z1, .string u1] 73)).mono (Nat.le_trans B3.out.size hb6.size)))
          have X7 := hide ((X3.out.below hb6 X3.out.lt).alloc (.cells #[.string s1, .slice a1 n1 c1, .int .i64 z1, .string u1] 73))
          have M7 := hide ((M3.out.below hb6 M3.out.lt).alloc (.cells #[.string s1, .slice a1 n1 c1, .int .i64 z1, .string u1] 73))
          have E7 : Hid (Blk (w6.alloc (.cells #[.string s1, .slice a1 n1 c1, .int .i64 z1, .string u1] 73)) w6.heap.size #[.string s1, .slice a1 n1 c1, .int .i64 z1, .string u1] 73) := Blk.new _ _ _
          have I7 := hide (his.imp (w' := w6.alloc (.cells #[.string s1, .slice a1 n1 c1, .int .i64 z1, .string u1] 73)) (Z := fun b => b ≠ G) fun a l hs => hs.later (one1 w6 (.cells #[.string s1, .slice a1 n1 c1, .int .i64 z1, .string u1] 73)))
          clear his hb6 m0 m1 m2 FS3 B3 X3 M3 P3
          go_upto_region 9 with fail
          generalize (w6.alloc (.cells #[.string s1, .slice a1 n1 c1, .int .i64 z1, .string u1] 73)) = w7 at *
          generalize w6.heap.size = E at *
          obtain ⟨s2, a2, n2, c2, z2, u2, ⟨g0, g1, g2, g3⟩, gf, gis⟩ := FS7.out.get s hsl
          have GIS := hide gis
          have GF := hide gf
          have KP : Hid (∀ w', Below w7.heap.size w7 w' → (w'.cell? ⟨E, 0, none⟩ = some (.string s1) ∧ w'.cell? ⟨E, 1, none⟩ = some (.slice a1 n1 c1) ∧ w'.cell? ⟨E, 2, none⟩ = some (.int .i64 z1) ∧ w'.cell? ⟨E, 3, none⟩ = some (.string u1)) ∧ w'.cell? ⟨D, 2, none⟩ = some (.int .i64 (s : Int)) ∧ w'.cell? ⟨G, s * 4, none⟩ = some (.string s2) ∧ w'.cell? ⟨G, s * 4 + 1, none⟩ = some (.slice a2 n2 c2) ∧ w'.cell? ⟨G, s * 4 + 2, none⟩ = some (.int .i64 z2) ∧ w'.cell? ⟨G, s * 4 + 3, none⟩ = some (.string u2)) := fun w' hb =>
            ⟨⟨(E7.out.below hb E7.out.lt).cell 0, (E7.out.below hb E7.out.lt).cell 1, (E7.out.below hb E7.out.lt).cell 2, (E7.out.below hb E7.out.lt).cell 3⟩, by rw [← HSS.out]; exact (M7.out.below hb M7.out.lt).cell 2, cell_below3 hb g0, cell_below3 hb g1, cell_below3 hb g2, cell_below3 hb g3⟩
          have kd : Below w7.heap.size w7 w7.drew := (Below.refl _ _).drew
          clear g0 g1 g2 g3 gf gis
          refine wp_region_held_drew (S := Below w7.heap.size w7) (by kernel_rfl) kd (fun hHeld => ?_)
          refine wpAnyH_take (i := 0) (v := ?_) rfl (by kernel_rfl) (by kernel_rfl) (by kernel_rfl) (fun _ _ _ h => h) (Or.inl ⟨by rfl, ?_⟩) (by assumption) ?_
          rotate_left
          · intro w' hSw
            obtain ⟨⟨y0, y1, y2, y3⟩, y4, y5, y6, y7, y8⟩ := KP.out w' hSw
            go_simp <;> with_reducible rfl
          try simp only [Act.put, List.setIfInBounds_toArray, List.set_cons_zero, List.set_cons_succ, List.getElem_toArray, List.getElem_cons_succ, List.getElem_cons_zero]
          refine wpAnyH_take (i := 1) (v := ?_) rfl (by kernel_rfl) (by kernel_rfl) (by kernel_rfl) (fun _ _ _ h => h) (Or.inl ⟨by rfl, ?_⟩) (by assumption) ?_
          rotate_left
          · intro w' hSw
            go_simp <;> with_reducible rfl
          try simp only [Act.put, List.setIfInBounds_toArray, List.set_cons_zero, List.set_cons_succ, List.getElem_toArray, List.getElem_cons_succ, List.getElem_cons_zero]
          refine wpAnyH_take (i := 2) (v := ?_) rfl (by kernel_rfl) (by kernel_rfl) (by kernel_rfl) (fun _ _ _ h => h) (Or.inl ⟨by rfl, ?_⟩) (by assumption) ?_
          rotate_left
          · intro w' hSw
            go_simp <;> with_reducible rfl
          try simp only [Act.put, List.setIfInBounds_toArray, List.set_cons_zero, List.set_cons_succ, List.getElem_toArray, List.getElem_cons_succ, List.getElem_cons_zero]
          refine wpAnyH_take (i := 3) (v := ?_) rfl (by kernel_rfl) (by kernel_rfl) (by kernel_rfl) (fun _ _ _ h => h) (Or.inl ⟨by rfl, ?_⟩) (by assumption) ?_
          rotate_left
          · intro w' hSw
            obtain ⟨⟨y0, y1, y2, y3⟩, y4, y5, y6, y7, y8⟩ := KP.out w' hSw
            go_simp <;> with_reducible rfl
          try simp only [Act.put, List.setIfInBounds_toArray, List.set_cons_zero, List.set_cons_succ, List.getElem_toArray, List.getElem_cons_succ, List.getElem_cons_zero]
          refine wpAnyH_take (i := 4) (v := ?_) rfl (by kernel_rfl) (by kernel_rfl) (by kernel_rfl) (fun _ _ _ h => h) (Or.inl ⟨by rfl, ?_⟩) (by assumption) ?_
          rotate_left
          · intro w' hSw
            go_simp <;> with_reducible rfl
          try simp only [Act.put, List.setIfInBounds_toArray, List.set_cons_zero, List.set_cons_succ, List.getElem_toArray, List.getElem_cons_succ, List.getElem_cons_zero]
          refine wpAnyH_take (i := 5) (v := ?_) rfl (by kernel_rfl) (by kernel_rfl) (by kernel_rfl) (fun _ _ _ h => h) (Or.inl ⟨by rfl, ?_⟩) (by assumption) ?_
          rotate_left
          · intro w' hSw
            obtain ⟨⟨y0, y1, y2, y3⟩, y4, y5, y6, y7, y8⟩ := KP.out w' hSw
            go_simp <;> with_reducible rfl
          try simp only [Act.put, List.setIfInBounds_toArray, List.set_cons_zero, List.set_cons_succ, List.getElem_toArray, List.getElem_cons_succ, List.getElem_cons_zero]
          refine wpAnyH_ready (rs := [6]) (by kernel_rfl) (by simp) ?_
          refine AllReadyH.cons rfl (fun K hK => ?_) AllReadyH.nil
          go_simp
          go_at_call 35
          refine (isAhead_any (byM sk A.mv[k]) sk[s] s1 s2 a1 a2 n1 n2 c1 c2 z1 z2 u1 u2 _ (fun b => b ≠ G) (fun b => b ≠ G) (I7.out.imp fun a l hs => hs.later kd) (GIS.out.imp fun a l hs => hs.later kd)).mono ?_
          rintro e w8 ⟨rfl, hb8⟩
          have k8 : Below w7.heap.size w7 w8 := kd.trans (hb8.mono kd.size)
          clear hb8
          go_simp
          refine hK.out _ _ (by exact k8) (fun hHeld => ?_)
          clear hK K
          try simp only [Act.put, List.setIfInBounds_toArray, List.set_cons_zero, List.set_cons_succ, List.getElem_toArray, List.getElem_cons_succ, List.getElem_cons_zero]
          refine wpAnyH_done (by kernel_rfl) ?_ _
          have FS8 := hide (FS7.out.later k8)
          have B8 := hide (B7.out.trans (k8.mono B7.out.size))
          have X8 := hide (X7.out.below k8 X7.out.lt)
          have I8 := hide (I7.out.imp (w' := w8) (Z := fun b => b ≠ G) fun a l hs => hs.later k8)
          obtain ⟨⟨y0, y1, y2, y3⟩, y4, y5, y6, y7, y8⟩ := KP.out w8 k8
          have gfr : ∀ j, w8.frozen? ⟨G, j, none⟩ = false := by
            obtain ⟨_, _, _, _, _, _, _, h, _⟩ := FS8.out.get s hsl
            exact h
          have hGl := FS8.out.lt
          cases hah : ahO (byM sk A.mv[k]) sk[s] with
          | true =>
            have h1 := step_yes (st := sk) (m := A.mv[k]) (by rw [HAT.out]; exact hah)
            have HST : Hid (stepF sk A.mv[k] = sk.set s (byM sk A.mv[k])) := by have h2 := h1.1; rw [HSS.out, Int.toNat_natCast] at h2; exact h2
            have HNW : Hid ((newM sk A.mv[k]).isSome = true) := h1.2
            have FS9 := hide (FS8.out.put hsl I8.out)
            clear hah h1
            go_wp2_with fail
            go_roundw
            case rel => exact ⟨⟨k + 1, by omega, by go_num, by rw [HNT.out, HNW.out, Bool.or_true], by rw [HPT.out, HST.out]; exact FS9.out⟩, (((B8.out.setCell (p := ⟨G, s * 4, none⟩) (Nat.le_of_lt HG.out) _).setCell (p := ⟨G, s * 4 + 1, none⟩) (Nat.le_of_lt HG.out) _).setCell (p := ⟨G, s * 4 + 2, none⟩) (Nat.le_of_lt HG.out) _).setCell (p := ⟨G, s * 4 + 3, none⟩) (Nat.le_of_lt HG.out) _, (((X8.out.setOther (b' := G) _ _ (by have := HG.out; omega)).setOther (b' := G) _ _ (by have := HG.out; omega)).setOther (b' := G) _ _ (by have := HG.out; omega)).setOther (b' := G) _ _ (by have := HG.out; omega)⟩
            case measure => simp [intOf]; omega
          | false =>
            have h1 := step_no (st := sk) (m := A.mv[k]) (by rw [HAT.out]; exact hah)
            have HST : Hid (stepF sk A.mv[k] = sk) := h1.1
            have HNW : Hid ((newM sk A.mv[k]).isSome = false) := h1.2
            clear hah h1
            go_wp2_with fail
            go_roundw
            case rel => exact ⟨⟨k + 1, by omega, by go_num, by rw [HNT.out, HNW.out, Bool.or_false], by rw [HPT.out, HST.out]; exact FS8.out⟩, B8.out, X8.out⟩
            case measure => simp [intOf]; omega
        · have hki : ¬ (k : Int) < (A.mv.length : Int) := by omega
          have htk : A.mv.take k = A.mv := List.take_of_length_le (by omega)
          rw [htk] at FS OKK LNK ⊢
          have RK := passF_rank A.mv st HOK.out HLN.out HMV.out
          have HNX : Hid (newsF st A.mv = true → rkF 100000 (passF st A.mv) < rkF 100000 st) := RK.2
          have HNE : Hid (rkF 100000 (passF st A.mv) ≤ rkF 100000 st) := RK.1
          clear RK htk
          cases hnw : newsF st A.mv with
          | true =>
            have H1 := hide (HNX.out hnw)
            have HF : Hid (∀ e, FinF A.mv (passF st A.mv) e → FinF A.mv st0 e) := fun e h => HF1.out (by trivial) e (FinF.more hnw h)
            clear hnw
            go_wp2_with fail
            go_roundg (rkF 100000 (passF st A.mv) + 1)
            case rel => exact ⟨⟨passF st A.mv, true, rfl, FS.out, OKK.out, LNK.out, Nat.le_refl _, fun _ => HF.out, fun h => by cases h⟩, BL.out, BX.out⟩
            case measure => have h1 := H1.out; have h2 : rkF 100000 st + 1 ≤ gk := HRK.out; omega
          | false =>
            have HF : Hid (FinF A.mv st0 (passF st A.mv)) := HF1.out (by trivial) _ (FinF.done hnw)
            clear hnw
            go_wp2_with fail
            go_roundg (rkF 100000 (passF st A.mv))
            case rel => exact ⟨⟨passF st A.mv, false, rfl, FS.out, OKK.out, LNK.out, Nat.le_refl _, (fun h => by cases h), fun _ => HF.out⟩, BL.out, BX.out⟩
            case measure => have h1 := HNE.out; have h2 : rkF 100000 st + 1 ≤ gk := HRK.out; omega
end Go.Proofs.Ytdencaekailmcaa
