/- Walks: a term of the set with as few knots as may be (auto.Some). -/
import Derived.Test.YtdencaekailmcaaAv10
import Derived.Test.YtdencaekailmcaaAu4
import Derived.Test.YtdencaekailmcaaW9
namespace Go.Proofs.Ytdencaekailmcaa
open Go.RowKit
set_option linter.unusedSimpArgs false
set_option linter.unusedVariables false
set_option maxRecDepth 8000

/-- The first of these. -/
def bstS (st : Fs) (acc : Option Tm) (s : Int) : Option Tm := if ahO (atF st s) acc = true then atF st s else acc
def bstF (st : Fs) (l : List Int) : Option Tm := l.foldl (bstS st) none
theorem bstF_take {st : Fs} {l : List Int} {k : Nat} (h : k < l.length) : bstF st (l.take (k + 1)) = bstS st (bstF st (l.take k)) l[k] := by
  unfold bstF; rw [List.take_succ_eq_append_getElem h, List.foldl_append]; rfl
/-- What Some tells. -/
def SmP (A : Au) (w : World) (e : Ending) (w' : World) : Prop := Below w.heap.size w w' ∧
  ((auE 8 40 A ≠ 0 ∧ e = .returned (.tuple #[.agg #[.string ⟨#[]⟩, .slice none 0 0], .int .i64 (auE 8 40 A)])) ∨
   (auE 8 40 A = 0 ∧ ∃ (n : Nat) (st : Fs), A.st = (n : Int) ∧ FinF A.mv (List.replicate n none) st ∧ OkF st ∧ st.length = n ∧
     ((bstF st (lastO A) = none ∧ e = .returned (.tuple #[.agg #[.string ⟨#[]⟩, .slice none 0 0], .int .i64 7])) ∨ ∃ t a c, bstF st (lastO A) = some t ∧ e = .returned (.tuple #[.agg #[.string t.name, .slice a t.args.length c], .int .i64 0]) ∧ Sl w' (fun _ => True) a t.args)))
/-- The best so far. -/
structure SoI (w5 w6 : World) (C : Nat) (st : Fs) (l : List Int) (i : Value) (wr : World) : Prop where
  ex : ∃ (k : Nat) (s : ByteArray) (a : Option Addr) (n c : Nat) (z : Int) (u : ByteArray), k ≤ l.length ∧ i = .int .i64 (k : Int) ∧ Blk wr C #[.string s, .slice a n c, .int .i64 z, .string u] 73 ∧ FdIs wr (fun b => b < w5.heap.size) (bstF st (l.take k)) s a n c z u
  bl : ExQ (fun b => b = C) w6 wr

theorem bst_in {st : Fs} : ∀ (l : List Int) (acc : Option Tm) {t : Tm}, l.foldl (bstS st) acc = some t → acc = some t ∨ ∃ s ∈ l, atF st s = some t
  | [], acc, t, h => Or.inl h
  | s :: r, acc, t, h => by
    rcases bst_in r (bstS st acc s) h with h1 | ⟨x, hx, h1⟩
    · unfold bstS at h1
      split at h1
      · exact Or.inr ⟨s, by simp, h1⟩
      · exact Or.inl h1
    · exact Or.inr ⟨x, List.mem_cons_of_mem _ hx, h1⟩
theorem bst_sz {st : Fs} (h : OkF st) {l : List Int} {t : Tm} (e : bstF st l = some t) : sizeL [t] ≤ 2000 := by
  rcases bst_in l none e with h1 | ⟨s, _, h1⟩
  · cases h1
  · exact (h s t h1).sz
theorem lastO_st {A : Au} {n : Nat} (hn : A.st = (n : Int)) : ∀ s ∈ lastO A, 0 ≤ s ∧ s < (n : Int) := by
  intro s hs
  unfold lastO at hs
  obtain ⟨x, hx, rfl⟩ := List.mem_map.1 hs
  have := (List.mem_filter.1 hx).1
  rw [hn, Int.toNat_natCast] at this
  have := List.mem_range.1 this
  omega

set_option maxHeartbeats 4000000 in
theorem some_any (A : Au) (va : Value) (w : World) (X : Nat → Prop) (hva : AV w X va A) :
    Calls Try.prog 13 #[va] w fun e w' => SmP A w e w' := by
  obtain ⟨n, hst⟩ : ∃ n : Int, n = A.st := ⟨_, rfl⟩
  obtain ⟨am, cm, al, cl, rfl, hm, hla⟩ := hva
  have AVW : Hid (∀ w', Below w.heap.size w w' → AV w' X (.agg #[.int .i64 A.st, .slice am A.mv.length cm, .slice al A.la.length cl]) A) := fun w' hb => ⟨am, cm, al, cl, rfl, hm.later hb, hla.later hb⟩
  rw [← hst] at AVW ⊢
  have HST := hide hst
  clear hm hla hst
  have B2 : Hid (Below w.heap.size w ((w.alloc (.cells #[.int .i64 n, .slice am A.mv.length cm, .slice al A.la.length cl] 25)).alloc (.cells #[.string ⟨#[]⟩, .slice none 0 0] 28))) := ((Below.refl _ _).alloc (Nat.le_refl _) _).alloc (by simp) _
  have KA : Hid (Blk ((w.alloc (.cells #[.int .i64 n, .slice am A.mv.length cm, .slice al A.la.length cl] 25)).alloc (.cells #[.string ⟨#[]⟩, .slice none 0 0] 28)) w.heap.size #[.int .i64 n, .slice am A.mv.length cm, .slice al A.la.length cl] 25) := (Blk.new _ _ _).alloc _
  have KR : Hid (Blk ((w.alloc (.cells #[.int .i64 n, .slice am A.mv.length cm, .slice al A.la.length cl] 25)).alloc (.cells #[.string ⟨#[]⟩, .slice none 0 0] 28)) (w.heap.size + 1) #[.string ⟨#[]⟩, .slice none 0 0] 28) := by
    have h := Blk.new (w.alloc (.cells #[.int .i64 n, .slice am A.mv.length cm, .slice al A.la.length cl] 25)) #[.string ⟨#[]⟩, .slice none 0 0] 28
    rw [World.size_alloc] at h
    exact h
  have c0 := KA.out.cell 0
  have c1 := KA.out.cell 1
  have c2 := KA.out.cell 2
  go_enter Try.func13, Try.ntmps13
  go_wp2_with fail
  generalize ((w.alloc (.cells #[.int .i64 n, .slice am A.mv.length cm, .slice al A.la.length cl] 25)).alloc (.cells #[.string ⟨#[]⟩, .slice none 0 0] 28)) = w2 at *
  refine (aCheck_any A _ _ _ (AVW.out _ B2.out)).mono ?_
  rintro e w3 ⟨rfl, hb3⟩
  have B3 := hide (B2.out.trans (hb3.mono B2.out.size))
  have KA3 := hide (KA.out.below hb3 KA.out.lt)
  have KR3 := hide (KR.out.below hb3 KR.out.lt)
  clear hb3 c0 c1 c2 KA KR B2
  by_cases h0 : auE 8 40 A = 0
  · have hz0 : (auE 8 40 A != 0) = false := by simp [h0]
    have H0 := hide h0
    have OK := auE_zero.1 h0
    obtain ⟨m, hm⟩ : ∃ m : Nat, A.st = (m : Int) := ⟨A.st.toNat, by have := OK.pos; omega⟩
    have HMN := hide hm
    have HOK := hide OK
    have hm8 : m ≤ 8 := by have := OK.st; omega
    clear h0 OK hm
    have c0 := KA3.out.cell 0
    have c1 := KA3.out.cell 1
    have c2 := KA3.out.cell 2
    go_wp2_with fail
    refine (firstsOf_any A HOK.out m HMN.out _ _ _ (AVW.out _ B3.out)).mono ?_
    rintro e w4 ⟨G, st, rfl, hfin, hfs, hokf, hln, hG, hb4⟩
    have B4 := hide (B3.out.trans (hb4.mono B3.out.size))
    have KA4 := hide ((KA3.out.below hb4 KA3.out.lt).alloc (.cells #[.string ⟨#[]⟩, .slice none 0 0, .int .i64 0, .string ⟨#[]⟩] 73))
    have KR4 := hide ((KR3.out.below hb4 KR3.out.lt).alloc (.cells #[.string ⟨#[]⟩, .slice none 0 0, .int .i64 0, .string ⟨#[]⟩] 73))
    have KC4 : Hid (Blk (w4.alloc (.cells #[.string ⟨#[]⟩, .slice none 0 0, .int .i64 0, .string ⟨#[]⟩] 73)) w4.heap.size #[.string ⟨#[]⟩, .slice none 0 0, .int .i64 0, .string ⟨#[]⟩] 73) := Blk.new _ _ _
    have O4 := hide (one1 w4 (.cells #[.string ⟨#[]⟩, .slice none 0 0, .int .i64 0, .string ⟨#[]⟩] 73))
    have FIN := hide hfin
    have FS := hide hfs
    have OKF := hide hokf
    have LN := hide hln
    have KRw : Hid (w.heap.size + 1 < w4.heap.size) := (KR3.out.below hb4 KR3.out.lt).lt
    clear hfin hfs hokf hln hb4 hG c0 c1 c2 KA3 KR3 B3
    go_upto_region 6 with fail
    generalize (w4.alloc (.cells #[.string ⟨#[]⟩, .slice none 0 0, .int .i64 0, .string ⟨#[]⟩] 73)) = w5 at *
    have c0 := KA4.out.cell 0
    have c1 := KA4.out.cell 1
    have c2 := KA4.out.cell 2
    obtain ⟨C, hC⟩ : ∃ C, C = w4.heap.size := ⟨_, rfl⟩
    rw [← hC] at KC4 ⊢
    have HC := hide hC
    have HC5 : Hid (C < w5.heap.size) := KC4.out.lt
    clear hC
    go_wp2_with fail
    refine (lastOnce_any A (by decide) HOK.out _ _ _ (AVW.out _ (B4.out.trans (O4.out.mono B4.out.size)))).mono ?_
    rintro e w6 ⟨ao, co, rfl, hpv, hb6⟩
    have B6 := hide (O4.out.trans (hb6.mono O4.out.size))
    have KC6 := hide (KC4.out.below hb6 KC4.out.lt)
    have KR6 := hide (KR4.out.below hb6 KR4.out.lt)
    have PVL := hide hpv
    have hll := hpv.len.1
    have HLS := hide (lastO_st HMN.out)
    obtain ⟨lo, hlo⟩ : ∃ lo, lo = lastO A := ⟨_, rfl⟩
    rw [← hlo] at PVL HLS hll ⊢
    have HLO := hide hlo
    clear hpv hb6 hlo c0 c1 c2
    go_wp2_with fail
    go_loopw [21] (fun i wr => SoI w4 w6 C st lo i wr) (fun i wr => lo.length - (intOf i).toNat)
    case atStart => exact ⟨⟨0, ⟨#[]⟩, none, 0, 0, 0, ⟨#[]⟩, Nat.zero_le _, rfl, KC6.out, ⟨rfl, rfl, rfl, rfl, rfl, rfl⟩⟩, ExQ.refl _ _⟩
    case round =>
      obtain ⟨⟨k, s1, a1, n1, c1, z1, u1, hk, rfl, hblk, his⟩, hex⟩ := hrel
      have BLK := hide hblk
      have IS := hide his
      have EX := hide hex
      have BL4 : Hid (Below w4.heap.size w4 wr) := by
        refine ⟨hex.os.trans B6.out.os, hex.tape.trans B6.out.tape, hex.output.trans B6.out.output, Nat.le_trans B6.out.size hex.size, fun b hb => ?_⟩
        rw [hex.block b (by have := B6.out.size; omega) (fun e => by have := HC.out; omega), B6.out.block b hb]
      clear hblk his hex
      by_cases hlt : k < lo.length
      · have hki : (k : Int) < (lo.length : Int) := by omega
        have PVR := hide (pv_keptB PVL.out (w' := wr) fun b hy hl => EX.out.block b hl (fun e => by have := HC5.out; omega))
        obtain ⟨b, o, rfl, hb, hc⟩ := PVR.out.at (Below.refl wr.heap.size wr) k hlt
        obtain ⟨s, hs⟩ : ∃ s : Nat, lo[k] = (s : Int) := ⟨lo[k].toNat, by have := HLS.out lo[k] (List.getElem_mem hlt); omega⟩
        have hsm : s < m := by have := HLS.out lo[k] (List.getElem_mem hlt); omega
        have hsi : (s : Int) < (m : Int) := by omega
        have hsl : s < st.length := by rw [LN.out]; exact hsm
        have HAT : Hid (atF st lo[k] = st[s]) := by unfold Hid atF; rw [hs, Int.toNat_natCast, List.getElem?_eq_getElem hsl]; rfl
        have HTK := hide (bstF_take (st := st) hlt)
        obtain ⟨s2, a2, n2, c2, z2, u2, ⟨g0, g1, g2, g3⟩, _, gis⟩ := FS.out.get s hsl
        have GIS : Hid (∀ w', Below w4.heap.size w4 w' → FdIs w' (fun b => b < w4.heap.size) st[s] s2 a2 n2 c2 z2 u2) := fun w' hb' => gis.imp fun a l h => (h.mono (Y := fun b => b < w4.heap.size) fun b _ h2 => h2).later hb'
        have y0 := cell_below3 BL4.out g0
        have y1 := cell_below3 BL4.out g1
        have y2 := cell_below3 BL4.out g2
        have y3 := cell_below3 BL4.out g3
        rw [hs] at hc
        have D7 : Hid (Blk (wr.alloc (.cells #[.string s2, .slice a2 n2 c2, .int .i64 z2, .string u2] 73)) wr.heap.size #[.string s2, .slice a2 n2 c2, .int .i64 z2, .string u2] 73) := Blk.new _ _ _
        have C7 := hide (BLK.out.alloc (.cells #[.string s2, .slice a2 n2 c2, .int .i64 z2, .string u2] 73))
        have E7 := hide (EX.out.alloc (.cells #[.string s2, .slice a2 n2 c2, .int .i64 z2, .string u2] 73))
        have L7 := hide (BL4.out.trans ((one1 wr (.cells #[.string s2, .slice a2 n2 c2, .int .i64 z2, .string u2] 73)).mono BL4.out.size))
        have I7 := hide (IS.out.imp (w' := wr.alloc (.cells #[.string s2, .slice a2 n2 c2, .int .i64 z2, .string u2] 73)) (Z := fun b => b < w4.heap.size) fun a l h => h.later (one1 wr (.cells #[.string s2, .slice a2 n2 c2, .int .i64 z2, .string u2] 73)))
        clear g0 g1 g2 g3 gis hs BLK EX BL4 IS
        go_upto_region 10 with fail
        generalize (wr.alloc (.cells #[.string s2, .slice a2 n2 c2, .int .i64 z2, .string u2] 73)) = w7 at *
        generalize wr.heap.size = D at *
        clear y0 y1 y2 y3 hc
        have p0 := D7.out.cell 0
        have p1 := D7.out.cell 1
        have p2 := D7.out.cell 2
        have p3 := D7.out.cell 3
        have q0 := C7.out.cell 0
        have q1 := C7.out.cell 1
        have q2 := C7.out.cell 2
        have q3 := C7.out.cell 3
        go_wp2_with fail
        refine (isAhead_any st[s] (bstF st (lo.take k)) s2 s1 a2 a1 n2 n1 c2 c1 z2 z1 u2 u1 _ _ _ (GIS.out _ L7.out) I7.out).mono ?_
        rintro e w8 ⟨rfl, hb8⟩
        have D8 := hide (D7.out.below hb8 D7.out.lt)
        have C8 := hide (C7.out.below hb8 C7.out.lt)
        have E8 := hide (E7.out.trans (ExQ.ofBelow hb8))
        have L8 := hide (L7.out.trans (hb8.mono L7.out.size))
        have I8 := hide (I7.out.imp (w' := w8) (Z := fun b => b < w4.heap.size) fun a l h => h.later hb8)
        clear hb8 p0 p1 p2 p3 q0 q1 q2 q3 D7 C7 E7 L7 I7
        cases hah : ahO st[s] (bstF st (lo.take k)) with
        | true =>
          have HB : Hid (bstF st (lo.take (k + 1)) = st[s]) := by unfold Hid; rw [HTK.out, bstS, HAT.out, if_pos hah]
          clear hah
          have p0 := D8.out.cell 0
          have p1 := D8.out.cell 1
          have p2 := D8.out.cell 2
          have p3 := D8.out.cell 3
          have q0 := C8.out.cell 0
          have q1 := C8.out.cell 1
          have q2 := C8.out.cell 2
          have q3 := C8.out.cell 3
          have qf := C8.out.frozen
          have ql := C8.out.lt
          have KP : Hid (∀ b, b ≠ C → (((((w8.setCell ⟨C, 0, none⟩ (.string s2)).setCell ⟨C, 1, none⟩ (.slice a2 n2 c2)).setCell ⟨C, 2, none⟩ (.int .i64 z2)).setCell ⟨C, 3, none⟩ (.string u2))).heap[b]? = w8.heap[b]?) := fun b hb => by rw [Below.heap_setCell _ _ _ _ (by simpa using hb), Below.heap_setCell _ _ _ _ (by simpa using hb), Below.heap_setCell _ _ _ _ (by simpa using hb), Below.heap_setCell _ _ _ _ (by simpa using hb)]
          go_wp2_with fail
          go_roundw
          case rel => exact ⟨⟨k + 1, s2, a2, n2, c2, z2, u2, by omega, by go_num, (((C8.out.set 0 _).set 1 _).set 2 _).set 3 _, by rw [HB.out]; exact (GIS.out _ L8.out).imp fun a l h => h.kept fun b hb => KP.out b (by have := HC.out; omega)⟩, (((E8.out.set (B := C) rfl 0 _).set (B := C) rfl 1 _).set (B := C) rfl 2 _).set (B := C) rfl 3 _⟩
          case measure => simp [intOf]; omega
        | false =>
          have HB : Hid (bstF st (lo.take (k + 1)) = bstF st (lo.take k)) := by unfold Hid; rw [HTK.out, bstS, HAT.out, if_neg (by rw [hah]; decide)]
          clear hah
          go_wp2_with fail
          go_roundw
          case rel => exact ⟨⟨k + 1, s1, a1, n1, c1, z1, u1, by omega, by go_num, C8.out, by rw [HB.out]; exact I8.out⟩, E8.out⟩
          case measure => simp [intOf]; omega
      · have hki : ¬ (k : Int) < (lo.length : Int) := by omega
        have htk : lo.take k = lo := List.take_of_length_le (by omega)
        rw [htk, HLO.out] at IS
        have BW := hide (B4.out.trans (BL4.out.mono B4.out.size))
        have KRr := hide (KR6.out.exq EX.out (fun e => by have := HC.out; have := KRw.out; omega))
        have q0 := BLK.out.cell 0
        have q1 := BLK.out.cell 1
        have q2 := BLK.out.cell 2
        have r0 := KRr.out.cell 0
        have r1 := KRr.out.cell 1
        have rf := KRr.out.frozen
        have rl := KRr.out.lt
        cases hbs : bstF st (lastO A) with
        | none =>
          rw [hbs] at IS
          obtain ⟨-, -, -, -, rfl, -⟩ := IS.out
          have HBS := hide hbs
          clear hbs
          go_wp2_with fail
          refine bodyPost_ret (v := .tuple #[.agg #[.string ⟨#[]⟩, .slice none 0 0], .int .i64 7]) (by simp [results, Try.results13, go_sem, World.cell?_setCell_same, World.cell?_setCell_other, r0, r1, rl]) rfl ?_
          exact ⟨(BW.out.setCell (p := ⟨w.heap.size + 1, 0, none⟩) (by simp) _).setCell (p := ⟨w.heap.size + 1, 1, none⟩) (by simp) _, Or.inr ⟨H0.out, m, st, HMN.out, FIN.out, OKF.out, LN.out, Or.inl ⟨HBS.out, rfl⟩⟩⟩
        | some t =>
          rw [hbs] at IS
          obtain ⟨rfl, rfl, rfl, rfl, hsl⟩ := IS.out
          have hz0 : ((sizeL [t] : Int) == 0) = false := by have := size_posF t; simpa using (by omega : ¬ (sizeL [t] : Int) = 0)
          have HBS := hide hbs
          have HSL := hide hsl
          have HZT : Hid (sizeL [t] ≤ 2000) := bst_sz OKF.out hbs
          clear hbs hsl
          go_wp2_with fail
          refine (copyOf_any t _ _ _ ⟨_, _, rfl, HSL.out⟩ (by have := HZT.out; omega)).mono ?_
          rintro e w9 ⟨v9, rfl, ⟨a9, c9, rfl, hs9⟩, hb9⟩
          have BW9 := hide (BW.out.trans (hb9.mono BW.out.size))
          have KR9 := hide (KRr.out.below hb9 KRr.out.lt)
          have S9 := hide hs9
          have KRl : Hid (w.heap.size + 1 < wr.heap.size) := KRr.out.lt
          clear hs9 hb9 q0 q1 q2 r0 r1 rf rl
          have r0 := KR9.out.cell 0
          have r1 := KR9.out.cell 1
          have rf := KR9.out.frozen
          have rl := KR9.out.lt
          go_wp2_with fail
          refine bodyPost_ret (v := .tuple #[.agg #[.string t.name, .slice a9 t.args.length c9], .int .i64 0]) (by simp [results, Try.results13, go_sem, World.cell?_setCell_same, World.cell?_setCell_other, r0, r1, rl]) rfl ?_
          exact ⟨(BW9.out.setCell (p := ⟨w.heap.size + 1, 0, none⟩) (by simp) _).setCell (p := ⟨w.heap.size + 1, 1, none⟩) (by simp) _, Or.inr ⟨H0.out, m, st, HMN.out, FIN.out, OKF.out, LN.out, Or.inr ⟨t, a9, c9, HBS.out, rfl, (S9.out.kept fun b hb => by have hne : b ≠ w.heap.size + 1 := (by have := KRl.out; omega); rw [Below.heap_setCell _ _ _ _ (by simpa using hne), Below.heap_setCell _ _ _ _ (by simpa using hne)]).mono fun _ _ _ => trivial⟩⟩⟩
  · have hz0 : (auE 8 40 A != 0) = true := by simp [h0]
    have H0 := hide h0
    clear h0
    have r0 := KR3.out.cell 0
    have r1 := KR3.out.cell 1
    have rf := KR3.out.frozen
    have rl := KR3.out.lt
    go_wp2_with fail
    refine bodyPost_ret (v := .tuple #[.agg #[.string ⟨#[]⟩, .slice none 0 0], .int .i64 (auE 8 40 A)]) (by simp [results, Try.results13, go_sem, World.cell?_setCell_same, World.cell?_setCell_other, r0, r1, rl]) rfl ?_
    exact ⟨(B3.out.setCell (p := ⟨w.heap.size + 1, 0, none⟩) (by simp) _).setCell (p := ⟨w.heap.size + 1, 1, none⟩) (by simp) _, Or.inl ⟨H0.out, rfl⟩⟩
end Go.Proofs.Ytdencaekailmcaa
