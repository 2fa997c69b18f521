import Derived.Test.YtofebfjkodceeaaSq
import Derived.Test.YtofebfjkodceeaaZLAutoMadeOwn
namespace Go.Proofs.Ytofebfjkodceeaa
open Go.RowKit
set_option linter.unusedSimpArgs false
set_option linter.unusedVariables false
set_option maxRecDepth 8000
theorem mapAt_later {w w' : World} {r : Nat} {L : List (ByteArray × Value)} (h : MapAt w r L) (hb : Below w.heap.size w w') : MapAt w' r L := by
 obtain ⟨es, clk, h1, h2⟩ := h
 exact ⟨es, clk, by rw [hb.block r (Array.getElem?_eq_some_iff.1 h1).1]; exact h1, h2⟩
theorem ix_inj {ks : List ByteArray} (hn : ks.Nodup) {a b : Nat} (ha : a < ks.length) (hb : b < ks.length) (e : ks[a] = ks[b]) : a = b := by
 have h1 := ixL_get ks hn a ha
 have h2 := ixL_get ks hn b hb
 rw [e, h2] at h1
 simp at h1
 omega
def keyA (A : Au) (t : Tm) : ByteArray := tldB (endT A t)
def LsK (w : World) (lb lo : Nat) (l : List Tm) : Prop := ∀ (q : Nat) (hq : q < l.length), ∃ ax cx, ∀ w', Below w.heap.size w w' → w'.cell? ⟨lb, lo + q * 2, none⟩ = some (.string l[q].name) ∧ w'.cell? ⟨lb, lo + q * 2 + 1, none⟩ = some (.slice ax l[q].args.length cx) ∧ Sl w' (fun b => b < w.heap.size) ax l[q].args
theorem lsK_of {w : World} {la : Option Addr} {l : List Tm} (h : Sl w (fun _ => True) la l) (hl : 0 < l.length) : ∃ lb lo, la = some ⟨lb, lo, none⟩ ∧ LsK w lb lo l := by
 obtain ⟨lb, lo, _, _, e, _⟩ := h.get (Below.refl w.heap.size w) (fun _ _ h => h) 0 hl
 refine ⟨lb, lo, e, fun q hq => ?_⟩
 obtain ⟨b, o, a', c', e', d0, d1, a9, c9, e9, h9⟩ := h.get (Below.refl w.heap.size w) (fun _ _ h => h) q hq
 rw [e] at e'
 cases e'
 cases e9
 refine ⟨a', c', fun w' hb => ⟨(hb.cell (p := ⟨lb, lo + q * 2, none⟩) (cell_ltA d0)).trans d0, (hb.cell (p := ⟨lb, lo + q * 2 + 1, none⟩) (cell_ltA d1)).trans d1, ?_⟩⟩
 exact (h9.mono (Y := fun b => b < w.heap.size) fun b _ h => h).later hb
def NoJ (A : Au) (l : List Tm) (U : Nat → Nat → Bool) (i k j : Nat) : Prop := ∀ (j' : Nat) (h : j' < A.mv.length), j' < j → ∀ side o, side < A.mv[j'].frm.length → ¬ PtB A l U A.mv[j'] side o i k
def NoS (A : Au) (l : List Tm) (U : Nat → Nat → Bool) (i k : Nat) (m : Mv) (s : Nat) : Prop := ∀ s', s' < s → ∀ o, ¬ PtB A l U m s' o i k
def NoO (A : Au) (l : List Tm) (U : Nat → Nat → Bool) (i k : Nat) (m : Mv) (s q : Nat) : Prop := ∀ o, o < q → ¬ PtB A l U m s o i k
theorem noJ_end {A : Au} {l : List Tm} {U : Nat → Nat → Bool} {i k : Nat} (h : NoJ A l U i k A.mv.length) : ¬ PtP A l U i k := fun ⟨m, hm, side, o, hs, hp⟩ => by
 obtain ⟨j, hj, rfl⟩ := List.mem_iff_getElem.1 hm
 exact h j hj hj side o hs hp
theorem noS_end {A : Au} {l : List Tm} {U : Nat → Nat → Bool} {i k j : Nat} (hj : j < A.mv.length) (h0 : NoJ A l U i k j) (h : NoS A l U i k A.mv[j] A.mv[j].frm.length) : NoJ A l U i k (j + 1) := fun j' h1 h2 side o hs hp => by
 by_cases e : j' = j
 ·subst e; exact h side hs o hp
 ·exact h0 j' h1 (by omega) side o hs hp
theorem noO_end {A : Au} {l : List Tm} {U : Nat → Nat → Bool} {i k s : Nat} {m : Mv} (h0 : NoS A l U i k m s) (h : NoO A l U i k m s l.length) : NoS A l U i k m (s + 1) := fun s' h1 o hp => by
 by_cases e : s' = s
 ·subst e
  have hp2 := hp
  obtain ⟨_, _, _, _, ho, _⟩ := hp2
  exact h o ho hp
 ·exact h0 s' (by omega) o hp
def PxI (w4 : World) (N : Nat) (Z : Nat → Prop) (T1 T2 kk s : Nat) (nm : ByteArray) (xi xk xo : Tm) (q : Value) (wr : World) : Prop := ∃ (p : Nat) (f1 f2 : Value), q = .int .i64 (p : Int) ∧ p ≤ kk ∧ XyI w4 N Z T1 T2 nm f1 f2 ((pAr kk s xi xo).take p) ((pAr kk s xk xo).take p) wr
theorem pAr_get {n s p : Nat} (h : p < n) (x o : Tm) : (pAr n s x o).take (p + 1) = (pAr n s x o).take p ++ [if p = s then x else o] := by
 rw [List.take_succ_eq_append_getElem (by rw [pAr_len]; exact h)]
 congr 2
 unfold pAr
 rw [List.getElem_set, List.getElem_replicate]
 by_cases e : p = s
 ·rw [if_pos e.symm, if_pos e]
 ·rw [if_neg fun h => e h.symm, if_neg e]
def PaP (A : Au) (l : List Tm) (U : Nat → Nat → Bool) (i k : Nat) (w : World) (e : Ending) (w' : World) : Prop := ∃ b : Bool, e = .returned (.bool b) ∧ (b = true → PtP A l U i k) ∧ (b = false → ¬ PtP A l U i k) ∧ Below w.heap.size w w'
set_option maxHeartbeats 20000000 in
theorem parted_any (A : Au) (hA : OkAu 8 40 A) (sA : smB A = true) (l : List Tm) (hl : l.length ≤ 64) (hw : ∀ t ∈ l, Wid t) (hnd : (l.map (keyA A)).Nodup) (hcl : ∀ m ∈ A.mv, ∀ k : List Tm, k.length = m.frm.length → (∀ x ∈ k, x ∈ l) → ∃ t ∈ l, endT A t = endT A ⟨m.name, k⟩)
  (U : Nat → Nat → Bool) (i k : Nat) (hi : i < l.length) (hk : k < l.length) (va : Value) (la : Option Addr) (lc r M : Nat) (R : Nat → Nat) (w : World) (X : Nat → Prop) (hva : AV w X va A) (hsl : Sl w (fun _ => True) la l) (hmp : MapAt w r (ixL (l.map (keyA A)))) (hmt : MatU w M l.length R U) :
  Calls Try.prog 55 #[va, .slice la l.length lc, .map (some r), .slice (some ⟨M, 0, none⟩) l.length l.length, .int .i64 (i : Int), .int .i64 (k : Int)] w fun e w' => PaP A l U i k w e w' := by
 obtain ⟨am, an, al, ao, rfl, ham, hal⟩ := hva
 unfold smB at sA
 rw [Bool.and_eq_true, decide_eq_true_eq] at sA
 obtain ⟨lb, lo, rfl, hLK⟩ := lsK_of hsl (by omega)
 have HLK := hide hLK
 obtain ⟨n, hn⟩ : ∃ n, n = l.length := ⟨_, rfl⟩
 have HN := hide hn
 have hn64 : n ≤ 64 := by omega
 have hin : i < n := by omega
 have hkn : k < n := by omega
 have KA : Hid (Blk (w.alloc (.cells #[.int .i64 A.st, .slice am A.mv.length an, .slice al A.la.length ao] 25)) w.heap.size #[.int .i64 A.st, .slice am A.mv.length an, .slice al A.la.length ao] 25) := Blk.new _ _ _
 have B2 := hide (one1 w (.cells #[.int .i64 A.st, .slice am A.mv.length an, .slice al A.la.length ao] 25))
 have AVW : Hid (∀ w', Below w.heap.size w w' → AV w' (fun _ => True) (.agg #[.int .i64 A.st, .slice am A.mv.length an, .slice al A.la.length ao]) A) := fun w' hb => ⟨am, an, al, ao, rfl, slV_monoG (ham.later hb), (hal.later hb).mono fun _ _ _ => trivial⟩
 have HAM := hide ham
 have OA := hide hA
 have HFW : Hid (∀ m ∈ A.mv, m.frm.length ≤ 2) := fun m hm => by have := List.all_eq_true.1 sA.2 m hm; simpa using this
 have HS3 := hide sA.1
 have HWD := hide hw
 have HND := hide hnd
 have HCL := hide hcl
 have HMP : Hid (∀ w', Below w.heap.size w w' → MapAt w' r (ixL (l.map (keyA A)))) := fun w' hb => mapAt_later hmp hb
 have HMT : Hid (∀ w', Below w.heap.size w w' → MatU w' M l.length R U) := fun w' hb => hmt.later hb
 obtain ⟨xi, hxi⟩ : ∃ x, x = l[i] := ⟨_, rfl⟩
 obtain ⟨xk, hxk⟩ : ∃ x, x = l[k] := ⟨_, rfl⟩
 have HXI := hide hxi
 have HXK := hide hxk
 have HXI2 : Hid (xi ∈ l) := by unfold Hid; rw [hxi]; exact List.getElem_mem hi
 have HXK2 : Hid (xk ∈ l) := by unfold Hid; rw [hxk]; exact List.getElem_mem hk
 obtain ⟨axi, cxi, hLi⟩ := hLK i hi
 obtain ⟨axk, cxk, hLk⟩ := hLK k hk
 rw [← hxi] at hLi
 rw [← hxk] at hLk
 have HLI := hide hLi
 have HLKK := hide hLk
 have hl1 := hA.len
 have hm1 := ham.1
 rw [← hn]
 clear ham hal sA hsl hw hnd hcl hmp hmt hxi hxk hLi hLk hLK hA hn
 go_enter Try.func55, Try.ntmps55
 go_upto_region 1 with fail
 generalize w.alloc (.cells #[.int .i64 A.st, .slice am A.mv.length an, .slice al A.la.length ao] 25) = w2 at *
 go_wp2_with fail
 go_loopw [13] (fun q wr => ∃ j : Nat, j ≤ A.mv.length ∧ q = .int .i64 (j : Int) ∧ NoJ A l U i k j ∧ Below w2.heap.size w2 wr) (fun q wr => A.mv.length - (intOf q).toNat)
 case atStart => exact ⟨0, Nat.zero_le _, rfl, (fun j' h1 h2 => absurd h2 (by omega)), Below.refl _ _⟩
 case round =>
  obtain ⟨j, hj, rfl, hno, hbr⟩ := hrel
  obtain ⟨w3, hw3⟩ : ∃ w3, w3 = wr := ⟨_, rfl⟩
  rw [← hw3] at hbr ⊢
  clear hw3
  have HNO := hide hno
  have HB3 := hide hbr
  have UPA : Hid (∀ w', Below w2.heap.size w2 w' → Below w.heap.size w w') := fun w' hb => B2.out.trans (hb.mono B2.out.size)
  have KAA : Hid (∀ w', Below w2.heap.size w2 w' → w'.cell? ⟨w.heap.size, 0, none⟩ = some (.int .i64 A.st) ∧ w'.cell? ⟨w.heap.size, 1, none⟩ = some (.slice am A.mv.length an) ∧ w'.cell? ⟨w.heap.size, 2, none⟩ = some (.slice al A.la.length ao)) := fun w' hb => by
   have h1 := KA.out.below hb KA.out.lt
   exact ⟨h1.cell 0, h1.cell 1, h1.cell 2⟩
  obtain ⟨-, c1, -⟩ := KAA.out w3 HB3.out
  clear hno hbr
  by_cases hlt : j < A.mv.length
  ·have hji : (j : Int) < (A.mv.length : Int) := by omega
   obtain ⟨mb, mo, af, cf, hae, hbl, d0, d1, d2, hpf⟩ := HAM.out.get (UPA.out w3 HB3.out) j hlt
   subst hae
   obtain ⟨m, hm⟩ : ∃ m, m = A.mv[j] := ⟨_, rfl⟩
   have HMI : Hid (m ∈ A.mv) := by unfold Hid; rw [hm]; exact List.getElem_mem hlt
   have hk2 := HFW.out m HMI.out
   obtain ⟨kk, hkk⟩ : ∃ kk, kk = m.frm.length := ⟨_, rfl⟩
   have HKK := hide hkk
   have HSE : Hid (NoS A l U i k m kk → NoJ A l U i k (j + 1)) := fun h => noS_end hlt HNO.out (by rw [← hm, ← hkk]; exact h)
   have HMP0 : Hid (∀ w', Below w.heap.size w w' → w'.cell? ⟨mb, mo + j * 3, none⟩ = some (.string m.name)) := fun w' hb => by
    obtain ⟨b9, o9, a9, c9, e9, _, q0, _⟩ := HAM.out.get hb j hlt
    cases e9
    rw [hm]
    exact q0
   rw [← hm] at d1
   have hpl := hpf.len.1
   have hplk : kk ≤ 9223372036854775807 := by omega
   rw [← hkk] at d1 hk2
   clear hm hpf hpl hkk d2 d0
   go_upto_region 5 with fail
   clear d1 c1
   by_cases hz : kk = 0
   ·have hk0 : (kk : Int) = 0 := by omega
    have hk0b : ((kk : Int) == 0) = true := by simpa using hk0
    have HNJ : Hid (NoJ A l U i k (j + 1)) := HSE.out fun s' h => absurd h (by omega)
    clear hz
    go_wp2_with fail
    go_roundw
    case rel => exact ⟨j + 1, by omega, by go_num, HNJ.out, HB3.out⟩
    case measure => simp [intOf]; omega
   ·have hk0 : ¬ (kk : Int) = 0 := by omega
    have hk0b : ((kk : Int) == 0) = false := by simpa using hk0
    have hk2i : ¬ (2 : Int) < (kk : Int) := by omega
    go_wp2_with fail
    go_loopw [15] (fun q wr => ∃ s : Nat, s ≤ kk ∧ q = .int .i64 (s : Int) ∧ NoS A l U i k m s ∧ Below w2.heap.size w2 wr) (fun q wr => kk - (intOf q).toNat)
    case atStart => exact ⟨0, Nat.zero_le _, rfl, (fun s' h1 => absurd h1 (by omega)), HB3.out⟩
    case round =>
     obtain ⟨s, hs, rfl, hnos, hbs⟩ := hrel
     obtain ⟨w4s, hw4⟩ : ∃ x, x = wr := ⟨_, rfl⟩
     rw [← hw4] at hbs ⊢
     clear hw4
     have HNOS := hide hnos
     have HB4 := hide hbs
     clear hnos hbs
     by_cases hls : s < kk
     ·have hsi : (s : Int) < (kk : Int) := by omega
      go_wp2_with fail
      go_loopw [16] (fun q wr => ∃ o : Nat, o ≤ n ∧ q = .int .i64 (o : Int) ∧ NoO A l U i k m s o ∧ Below w2.heap.size w2 wr) (fun q wr => n - (intOf q).toNat)
      case atStart => exact ⟨0, Nat.zero_le _, rfl, (fun s' h1 => absurd h1 (by omega)), HB4.out⟩
      case round =>
       obtain ⟨o, ho, rfl, hnoo, hbo⟩ := hrel
       obtain ⟨w4, hw4⟩ : ∃ x, x = wr := ⟨_, rfl⟩
       rw [← hw4] at hbo ⊢
       clear hw4
       have HNOO := hide hnoo
       have HBO := hide hbo
       clear hnoo hbo
       by_cases hlo : o < n
       ·have hoi : (o : Int) < (n : Int) := by omega
        have hol : o < l.length := by have := HN.out; omega
        obtain ⟨axo, cxo, hLo⟩ := HLK.out o hol
        obtain ⟨xo, hxo⟩ : ∃ x, x = l[o] := ⟨_, rfl⟩
        have HXO := hide hxo
        have HXO2 : Hid (xo ∈ l) := by unfold Hid; rw [hxo]; exact List.getElem_mem hol
        rw [← hxo] at hLo
        have HLO := hide hLo
        obtain ⟨Z, hZ⟩ : ∃ Z : Nat → Prop, Z = fun b => b < w.heap.size := ⟨_, rfl⟩
        have HZ := hide hZ
        rw [← hZ] at HLO HLI HLKK
        clear hxo hLo hZ
        obtain ⟨-, c1, -⟩ := KAA.out w4 HBO.out
        have d0 := HMP0.out w4 (UPA.out w4 HBO.out)
        have hAF := allocsX_facts [(.cells #[.string m.name, .slice none 0 0] 30 : Obj), (.cells #[.string m.name, .slice none 0 0] 30 : Obj)] w4
        have eW : allocsX w4 [(.cells #[.string m.name, .slice none 0 0] 30 : Obj), (.cells #[.string m.name, .slice none 0 0] 30 : Obj)] = (w4.alloc (.cells #[.string m.name, .slice none 0 0] 30)).alloc (.cells #[.string m.name, .slice none 0 0] 30) := rfl
        rw [eW] at hAF
        obtain ⟨hF1, hF2, hF3⟩ := hAF
        have hsz4 : ((w4.alloc (.cells #[.string m.name, .slice none 0 0] 30)).alloc (.cells #[.string m.name, .slice none 0 0] 30)).heap.size = w4.heap.size + 2 := by simp
        have HX0 : Hid (XyI w4 (w4.heap.size + 2) Z w4.heap.size (w4.heap.size + 1) m.name (.slice none 0 0) (.slice none 0 0) [] [] ((w4.alloc (.cells #[.string m.name, .slice none 0 0] 30)).alloc (.cells #[.string m.name, .slice none 0 0] 30))) :=
         ⟨⟨by omega, by omega, by omega, by omega, by omega, by rw [hsz4]; exact Nat.le_refl _⟩, fun b hb => by have h9 := HZ.out; rw [h9] at hb; have := (UPA.out w4 HBO.out).size; omega, ⟨hF3 0 _ rfl, [], RowG.start _ _ _⟩, ⟨hF3 1 _ rfl, [], RowG.start _ _ _⟩, (fun b hb => by simp [Value.ownBlock] at hb), hF1⟩
        have a0m := ((Below.refl w2.heap.size w2).trans HBO.out)
        have c1b : (w4.alloc (.cells #[.string m.name, .slice none 0 0] 30)).cell? ⟨w.heap.size, 1, none⟩ = some (.slice (some ⟨mb, mo, none⟩) A.mv.length an) := (KAA.out _ (HBO.out.trans ((one1 w4 _).mono HBO.out.size))).2.1
        have d0b : (w4.alloc (.cells #[.string m.name, .slice none 0 0] 30)).cell? ⟨mb, mo + j * 3, none⟩ = some (.string m.name) := HMP0.out _ (UPA.out _ (HBO.out.trans ((one1 w4 _).mono HBO.out.size)))
        clear hF1 hF2 hF3 eW hsz4 a0m
        go_upto_region 14 with fail
        generalize (w4.alloc (.cells #[.string m.name, .slice none 0 0] 30)).alloc (.cells #[.string m.name, .slice none 0 0] 30) = w5 at *
        obtain ⟨T1, hT1⟩ : ∃ T, T = w4.heap.size := ⟨_, rfl⟩
        obtain ⟨T2, hT2⟩ : ∃ T, T = w4.heap.size + 1 := ⟨_, rfl⟩
        obtain ⟨N, hN⟩ : ∃ N, N = w4.heap.size + 2 := ⟨_, rfl⟩
        rw [← hT2, ← hN, ← hT1] at HX0
        rw [← hT2, ← hT1]
        clear hT1 hT2 hN c1 d0 c1b d0b
        have UP4 : Hid (∀ w', Below w4.heap.size w4 w' → Below w2.heap.size w2 w') := fun w' hb => HBO.out.trans (hb.mono HBO.out.size)
        go_wp2_with fail
        go_loopw [19] (fun q wr => PxI w4 N Z T1 T2 kk s m.name xi xk xo q wr) (fun q wr => kk - (intOf q).toNat)
        case atStart => exact ⟨0, _, _, rfl, Nat.zero_le _, HX0.out⟩
        case round =>
         obtain ⟨p, f1, f2, rfl, hp, hxy⟩ := hrel
         obtain ⟨w8, hw8⟩ : ∃ x, x = wr := ⟨_, rfl⟩
         rw [← hw8] at hxy ⊢
         clear hw8
         by_cases hlp : p < kk
         ·have hpi : (p : Int) < (kk : Int) := by omega
          have hpk : p ≤ 2 := by omega
          obtain ⟨fa, fc, hf1⟩ := hxy.shape
          obtain ⟨ga, gc, hf2⟩ := hxy.swap.shape
          obtain ⟨Lx, hLx⟩ : ∃ L, L = (pAr kk s xi xo).take p := ⟨_, rfl⟩
          obtain ⟨Ly, hLy⟩ : ∃ L, L = (pAr kk s xk xo).take p := ⟨_, rfl⟩
          have hLl : Lx.length = p := by rw [hLx, List.length_take, pAr_len]; omega
          have hLyl : Ly.length = p := by rw [hLy, List.length_take, pAr_len]; omega
          rw [← hLx] at hxy hf1
          rw [← hLy] at hxy hf2
          rw [hLl] at hf1
          rw [hLyl] at hf2
          subst hf1
          subst hf2
          have HXY := hide hxy
          have UPW4 : Hid (∀ w', Below w4.heap.size w4 w' → Below w.heap.size w w') := fun w' hb => UPA.out w' (UP4.out w' hb)
          by_cases hps : p = s
          ·have HTKX : Hid ((pAr kk s xi xo).take (p + 1) = Lx ++ [xi]) := by unfold Hid; rw [pAr_get hlp, if_pos hps, hLx]
           have HTKY : Hid ((pAr kk s xk xo).take (p + 1) = Ly ++ [xk]) := by unfold Hid; rw [pAr_get hlp, if_pos hps, hLy]
           have hpsi : (p : Int) = (s : Int) := by omega
           have hpsb : ((p : Int) == (s : Int)) = true := beq_iff_eq.2 hpsi
           clear hLx hLy hxy hps
           have hd8 : Below w4.heap.size w4 w8.drew := HXY.out.bl.drew
           obtain ⟨gx, capx, w9, hr9, hT9, hb9, hN9⟩ := XyI.push (cx := cxi) (z := xi) (HXY.out.later ((Below.refl w8.heap.size w8).drew)) (HLI.out _ (UPW4.out _ hd8)).2.2 (by omega)
           rw [hLl] at hr9 hN9
           have HRUN := hide hr9
           have HT9 := hide hT9
           have HB9 := hide hb9
           have HN9 := hide hN9
           have KPO : Hid (∀ w', Below w4.heap.size w4 w' → w'.cell? ⟨lb, lo + i * 2, none⟩ = some (.string xi.name) ∧ w'.cell? ⟨lb, lo + i * 2 + 1, none⟩ = some (.slice axi xi.args.length cxi)) := fun w' hb => ⟨(HLI.out w' (UPW4.out w' hb)).1, (HLI.out w' (UPW4.out w' hb)).2.1⟩
           have hTb : Blk w8.drew T1 #[.string m.name, .slice fa p fc] 30 := (HXY.out.later ((Below.refl w8.heap.size w8).drew)).x.1
           have t1 := hTb.cell 1
           have t1a := (hTb.alloc (.cells #[.string xi.name, .slice axi xi.args.length cxi] 30)).cell 1
           have hb8a : Below w4.heap.size w4 (w8.drew.alloc (.cells #[.string xi.name, .slice axi xi.args.length cxi] 30)) := hd8.alloc hd8.size _
           have tf : w9.frozen? ⟨T1, 1, none⟩ = false := HT9.out.frozen 1
           have tc : w9.cell? ⟨T1, 1, none⟩ = some (.slice fa p fc) := HT9.out.cell 1
           have tl : T1 < w9.heap.size := HT9.out.lt
           have HBS := hide HN9.out.bl
           clear hr9 hT9 hb9 hN9 hTb
           go_upto_region 18 with fail
           refine wp_region_held_drew (S := Below w4.heap.size w4) (by kernel_rfl) hd8 (fun hHeld => ?_)
           generalize w8.drew = w8d at *
           refine tkq (v := ?_) 0 rfl ?_ ?_
           rotate_left
           ·intro w' hSw
            go_simp <;> with_reducible rfl
           try simp only [Act.put, sqA, sqB, sqC, sqD, sqE, sqF]
           refine tkq (v := ?_) 2 rfl ?_ ?_
           rotate_left
           ·intro w' hSw
            go_simp <;> with_reducible rfl
           try simp only [Act.put, sqA, sqB, sqC, sqD, sqE, sqF]
           refine tkq (v := ?_) 3 rfl ?_ ?_
           rotate_left
           ·intro w' hSw
            go_simp <;> with_reducible rfl
           try simp only [Act.put, sqA, sqB, sqC, sqD, sqE, sqF]
           refine tkq (v := ?_) 4 rfl ?_ ?_
           rotate_left
           ·intro w' hSw
            go_simp <;> with_reducible rfl
           try simp only [Act.put, sqA, sqB, sqC, sqD, sqE, sqF]
           refine tkq (v := ?_) 5 rfl ?_ ?_
           rotate_left
           ·intro w' hSw
            obtain ⟨x0, x1⟩ := KPO.out w' hSw
            go_simp <;> with_reducible rfl
           try simp only [Act.put, sqA, sqB, sqC, sqD, sqE, sqF]
           refine wpAnyH_ready (rs := [1, 6]) (by kernel_rfl) (by simp) ?_
           refine AllReadyH.cons rfl (fun K hK => ?_) (AllReadyH.cons rfl (fun K hK => ?_) AllReadyH.nil)
           ·go_simp
            refine hK.out _ _ (by exact hd8) (fun hHeld => ?_)
            clear hK K
            try simp only [Act.put, sqA, sqB, sqC, sqD, sqE, sqF]
            refine rdq 6 rfl fun K hK => ?_
            go_simp
            refine hK.out _ _ (by exact hb8a) (fun hHeld => ?_)
            clear hK K
            try simp only [Act.put, sqA, sqB, sqC, sqD, sqE, sqF]
            refine rdq 7 rfl fun K hK => ?_
            refine step_append_eqM rfl _ _ _ _ rfl rfl rfl HRUN.out ?_
            refine hK.out _ _ (by exact HB9.out) (fun hHeld => ?_)
            clear hK K
            try simp only [Act.put, sqA, sqB, sqC, sqD, sqE, sqF]
            refine tkq (v := ?_) 8 rfl ?_ ?_
            rotate_left
            ·intro w' hSw
             go_simp <;> with_reducible rfl
            try simp only [Act.put, sqA, sqB, sqC, sqD, sqE, sqF]
            refine rdq 9 rfl fun K hK => ?_
            go_simp
            refine hK.out _ _ (by exact HBS.out) (fun hHeld => ?_)
            clear hK K
            try simp only [Act.put, sqA, sqB, sqC, sqD, sqE, sqF]
            refine wpAnyH_done (by kernel_rfl) ?_ _
            clear hHeld t1 t1a tf tc tl HRUN HT9 HB9 KPO hb8a hd8 HBS HXY
            generalize w9.setCell ⟨T1, 1, none⟩ (.slice (some ⟨gx, 0, none⟩) (p + 1) capx) = w8n at *
            have HXY := hide HN9.out
            clear HN9
            obtain ⟨w8, hw8⟩ : ∃ x, x = w8n := ⟨_, rfl⟩
            rw [← hw8] at HXY ⊢
            clear hw8 w8n
            have hd8 : Below w4.heap.size w4 w8.drew := HXY.out.bl.drew
            obtain ⟨gy, capy, w9, hr9, hT9, hb9, hN9⟩ := XyI.push (cx := cxk) (z := xk) (HXY.out.swap.later ((Below.refl w8.heap.size w8).drew)) (HLKK.out _ (UPW4.out _ hd8)).2.2 (by omega)
            rw [hLyl] at hr9 hN9
            have HRUN := hide hr9
            have HT9 := hide hT9
            have HB9 := hide hb9
            have HN9 := hide hN9
            have KPO : Hid (∀ w', Below w4.heap.size w4 w' → w'.cell? ⟨lb, lo + k * 2, none⟩ = some (.string xk.name) ∧ w'.cell? ⟨lb, lo + k * 2 + 1, none⟩ = some (.slice axk xk.args.length cxk)) := fun w' hb => ⟨(HLKK.out w' (UPW4.out w' hb)).1, (HLKK.out w' (UPW4.out w' hb)).2.1⟩
            have hTb : Blk w8.drew T2 #[.string m.name, .slice ga p gc] 30 := (HXY.out.swap.later ((Below.refl w8.heap.size w8).drew)).x.1
            have t1 := hTb.cell 1
            have t1a := (hTb.alloc (.cells #[.string xk.name, .slice axk xk.args.length cxk] 30)).cell 1
            have hb8a : Below w4.heap.size w4 (w8.drew.alloc (.cells #[.string xk.name, .slice axk xk.args.length cxk] 30)) := hd8.alloc hd8.size _
            have tf : w9.frozen? ⟨T2, 1, none⟩ = false := HT9.out.frozen 1
            have tc : w9.cell? ⟨T2, 1, none⟩ = some (.slice ga p gc) := HT9.out.cell 1
            have tl : T2 < w9.heap.size := HT9.out.lt
            have HBS := hide HN9.out.bl
            clear hr9 hT9 hb9 hN9 hTb
            go_upto_region 19 with fail
            refine wp_region_held_drew (S := Below w4.heap.size w4) (by kernel_rfl) hd8 (fun hHeld => ?_)
            generalize w8.drew = w8d at *
            refine tkq (v := ?_) 0 rfl ?_ ?_
            rotate_left
            ·intro w' hSw
             go_simp <;> with_reducible rfl
            try simp only [Act.put, sqA, sqB, sqC, sqD, sqE, sqF]
            refine tkq (v := ?_) 2 rfl ?_ ?_
            rotate_left
            ·intro w' hSw
             go_simp <;> with_reducible rfl
            try simp only [Act.put, sqA, sqB, sqC, sqD, sqE, sqF]
            refine tkq (v := ?_) 3 rfl ?_ ?_
            rotate_left
            ·intro w' hSw
             go_simp <;> with_reducible rfl
            try simp only [Act.put, sqA, sqB, sqC, sqD, sqE, sqF]
            refine tkq (v := ?_) 4 rfl ?_ ?_
            rotate_left
            ·intro w' hSw
             go_simp <;> with_reducible rfl
            try simp only [Act.put, sqA, sqB, sqC, sqD, sqE, sqF]
            refine tkq (v := ?_) 5 rfl ?_ ?_
            rotate_left
            ·intro w' hSw
             obtain ⟨x0, x1⟩ := KPO.out w' hSw
             go_simp <;> with_reducible rfl
            try simp only [Act.put, sqA, sqB, sqC, sqD, sqE, sqF]
            refine wpAnyH_ready (rs := [1, 6]) (by kernel_rfl) (by simp) ?_
            refine AllReadyH.cons rfl (fun K hK => ?_) (AllReadyH.cons rfl (fun K hK => ?_) AllReadyH.nil)
            ·go_simp
             refine hK.out _ _ (by exact hd8) (fun hHeld => ?_)
             clear hK K
             try simp only [Act.put, sqA, sqB, sqC, sqD, sqE, sqF]
             refine rdq 6 rfl fun K hK => ?_
             go_simp
             refine hK.out _ _ (by exact hb8a) (fun hHeld => ?_)
             clear hK K
             try simp only [Act.put, sqA, sqB, sqC, sqD, sqE, sqF]
             refine rdq 7 rfl fun K hK => ?_
             refine step_append_eqM rfl _ _ _ _ rfl rfl rfl HRUN.out ?_
             refine hK.out _ _ (by exact HB9.out) (fun hHeld => ?_)
             clear hK K
             try simp only [Act.put, sqA, sqB, sqC, sqD, sqE, sqF]
             refine tkq (v := ?_) 8 rfl ?_ ?_
             rotate_left
             ·intro w' hSw
              go_simp <;> with_reducible rfl
             try simp only [Act.put, sqA, sqB, sqC, sqD, sqE, sqF]
             refine rdq 9 rfl fun K hK => ?_
             go_simp
             refine hK.out _ _ (by exact HBS.out) (fun hHeld => ?_)
             clear hK K
             try simp only [Act.put, sqA, sqB, sqC, sqD, sqE, sqF]
             refine wpAnyH_done (by kernel_rfl) ?_ _
             clear hHeld t1 t1a tf tc tl HRUN HT9 HB9 KPO hb8a hd8 HBS HXY
             generalize w9.setCell ⟨T2, 1, none⟩ (.slice (some ⟨gy, 0, none⟩) (p + 1) capy) = w8n at *
             have HXY := hide HN9.out.swap
             clear HN9
             obtain ⟨w8, hw8⟩ : ∃ x, x = w8n := ⟨_, rfl⟩
             rw [← hw8] at HXY ⊢
             clear hw8 w8n
             go_wp2_with fail
             go_roundw
             case rel => exact ⟨p + 1, _, _, by go_num, by omega, by rw [HTKX.out, HTKY.out]; exact HXY.out⟩
             case measure => simp [intOf]; omega
            ·go_simp
             refine hK.out _ _ (by exact hb8a) (fun hHeld => ?_)
             clear hK K
             try simp only [Act.put, sqA, sqB, sqC, sqD, sqE, sqF]
             refine rdq 1 rfl fun K hK => ?_
             go_simp
             refine hK.out _ _ (by exact hb8a) (fun hHeld => ?_)
             clear hK K
             try simp only [Act.put, sqA, sqB, sqC, sqD, sqE, sqF]
             refine rdq 7 rfl fun K hK => ?_
             refine step_append_eqM rfl _ _ _ _ rfl rfl rfl HRUN.out ?_
             refine hK.out _ _ (by exact HB9.out) (fun hHeld => ?_)
             clear hK K
             try simp only [Act.put, sqA, sqB, sqC, sqD, sqE, sqF]
             refine tkq (v := ?_) 8 rfl ?_ ?_
             rotate_left
             ·intro w' hSw
              go_simp <;> with_reducible rfl
             try simp only [Act.put, sqA, sqB, sqC, sqD, sqE, sqF]
             refine rdq 9 rfl fun K hK => ?_
             go_simp
             refine hK.out _ _ (by exact HBS.out) (fun hHeld => ?_)
             clear hK K
             try simp only [Act.put, sqA, sqB, sqC, sqD, sqE, sqF]
             refine wpAnyH_done (by kernel_rfl) ?_ _
             clear hHeld t1 t1a tf tc tl HRUN HT9 HB9 KPO hb8a hd8 HBS HXY
             generalize w9.setCell ⟨T2, 1, none⟩ (.slice (some ⟨gy, 0, none⟩) (p + 1) capy) = w8n at *
             have HXY := hide HN9.out.swap
             clear HN9
             obtain ⟨w8, hw8⟩ : ∃ x, x = w8n := ⟨_, rfl⟩
             rw [← hw8] at HXY ⊢
             clear hw8 w8n
             go_wp2_with fail
             go_roundw
             case rel => exact ⟨p + 1, _, _, by go_num, by omega, by rw [HTKX.out, HTKY.out]; exact HXY.out⟩
             case measure => simp [intOf]; omega
           ·go_simp
            refine hK.out _ _ (by exact hb8a) (fun hHeld => ?_)
            clear hK K
            try simp only [Act.put, sqA, sqB, sqC, sqD, sqE, sqF]
            refine rdq 1 rfl fun K hK => ?_
            go_simp
            refine hK.out _ _ (by exact hb8a) (fun hHeld => ?_)
            clear hK K
            try simp only [Act.put, sqA, sqB, sqC, sqD, sqE, sqF]
            refine rdq 7 rfl fun K hK => ?_
            refine step_append_eqM rfl _ _ _ _ rfl rfl rfl HRUN.out ?_
            refine hK.out _ _ (by exact HB9.out) (fun hHeld => ?_)
            clear hK K
            try simp only [Act.put, sqA, sqB, sqC, sqD, sqE, sqF]
            refine tkq (v := ?_) 8 rfl ?_ ?_
            rotate_left
            ·intro w' hSw
             go_simp <;> with_reducible rfl
            try simp only [Act.put, sqA, sqB, sqC, sqD, sqE, sqF]
            refine rdq 9 rfl fun K hK => ?_
            go_simp
            refine hK.out _ _ (by exact HBS.out) (fun hHeld => ?_)
            clear hK K
            try simp only [Act.put, sqA, sqB, sqC, sqD, sqE, sqF]
            refine wpAnyH_done (by kernel_rfl) ?_ _
            clear hHeld t1 t1a tf tc tl HRUN HT9 HB9 KPO hb8a hd8 HBS HXY
            generalize w9.setCell ⟨T1, 1, none⟩ (.slice (some ⟨gx, 0, none⟩) (p + 1) capx) = w8n at *
            have HXY := hide HN9.out
            clear HN9
            obtain ⟨w8, hw8⟩ : ∃ x, x = w8n := ⟨_, rfl⟩
            rw [← hw8] at HXY ⊢
            clear hw8 w8n
            have hd8 : Below w4.heap.size w4 w8.drew := HXY.out.bl.drew
            obtain ⟨gy, capy, w9, hr9, hT9, hb9, hN9⟩ := XyI.push (cx := cxk) (z := xk) (HXY.out.swap.later ((Below.refl w8.heap.size w8).drew)) (HLKK.out _ (UPW4.out _ hd8)).2.2 (by omega)
            rw [hLyl] at hr9 hN9
            have HRUN := hide hr9
            have HT9 := hide hT9
            have HB9 := hide hb9
            have HN9 := hide hN9
            have KPO : Hid (∀ w', Below w4.heap.size w4 w' → w'.cell? ⟨lb, lo + k * 2, none⟩ = some (.string xk.name) ∧ w'.cell? ⟨lb, lo + k * 2 + 1, none⟩ = some (.slice axk xk.args.length cxk)) := fun w' hb => ⟨(HLKK.out w' (UPW4.out w' hb)).1, (HLKK.out w' (UPW4.out w' hb)).2.1⟩
            have hTb : Blk w8.drew T2 #[.string m.name, .slice ga p gc] 30 := (HXY.out.swap.later ((Below.refl w8.heap.size w8).drew)).x.1
            have t1 := hTb.cell 1
            have t1a := (hTb.alloc (.cells #[.string xk.name, .slice axk xk.args.length cxk] 30)).cell 1
            have hb8a : Below w4.heap.size w4 (w8.drew.alloc (.cells #[.string xk.name, .slice axk xk.args.length cxk] 30)) := hd8.alloc hd8.size _
            have tf : w9.frozen? ⟨T2, 1, none⟩ = false := HT9.out.frozen 1
            have tc : w9.cell? ⟨T2, 1, none⟩ = some (.slice ga p gc) := HT9.out.cell 1
            have tl : T2 < w9.heap.size := HT9.out.lt
            have HBS := hide HN9.out.bl
            clear hr9 hT9 hb9 hN9 hTb
            go_upto_region 19 with fail
            refine wp_region_held_drew (S := Below w4.heap.size w4) (by kernel_rfl) hd8 (fun hHeld => ?_)
            generalize w8.drew = w8d at *
            refine tkq (v := ?_) 0 rfl ?_ ?_
            rotate_left
            ·intro w' hSw
             go_simp <;> with_reducible rfl
            try simp only [Act.put, sqA, sqB, sqC, sqD, sqE, sqF]
            refine tkq (v := ?_) 2 rfl ?_ ?_
            rotate_left
            ·intro w' hSw
             go_simp <;> with_reducible rfl
            try simp only [Act.put, sqA, sqB, sqC, sqD, sqE, sqF]
            refine tkq (v := ?_) 3 rfl ?_ ?_
            rotate_left
            ·intro w' hSw
             go_simp <;> with_reducible rfl
            try simp only [Act.put, sqA, sqB, sqC, sqD, sqE, sqF]
            refine tkq (v := ?_) 4 rfl ?_ ?_
            rotate_left
            ·intro w' hSw
             go_simp <;> with_reducible rfl
            try simp only [Act.put, sqA, sqB, sqC, sqD, sqE, sqF]
            refine tkq (v := ?_) 5 rfl ?_ ?_
            rotate_left
            ·intro w' hSw
             obtain ⟨x0, x1⟩ := KPO.out w' hSw
             go_simp <;> with_reducible rfl
            try simp only [Act.put, sqA, sqB, sqC, sqD, sqE, sqF]
            refine wpAnyH_ready (rs := [1, 6]) (by kernel_rfl) (by simp) ?_
            refine AllReadyH.cons rfl (fun K hK => ?_) (AllReadyH.cons rfl (fun K hK => ?_) AllReadyH.nil)
            ·go_simp
             refine hK.out _ _ (by exact hd8) (fun hHeld => ?_)
             clear hK K
             try simp only [Act.put, sqA, sqB, sqC, sqD, sqE, sqF]
             refine rdq 6 rfl fun K hK => ?_
             go_simp
             refine hK.out _ _ (by exact hb8a) (fun hHeld => ?_)
             clear hK K
             try simp only [Act.put, sqA, sqB, sqC, sqD, sqE, sqF]
             refine rdq 7 rfl fun K hK => ?_
             refine step_append_eqM rfl _ _ _ _ rfl rfl rfl HRUN.out ?_
             refine hK.out _ _ (by exact HB9.out) (fun hHeld => ?_)
             clear hK K
             try simp only [Act.put, sqA, sqB, sqC, sqD, sqE, sqF]
             refine tkq (v := ?_) 8 rfl ?_ ?_
             rotate_left
             ·intro w' hSw
              go_simp <;> with_reducible rfl
             try simp only [Act.put, sqA, sqB, sqC, sqD, sqE, sqF]
             refine rdq 9 rfl fun K hK => ?_
             go_simp
             refine hK.out _ _ (by exact HBS.out) (fun hHeld => ?_)
             clear hK K
             try simp only [Act.put, sqA, sqB, sqC, sqD, sqE, sqF]
             refine wpAnyH_done (by kernel_rfl) ?_ _
             clear hHeld t1 t1a tf tc tl HRUN HT9 HB9 KPO hb8a hd8 HBS HXY
             generalize w9.setCell ⟨T2, 1, none⟩ (.slice (some ⟨gy, 0, none⟩) (p + 1) capy) = w8n at *
             have HXY := hide HN9.out.swap
             clear HN9
             obtain ⟨w8, hw8⟩ : ∃ x, x = w8n := ⟨_, rfl⟩
             rw [← hw8] at HXY ⊢
             clear hw8 w8n
             go_wp2_with fail
             go_roundw
             case rel => exact ⟨p + 1, _, _, by go_num, by omega, by rw [HTKX.out, HTKY.out]; exact HXY.out⟩
             case measure => simp [intOf]; omega
            ·go_simp
             refine hK.out _ _ (by exact hb8a) (fun hHeld => ?_)
             clear hK K
             try simp only [Act.put, sqA, sqB, sqC, sqD, sqE, sqF]
             refine rdq 1 rfl fun K hK => ?_
             go_simp
             refine hK.out _ _ (by exact hb8a) (fun hHeld => ?_)
             clear hK K
             try simp only [Act.put, sqA, sqB, sqC, sqD, sqE, sqF]
             refine rdq 7 rfl fun K hK => ?_
             refine step_append_eqM rfl _ _ _ _ rfl rfl rfl HRUN.out ?_
             refine hK.out _ _ (by exact HB9.out) (fun hHeld => ?_)
             clear hK K
             try simp only [Act.put, sqA, sqB, sqC, sqD, sqE, sqF]
             refine tkq (v := ?_) 8 rfl ?_ ?_
             rotate_left
             ·intro w' hSw
              go_simp <;> with_reducible rfl
             try simp only [Act.put, sqA, sqB, sqC, sqD, sqE, sqF]
             refine rdq 9 rfl fun K hK => ?_
             go_simp
             refine hK.out _ _ (by exact HBS.out) (fun hHeld => ?_)
             clear hK K
             try simp only [Act.put, sqA, sqB, sqC, sqD, sqE, sqF]
             refine wpAnyH_done (by kernel_rfl) ?_ _
             clear hHeld t1 t1a tf tc tl HRUN HT9 HB9 KPO hb8a hd8 HBS HXY
             generalize w9.setCell ⟨T2, 1, none⟩ (.slice (some ⟨gy, 0, none⟩) (p + 1) capy) = w8n at *
             have HXY := hide HN9.out.swap
             clear HN9
             obtain ⟨w8, hw8⟩ : ∃ x, x = w8n := ⟨_, rfl⟩
             rw [← hw8] at HXY ⊢
             clear hw8 w8n
             go_wp2_with fail
             go_roundw
             case rel => exact ⟨p + 1, _, _, by go_num, by omega, by rw [HTKX.out, HTKY.out]; exact HXY.out⟩
             case measure => simp [intOf]; omega
          ·have HTKX : Hid ((pAr kk s xi xo).take (p + 1) = Lx ++ [xo]) := by unfold Hid; rw [pAr_get hlp, if_neg hps, hLx]
           have HTKY : Hid ((pAr kk s xk xo).take (p + 1) = Ly ++ [xo]) := by unfold Hid; rw [pAr_get hlp, if_neg hps, hLy]
           have hpsi : ¬ (p : Int) = (s : Int) := by omega
           have hpsb : ((p : Int) == (s : Int)) = false := beq_eq_false_iff_ne.2 hpsi
           clear hLx hLy hxy hps
           have hd8 : Below w4.heap.size w4 w8.drew := HXY.out.bl.drew
           obtain ⟨gx, capx, w9, hr9, hT9, hb9, hN9⟩ := XyI.push (cx := cxo) (z := xo) (HXY.out.later ((Below.refl w8.heap.size w8).drew)) (HLO.out _ (UPW4.out _ hd8)).2.2 (by omega)
           rw [hLl] at hr9 hN9
           have HRUN := hide hr9
           have HT9 := hide hT9
           have HB9 := hide hb9
           have HN9 := hide hN9
           have KPO : Hid (∀ w', Below w4.heap.size w4 w' → w'.cell? ⟨lb, lo + o * 2, none⟩ = some (.string xo.name) ∧ w'.cell? ⟨lb, lo + o * 2 + 1, none⟩ = some (.slice axo xo.args.length cxo)) := fun w' hb => ⟨(HLO.out w' (UPW4.out w' hb)).1, (HLO.out w' (UPW4.out w' hb)).2.1⟩
           have hTb : Blk w8.drew T1 #[.string m.name, .slice fa p fc] 30 := (HXY.out.later ((Below.refl w8.heap.size w8).drew)).x.1
           have t1 := hTb.cell 1
           have t1a := (hTb.alloc (.cells #[.string xo.name, .slice axo xo.args.length cxo] 30)).cell 1
           have hb8a : Below w4.heap.size w4 (w8.drew.alloc (.cells #[.string xo.name, .slice axo xo.args.length cxo] 30)) := hd8.alloc hd8.size _
           have tf : w9.frozen? ⟨T1, 1, none⟩ = false := HT9.out.frozen 1
           have tc : w9.cell? ⟨T1, 1, none⟩ = some (.slice fa p fc) := HT9.out.cell 1
           have tl : T1 < w9.heap.size := HT9.out.lt
           have HBS := hide HN9.out.bl
           clear hr9 hT9 hb9 hN9 hTb
           go_upto_region 20 with fail
           refine wp_region_held_drew (S := Below w4.heap.size w4) (by kernel_rfl) hd8 (fun hHeld => ?_)
           generalize w8.drew = w8d at *
           refine tkq (v := ?_) 0 rfl ?_ ?_
           rotate_left
           ·intro w' hSw
            go_simp <;> with_reducible rfl
           try simp only [Act.put, sqA, sqB, sqC, sqD, sqE, sqF]
           refine tkq (v := ?_) 2 rfl ?_ ?_
           rotate_left
           ·intro w' hSw
            go_simp <;> with_reducible rfl
           try simp only [Act.put, sqA, sqB, sqC, sqD, sqE, sqF]
           refine tkq (v := ?_) 3 rfl ?_ ?_
           rotate_left
           ·intro w' hSw
            go_simp <;> with_reducible rfl
           try simp only [Act.put, sqA, sqB, sqC, sqD, sqE, sqF]
           refine tkq (v := ?_) 4 rfl ?_ ?_
           rotate_left
           ·intro w' hSw
            go_simp <;> with_reducible rfl
           try simp only [Act.put, sqA, sqB, sqC, sqD, sqE, sqF]
           refine tkq (v := ?_) 5 rfl ?_ ?_
           rotate_left
           ·intro w' hSw
            obtain ⟨x0, x1⟩ := KPO.out w' hSw
            go_simp <;> with_reducible rfl
           try simp only [Act.put, sqA, sqB, sqC, sqD, sqE, sqF]
           refine wpAnyH_ready (rs := [1, 6]) (by kernel_rfl) (by simp) ?_
           refine AllReadyH.cons rfl (fun K hK => ?_) (AllReadyH.cons rfl (fun K hK => ?_) AllReadyH.nil)
           ·go_simp
            refine hK.out _ _ (by exact hd8) (fun hHeld => ?_)
            clear hK K
            try simp only [Act.put, sqA, sqB, sqC, sqD, sqE, sqF]
            refine rdq 6 rfl fun K hK => ?_
            go_simp
            refine hK.out _ _ (by exact hb8a) (fun hHeld => ?_)
            clear hK K
            try simp only [Act.put, sqA, sqB, sqC, sqD, sqE, sqF]
            refine rdq 7 rfl fun K hK => ?_
            refine step_append_eqM rfl _ _ _ _ rfl rfl rfl HRUN.out ?_
            refine hK.out _ _ (by exact HB9.out) (fun hHeld => ?_)
            clear hK K
            try simp only [Act.put, sqA, sqB, sqC, sqD, sqE, sqF]
            refine tkq (v := ?_) 8 rfl ?_ ?_
            rotate_left
            ·intro w' hSw
             go_simp <;> with_reducible rfl
            try simp only [Act.put, sqA, sqB, sqC, sqD, sqE, sqF]
            refine rdq 9 rfl fun K hK => ?_
            go_simp
            refine hK.out _ _ (by exact HBS.out) (fun hHeld => ?_)
            clear hK K
            try simp only [Act.put, sqA, sqB, sqC, sqD, sqE, sqF]
            refine wpAnyH_done (by kernel_rfl) ?_ _
            clear hHeld t1 t1a tf tc tl HRUN HT9 HB9 KPO hb8a hd8 HBS HXY
            generalize w9.setCell ⟨T1, 1, none⟩ (.slice (some ⟨gx, 0, none⟩) (p + 1) capx) = w8n at *
            have HXY := hide HN9.out
            clear HN9
            obtain ⟨w8, hw8⟩ : ∃ x, x = w8n := ⟨_, rfl⟩
            rw [← hw8] at HXY ⊢
            clear hw8 w8n
            have hd8 : Below w4.heap.size w4 w8.drew := HXY.out.bl.drew
            obtain ⟨gy, capy, w9, hr9, hT9, hb9, hN9⟩ := XyI.push (cx := cxo) (z := xo) (HXY.out.swap.later ((Below.refl w8.heap.size w8).drew)) (HLO.out _ (UPW4.out _ hd8)).2.2 (by omega)
            rw [hLyl] at hr9 hN9
            have HRUN := hide hr9
            have HT9 := hide hT9
            have HB9 := hide hb9
            have HN9 := hide hN9
            have KPO : Hid (∀ w', Below w4.heap.size w4 w' → w'.cell? ⟨lb, lo + o * 2, none⟩ = some (.string xo.name) ∧ w'.cell? ⟨lb, lo + o * 2 + 1, none⟩ = some (.slice axo xo.args.length cxo)) := fun w' hb => ⟨(HLO.out w' (UPW4.out w' hb)).1, (HLO.out w' (UPW4.out w' hb)).2.1⟩
            have hTb : Blk w8.drew T2 #[.string m.name, .slice ga p gc] 30 := (HXY.out.swap.later ((Below.refl w8.heap.size w8).drew)).x.1
            have t1 := hTb.cell 1
            have t1a := (hTb.alloc (.cells #[.string xo.name, .slice axo xo.args.length cxo] 30)).cell 1
            have hb8a : Below w4.heap.size w4 (w8.drew.alloc (.cells #[.string xo.name, .slice axo xo.args.length cxo] 30)) := hd8.alloc hd8.size _
            have tf : w9.frozen? ⟨T2, 1, none⟩ = false := HT9.out.frozen 1
            have tc : w9.cell? ⟨T2, 1, none⟩ = some (.slice ga p gc) := HT9.out.cell 1
            have tl : T2 < w9.heap.size := HT9.out.lt
            have HBS := hide HN9.out.bl
            clear hr9 hT9 hb9 hN9 hTb
            go_upto_region 21 with fail
            refine wp_region_held_drew (S := Below w4.heap.size w4) (by kernel_rfl) hd8 (fun hHeld => ?_)
            generalize w8.drew = w8d at *
            refine tkq (v := ?_) 0 rfl ?_ ?_
            rotate_left
            ·intro w' hSw
             go_simp <;> with_reducible rfl
            try simp only [Act.put, sqA, sqB, sqC, sqD, sqE, sqF]
            refine tkq (v := ?_) 2 rfl ?_ ?_
            rotate_left
            ·intro w' hSw
             go_simp <;> with_reducible rfl
            try simp only [Act.put, sqA, sqB, sqC, sqD, sqE, sqF]
            refine tkq (v := ?_) 3 rfl ?_ ?_
            rotate_left
            ·intro w' hSw
             go_simp <;> with_reducible rfl
            try simp only [Act.put, sqA, sqB, sqC, sqD, sqE, sqF]
            refine tkq (v := ?_) 4 rfl ?_ ?_
            rotate_left
            ·intro w' hSw
             go_simp <;> with_reducible rfl
            try simp only [Act.put, sqA, sqB, sqC, sqD, sqE, sqF]
            refine tkq (v := ?_) 5 rfl ?_ ?_
            rotate_left
            ·intro w' hSw
             obtain ⟨x0, x1⟩ := KPO.out w' hSw
             go_simp <;> with_reducible rfl
            try simp only [Act.put, sqA, sqB, sqC, sqD, sqE, sqF]
            refine wpAnyH_ready (rs := [1, 6]) (by kernel_rfl) (by simp) ?_
            refine AllReadyH.cons rfl (fun K hK => ?_) (AllReadyH.cons rfl (fun K hK => ?_) AllReadyH.nil)
            ·go_simp
             refine hK.out _ _ (by exact hd8) (fun hHeld => ?_)
             clear hK K
             try simp only [Act.put, sqA, sqB, sqC, sqD, sqE, sqF]
             refine rdq 6 rfl fun K hK => ?_
             go_simp
             refine hK.out _ _ (by exact hb8a) (fun hHeld => ?_)
             clear hK K
             try simp only [Act.put, sqA, sqB, sqC, sqD, sqE, sqF]
             refine rdq 7 rfl fun K hK => ?_
             refine step_append_eqM rfl _ _ _ _ rfl rfl rfl HRUN.out ?_
             refine hK.out _ _ (by exact HB9.out) (fun hHeld => ?_)
             clear hK K
             try simp only [Act.put, sqA, sqB, sqC, sqD, sqE, sqF]
             refine tkq (v := ?_) 8 rfl ?_ ?_
             rotate_left
             ·intro w' hSw
              go_simp <;> with_reducible rfl
             try simp only [Act.put, sqA, sqB, sqC, sqD, sqE, sqF]
             refine rdq 9 rfl fun K hK => ?_
             go_simp
             refine hK.out _ _ (by exact HBS.out) (fun hHeld => ?_)
             clear hK K
             try simp only [Act.put, sqA, sqB, sqC, sqD, sqE, sqF]
             refine wpAnyH_done (by kernel_rfl) ?_ _
             clear hHeld t1 t1a tf tc tl HRUN HT9 HB9 KPO hb8a hd8 HBS HXY
             generalize w9.setCell ⟨T2, 1, none⟩ (.slice (some ⟨gy, 0, none⟩) (p + 1) capy) = w8n at *
             have HXY := hide HN9.out.swap
             clear HN9
             obtain ⟨w8, hw8⟩ : ∃ x, x = w8n := ⟨_, rfl⟩
             rw [← hw8] at HXY ⊢
             clear hw8 w8n
             go_wp2_with fail
             go_roundw
             case rel => exact ⟨p + 1, _, _, by go_num, by omega, by rw [HTKX.out, HTKY.out]; exact HXY.out⟩
             case measure => simp [intOf]; omega
            ·go_simp
             refine hK.out _ _ (by exact hb8a) (fun hHeld => ?_)
             clear hK K
             try simp only [Act.put, sqA, sqB, sqC, sqD, sqE, sqF]
             refine rdq 1 rfl fun K hK => ?_
             go_simp
             refine hK.out _ _ (by exact hb8a) (fun hHeld => ?_)
             clear hK K
             try simp only [Act.put, sqA, sqB, sqC, sqD, sqE, sqF]
             refine rdq 7 rfl fun K hK => ?_
             refine step_append_eqM rfl _ _ _ _ rfl rfl rfl HRUN.out ?_
             refine hK.out _ _ (by exact HB9.out) (fun hHeld => ?_)
             clear hK K
             try simp only [Act.put, sqA, sqB, sqC, sqD, sqE, sqF]
             refine tkq (v := ?_) 8 rfl ?_ ?_
             rotate_left
             ·intro w' hSw
              go_simp <;> with_reducible rfl
             try simp only [Act.put, sqA, sqB, sqC, sqD, sqE, sqF]
             refine rdq 9 rfl fun K hK => ?_
             go_simp
             refine hK.out _ _ (by exact HBS.out) (fun hHeld => ?_)
             clear hK K
             try simp only [Act.put, sqA, sqB, sqC, sqD, sqE, sqF]
             refine wpAnyH_done (by kernel_rfl) ?_ _
             clear hHeld t1 t1a tf tc tl HRUN HT9 HB9 KPO hb8a hd8 HBS HXY
             generalize w9.setCell ⟨T2, 1, none⟩ (.slice (some ⟨gy, 0, none⟩) (p + 1) capy) = w8n at *
             have HXY := hide HN9.out.swap
             clear HN9
             obtain ⟨w8, hw8⟩ : ∃ x, x = w8n := ⟨_, rfl⟩
             rw [← hw8] at HXY ⊢
             clear hw8 w8n
             go_wp2_with fail
             go_roundw
             case rel => exact ⟨p + 1, _, _, by go_num, by omega, by rw [HTKX.out, HTKY.out]; exact HXY.out⟩
             case measure => simp [intOf]; omega
           ·go_simp
            refine hK.out _ _ (by exact hb8a) (fun hHeld => ?_)
            clear hK K
            try simp only [Act.put, sqA, sqB, sqC, sqD, sqE, sqF]
            refine rdq 1 rfl fun K hK => ?_
            go_simp
            refine hK.out _ _ (by exact hb8a) (fun hHeld => ?_)
            clear hK K
            try simp only [Act.put, sqA, sqB, sqC, sqD, sqE, sqF]
            refine rdq 7 rfl fun K hK => ?_
            refine step_append_eqM rfl _ _ _ _ rfl rfl rfl HRUN.out ?_
            refine hK.out _ _ (by exact HB9.out) (fun hHeld => ?_)
            clear hK K
            try simp only [Act.put, sqA, sqB, sqC, sqD, sqE, sqF]
            refine tkq (v := ?_) 8 rfl ?_ ?_
            rotate_left
            ·intro w' hSw
             go_simp <;> with_reducible rfl
            try simp only [Act.put, sqA, sqB, sqC, sqD, sqE, sqF]
            refine rdq 9 rfl fun K hK => ?_
            go_simp
            refine hK.out _ _ (by exact HBS.out) (fun hHeld => ?_)
            clear hK K
            try simp only [Act.put, sqA, sqB, sqC, sqD, sqE, sqF]
            refine wpAnyH_done (by kernel_rfl) ?_ _
            clear hHeld t1 t1a tf tc tl HRUN HT9 HB9 KPO hb8a hd8 HBS HXY
            generalize w9.setCell ⟨T1, 1, none⟩ (.slice (some ⟨gx, 0, none⟩) (p + 1) capx) = w8n at *
            have HXY := hide HN9.out
            clear HN9
            obtain ⟨w8, hw8⟩ : ∃ x, x = w8n := ⟨_, rfl⟩
            rw [← hw8] at HXY ⊢
            clear hw8 w8n
            have hd8 : Below w4.heap.size w4 w8.drew := HXY.out.bl.drew
            obtain ⟨gy, capy, w9, hr9, hT9, hb9, hN9⟩ := XyI.push (cx := cxo) (z := xo) (HXY.out.swap.later ((Below.refl w8.heap.size w8).drew)) (HLO.out _ (UPW4.out _ hd8)).2.2 (by omega)
            rw [hLyl] at hr9 hN9
            have HRUN := hide hr9
            have HT9 := hide hT9
            have HB9 := hide hb9
            have HN9 := hide hN9
            have KPO : Hid (∀ w', Below w4.heap.size w4 w' → w'.cell? ⟨lb, lo + o * 2, none⟩ = some (.string xo.name) ∧ w'.cell? ⟨lb, lo + o * 2 + 1, none⟩ = some (.slice axo xo.args.length cxo)) := fun w' hb => ⟨(HLO.out w' (UPW4.out w' hb)).1, (HLO.out w' (UPW4.out w' hb)).2.1⟩
            have hTb : Blk w8.drew T2 #[.string m.name, .slice ga p gc] 30 := (HXY.out.swap.later ((Below.refl w8.heap.size w8).drew)).x.1
            have t1 := hTb.cell 1
            have t1a := (hTb.alloc (.cells #[.string xo.name, .slice axo xo.args.length cxo] 30)).cell 1
            have hb8a : Below w4.heap.size w4 (w8.drew.alloc (.cells #[.string xo.name, .slice axo xo.args.length cxo] 30)) := hd8.alloc hd8.size _
            have tf : w9.frozen? ⟨T2, 1, none⟩ = false := HT9.out.frozen 1
            have tc : w9.cell? ⟨T2, 1, none⟩ = some (.slice ga p gc) := HT9.out.cell 1
            have tl : T2 < w9.heap.size := HT9.out.lt
            have HBS := hide HN9.out.bl
            clear hr9 hT9 hb9 hN9 hTb
            go_upto_region 21 with fail
            refine wp_region_held_drew (S := Below w4.heap.size w4) (by kernel_rfl) hd8 (fun hHeld => ?_)
            generalize w8.drew = w8d at *
            refine tkq (v := ?_) 0 rfl ?_ ?_
            rotate_left
            ·intro w' hSw
             go_simp <;> with_reducible rfl
            try simp only [Act.put, sqA, sqB, sqC, sqD, sqE, sqF]
            refine tkq (v := ?_) 2 rfl ?_ ?_
            rotate_left
            ·intro w' hSw
             go_simp <;> with_reducible rfl
            try simp only [Act.put, sqA, sqB, sqC, sqD, sqE, sqF]
            refine tkq (v := ?_) 3 rfl ?_ ?_
            rotate_left
            ·intro w' hSw
             go_simp <;> with_reducible rfl
            try simp only [Act.put, sqA, sqB, sqC, sqD, sqE, sqF]
            refine tkq (v := ?_) 4 rfl ?_ ?_
            rotate_left
            ·intro w' hSw
             go_simp <;> with_reducible rfl
            try simp only [Act.put, sqA, sqB, sqC, sqD, sqE, sqF]
            refine tkq (v := ?_) 5 rfl ?_ ?_
            rotate_left
            ·intro w' hSw
             obtain ⟨x0, x1⟩ := KPO.out w' hSw
             go_simp <;> with_reducible rfl
            try simp only [Act.put, sqA, sqB, sqC, sqD, sqE, sqF]
            refine wpAnyH_ready (rs := [1, 6]) (by kernel_rfl) (by simp) ?_
            refine AllReadyH.cons rfl (fun K hK => ?_) (AllReadyH.cons rfl (fun K hK => ?_) AllReadyH.nil)
            ·go_simp
             refine hK.out _ _ (by exact hd8) (fun hHeld => ?_)
             clear hK K
             try simp only [Act.put, sqA, sqB, sqC, sqD, sqE, sqF]
             refine rdq 6 rfl fun K hK => ?_
             go_simp
             refine hK.out _ _ (by exact hb8a) (fun hHeld => ?_)
             clear hK K
             try simp only [Act.put, sqA, sqB, sqC, sqD, sqE, sqF]
             refine rdq 7 rfl fun K hK => ?_
             refine step_append_eqM rfl _ _ _ _ rfl rfl rfl HRUN.out ?_
             refine hK.out _ _ (by exact HB9.out) (fun hHeld => ?_)
             clear hK K
             try simp only [Act.put, sqA, sqB, sqC, sqD, sqE, sqF]
             refine tkq (v := ?_) 8 rfl ?_ ?_
             rotate_left
             ·intro w' hSw
              go_simp <;> with_reducible rfl
             try simp only [Act.put, sqA, sqB, sqC, sqD, sqE, sqF]
             refine rdq 9 rfl fun K hK => ?_
             go_simp
             refine hK.out _ _ (by exact HBS.out) (fun hHeld => ?_)
             clear hK K
             try simp only [Act.put, sqA, sqB, sqC, sqD, sqE, sqF]
             refine wpAnyH_done (by kernel_rfl) ?_ _
             clear hHeld t1 t1a tf tc tl HRUN HT9 HB9 KPO hb8a hd8 HBS HXY
             generalize w9.setCell ⟨T2, 1, none⟩ (.slice (some ⟨gy, 0, none⟩) (p + 1) capy) = w8n at *
             have HXY := hide HN9.out.swap
             clear HN9
             obtain ⟨w8, hw8⟩ : ∃ x, x = w8n := ⟨_, rfl⟩
             rw [← hw8] at HXY ⊢
             clear hw8 w8n
             go_wp2_with fail
             go_roundw
             case rel => exact ⟨p + 1, _, _, by go_num, by omega, by rw [HTKX.out, HTKY.out]; exact HXY.out⟩
             case measure => simp [intOf]; omega
            ·go_simp
             refine hK.out _ _ (by exact hb8a) (fun hHeld => ?_)
             clear hK K
             try simp only [Act.put, sqA, sqB, sqC, sqD, sqE, sqF]
             refine rdq 1 rfl fun K hK => ?_
             go_simp
             refine hK.out _ _ (by exact hb8a) (fun hHeld => ?_)
             clear hK K
             try simp only [Act.put, sqA, sqB, sqC, sqD, sqE, sqF]
             refine rdq 7 rfl fun K hK => ?_
             refine step_append_eqM rfl _ _ _ _ rfl rfl rfl HRUN.out ?_
             refine hK.out _ _ (by exact HB9.out) (fun hHeld => ?_)
             clear hK K
             try simp only [Act.put, sqA, sqB, sqC, sqD, sqE, sqF]
             refine tkq (v := ?_) 8 rfl ?_ ?_
             rotate_left
             ·intro w' hSw
              go_simp <;> with_reducible rfl
             try simp only [Act.put, sqA, sqB, sqC, sqD, sqE, sqF]
             refine rdq 9 rfl fun K hK => ?_
             go_simp
             refine hK.out _ _ (by exact HBS.out) (fun hHeld => ?_)
             clear hK K
             try simp only [Act.put, sqA, sqB, sqC, sqD, sqE, sqF]
             refine wpAnyH_done (by kernel_rfl) ?_ _
             clear hHeld t1 t1a tf tc tl HRUN HT9 HB9 KPO hb8a hd8 HBS HXY
             generalize w9.setCell ⟨T2, 1, none⟩ (.slice (some ⟨gy, 0, none⟩) (p + 1) capy) = w8n at *
             have HXY := hide HN9.out.swap
             clear HN9
             obtain ⟨w8, hw8⟩ : ∃ x, x = w8n := ⟨_, rfl⟩
             rw [← hw8] at HXY ⊢
             clear hw8 w8n
             go_wp2_with fail
             go_roundw
             case rel => exact ⟨p + 1, _, _, by go_num, by omega, by rw [HTKX.out, HTKY.out]; exact HXY.out⟩
             case measure => simp [intOf]; omega
         ·have hpi : ¬ (p : Int) < (kk : Int) := by omega
          have ep : p = kk := by omega
          subst ep
          have hkl : (pAr p s xi xo).take p = pAr p s xi xo := List.take_of_length_le (by rw [pAr_len]; exact Nat.le_refl _)
          have hkl2 : (pAr p s xk xo).take p = pAr p s xk xo := List.take_of_length_le (by rw [pAr_len]; exact Nat.le_refl _)
          rw [hkl, hkl2] at hxy
          obtain ⟨fa, fc, hf1⟩ := hxy.shape
          obtain ⟨ga, gc, hf2⟩ := hxy.swap.shape
          subst hf1
          subst hf2
          have hs1 := hxy.sl
          have hs2 := hxy.swap.sl
          have hT1 := hxy.x.1
          have hT2 := hxy.y.1
          rw [pAr_len] at hT1 hT2
          have hB8 := hxy.bl
          have UPW8 : Hid (∀ w', Below w8.heap.size w8 w' → Below w.heap.size w w') := fun w' hb => UPA.out w' (UP4.out w' (hB8.trans (hb.mono hB8.size)))
          have UP28 : Hid (∀ w', Below w8.heap.size w8 w' → Below w2.heap.size w2 w') := fun w' hb => UP4.out w' (hB8.trans (hb.mono hB8.size))
          obtain ⟨tx, htx⟩ : ∃ t : Tm, t = ⟨m.name, pAr p s xi xo⟩ := ⟨_, rfl⟩
          obtain ⟨ty, hty⟩ : ∃ t : Tm, t = ⟨m.name, pAr p s xk xo⟩ := ⟨_, rfl⟩
          have HWX : Hid (Wid tx) := by unfold Hid; rw [htx]; exact Wid.mk (by rw [pAr_len]; omega) fun x hx => HWD.out x (pAr_in HXI2.out HXO2.out x hx)
          have HWY : Hid (Wid ty) := by unfold Hid; rw [hty]; exact Wid.mk (by rw [pAr_len]; omega) fun x hx => HWD.out x (pAr_in HXK2.out HXO2.out x hx)
          have HTX : Hid (∀ w', Below w8.heap.size w8 w' → TV w' (fun _ => True) (.agg #[.string m.name, .slice fa p fc]) tx) := fun w' hb => by
           rw [htx]
           exact ⟨fa, fc, by rw [pAr_len], hs1.later hb⟩
          have HTY : Hid (∀ w', Below w8.heap.size w8 w' → TV w' (fun _ => True) (.agg #[.string m.name, .slice ga p gc]) ty) := fun w' hb => by
           rw [hty]
           exact ⟨ga, gc, by rw [pAr_len], hs2.later hb⟩
          have KPS : Hid (∀ w', Below w8.heap.size w8 w' → (w'.cell? ⟨w.heap.size, 0, none⟩ = some (.int .i64 A.st) ∧ w'.cell? ⟨w.heap.size, 1, none⟩ = some (.slice (some ⟨mb, mo, none⟩) A.mv.length an) ∧ w'.cell? ⟨w.heap.size, 2, none⟩ = some (.slice al A.la.length ao)) ∧ (w'.cell? ⟨T1, 0, none⟩ = some (.string m.name) ∧ w'.cell? ⟨T1, 1, none⟩ = some (.slice fa p fc)) ∧ (w'.cell? ⟨T2, 0, none⟩ = some (.string m.name) ∧ w'.cell? ⟨T2, 1, none⟩ = some (.slice ga p gc))) := fun w' hb => by
           have h1 := hT1.below hb hT1.lt
           have h2 := hT2.below hb hT2.lt
           exact ⟨KAA.out w' (UP28.out w' hb), ⟨h1.cell 0, h1.cell 1⟩, ⟨h2.cell 0, h2.cell 1⟩⟩
          obtain ⟨t1, ht1, e1⟩ := HCL.out m HMI.out (pAr p s xi xo) (by rw [pAr_len]; exact HKK.out) (pAr_in HXI2.out HXO2.out)
          obtain ⟨pI, hpI, rfl⟩ := List.mem_iff_getElem.1 ht1
          obtain ⟨t2, ht2, e2⟩ := HCL.out m HMI.out (pAr p s xk xo) (by rw [pAr_len]; exact HKK.out) (pAr_in HXK2.out HXO2.out)
          obtain ⟨qI, hqI, rfl⟩ := List.mem_iff_getElem.1 ht2
          have KLK1 : Hid (∀ w', Below w8.heap.size w8 w' → (Instr.lookup 91 (.map (some r)) (.string (keyA A tx)) false).run Try.prog w' = .ok (.int .i64 (pI : Int)) w') := fun w' hb => by
           have h9 := look_ix (HMP.out w' (UPW8.out w' hb)) HND.out (i := pI) (by simpa using hpI)
           have h8 : (l.map (keyA A))[pI]'(by simpa using hpI) = keyA A tx := by rw [List.getElem_map, htx]; unfold keyA; rw [e1]
           rw [h8] at h9
           exact h9
          have KLK2 : Hid (∀ w', Below w8.heap.size w8 w' → (Instr.lookup 91 (.map (some r)) (.string (keyA A ty)) false).run Try.prog w' = .ok (.int .i64 (qI : Int)) w') := fun w' hb => by
           have h9 := look_ix (HMP.out w' (UPW8.out w' hb)) HND.out (i := qI) (by simpa using hqI)
           have h8 : (l.map (keyA A))[qI]'(by simpa using hqI) = keyA A ty := by rw [List.getElem_map, hty]; unfold keyA; rw [e2]
           rw [h8] at h9
           exact h9
          have KM : Hid (∀ w', Below w8.heap.size w8 w' → w'.cell? ⟨M, pI, none⟩ = some (.slice (some ⟨R pI, 0, none⟩) n n) ∧ w'.cell? ⟨R pI, qI, none⟩ = some (.bool (U pI qI))) := fun w' hb => by
           have h9 := HMT.out w' (UPW8.out w' hb)
           exact ⟨by rw [HN.out]; exact h9.top pI hpI, h9.at hpI hqI⟩
          have HYES : Hid (U pI qI = true → PtP A l U i k) := fun hU => ⟨m, HMI.out, s, o, by rw [← HKK.out]; exact hls, pI, qI, hpI, hqI, hol, hi, hk, by rw [e1, ← HKK.out, HXI.out, HXO.out], by rw [e2, ← HKK.out, HXK.out, HXO.out], hU⟩
          have HNOP : Hid (U pI qI = false → NoO A l U i k m s (o + 1)) := fun hU o' h1 hp' => by
           by_cases e : o' = o
           ·subst e
            obtain ⟨p', q', hp', hq', ho', hi', hk', g1, g2, g3⟩ := hp'
            rw [← HKK.out, ← HXI.out, ← HXO.out, ← e1] at g1
            rw [← HKK.out, ← HXK.out, ← HXO.out, ← e2] at g2
            have i1 : p' = pI := ix_inj HND.out (by simpa using hp') (by simpa using hpI) (by rw [List.getElem_map, List.getElem_map]; unfold keyA; rw [g1])
            have i2 : q' = qI := ix_inj HND.out (by simpa using hq') (by simpa using hqI) (by rw [List.getElem_map, List.getElem_map]; unfold keyA; rw [g2])
            rw [i1, i2, hU] at g3
            cases g3
           ·exact HNOO.out o' (by omega) hp'
          obtain ⟨nA, hnA⟩ : ∃ nA : Nat, A.st = (nA : Int) := ⟨A.st.toNat, by have := OA.out.pos; omega⟩
          have HNA := hide hnA
          have HTA : Hid (∀ v w X, LV Value.bool w X v (endT A tx) → Calls Try.prog 54 #[v] w fun e w' => e = .returned (.string (keyA A tx)) ∧ w' = w) := fun v w X h => told_any _ (by rw [endT_len]; have := HS3.out; omega) v w X h
          have HTB : Hid (∀ v w X, LV Value.bool w X v (endT A ty) → Calls Try.prog 54 #[v] w fun e w' => e = .returned (.string (keyA A ty)) ∧ w' = w) := fun v w X h => told_any _ (by rw [endT_len]; have := HS3.out; omega) v w X h
          have hpn : (pI : Int) < (n : Int) := by have := HN.out; omega
          have hqn : (qI : Int) < (n : Int) := by have := HN.out; omega
          have hkd : Below w8.heap.size w8 w8.drew := (Below.refl _ _).drew
          obtain ⟨u, hu⟩ : ∃ u, u = U pI qI := ⟨_, rfl⟩
          rw [← hu] at KM HYES HNOP
          clear hs1 hs2 hT1 hT2 hB8 hxy hkl hkl2 htx hty e1 e2 ht1 ht2 hnA hu
          go_upto_region 22 with fail
          refine wp_region_held_drew (S := Below w8.heap.size w8) (by kernel_rfl) hkd (fun hHeld => ?_)
          generalize w8.drew = w8d at *
          refine tkq (v := ?_) 0 rfl ?_ ?_
          rotate_left
          ·intro w' hSw
           go_simp <;> with_reducible rfl
          try simp only [Act.put, sqA, sqB, sqC, sqD, sqE, sqF]
          refine tkq (v := ?_) 1 rfl ?_ ?_
          rotate_left
          ·intro w' hSw
           go_simp <;> with_reducible rfl
          try simp only [Act.put, sqA, sqB, sqC, sqD, sqE, sqF]
          refine tkq (v := ?_) 2 rfl ?_ ?_
          rotate_left
          ·intro w' hSw
           obtain ⟨⟨a0, a1, a2⟩, ⟨x0, x1⟩, ⟨y0, y1⟩⟩ := KPS.out w' hSw
           clear x0 x1 y0 y1
           go_simp <;> with_reducible rfl
          try simp only [Act.put, sqA, sqB, sqC, sqD, sqE, sqF]
          refine tkq (v := ?_) 3 rfl ?_ ?_
          rotate_left
          ·intro w' hSw
           obtain ⟨⟨a0, a1, a2⟩, ⟨x0, x1⟩, ⟨y0, y1⟩⟩ := KPS.out w' hSw
           clear a0 a1 a2 y0 y1
           go_simp <;> with_reducible rfl
          try simp only [Act.put, sqA, sqB, sqC, sqD, sqE, sqF]
          refine tkq (v := ?_) 9 rfl ?_ ?_
          rotate_left
          ·intro w' hSw
           go_simp <;> with_reducible rfl
          try simp only [Act.put, sqA, sqB, sqC, sqD, sqE, sqF]
          refine tkq (v := ?_) 10 rfl ?_ ?_
          rotate_left
          ·intro w' hSw
           obtain ⟨⟨a0, a1, a2⟩, ⟨x0, x1⟩, ⟨y0, y1⟩⟩ := KPS.out w' hSw
           clear x0 x1 y0 y1
           go_simp <;> with_reducible rfl
          try simp only [Act.put, sqA, sqB, sqC, sqD, sqE, sqF]
          refine tkq (v := ?_) 11 rfl ?_ ?_
          rotate_left
          ·intro w' hSw
           obtain ⟨⟨a0, a1, a2⟩, ⟨x0, x1⟩, ⟨y0, y1⟩⟩ := KPS.out w' hSw
           clear a0 a1 a2 x0 x1
           go_simp <;> with_reducible rfl
          try simp only [Act.put, sqA, sqB, sqC, sqD, sqE, sqF]
          refine rdq 4 rfl fun K hK => ?_
          go_simp
          go_at_call 36
          refine (endsInW_any A (S := 8) (M := 40) (by omega) (by omega) OA.out nA HNA.out tx _ _ _ _ HWX.out (AVW.out _ (UPW8.out _ hkd)) (HTX.out _ hkd)).mono ?_
          rintro e wC ⟨ca, cc, rfl, hlC, hbC⟩
          have hBC := hkd.trans (hbC.mono hkd.size)
          go_simp
          refine hK.out _ _ (by exact hBC) (fun hHeld => ?_)
          clear hK K
          try simp only [Act.put, sqA, sqB, sqC, sqD, sqE, sqF]
          refine rdq 5 rfl fun K hK => ?_
          go_simp
          go_at_call 54
          refine (HTA.out _ _ _ hlC).mono ?_
          rintro e wc2 ⟨rfl, hw2⟩
          obtain rfl := hw2.symm
          go_simp
          refine hK.out _ _ (by exact hBC) (fun hHeld => ?_)
          clear hK K
          try simp only [Act.put, sqA, sqB, sqC, sqD, sqE, sqF]
          refine tkq (v := ?_) 6 rfl ?_ ?_
          rotate_left
          ·intro w' hSw
           have hlk := KLK1.out w' hSw
           go_simp <;> with_reducible rfl
          try simp only [Act.put, sqA, sqB, sqC, sqD, sqE, sqF]
          refine tkq (v := ?_) 7 rfl ?_ ?_
          rotate_left
          ·intro w' hSw
           go_simp <;> with_reducible rfl
          try simp only [Act.put, sqA, sqB, sqC, sqD, sqE, sqF]
          refine tkq (v := ?_) 8 rfl ?_ ?_
          rotate_left
          ·intro w' hSw
           obtain ⟨m0, m1⟩ := KM.out w' hSw
           go_simp <;> with_reducible rfl
          try simp only [Act.put, sqA, sqB, sqC, sqD, sqE, sqF]
          refine rdq 12 rfl fun K hK => ?_
          go_simp
          go_at_call 36
          refine (endsInW_any A (S := 8) (M := 40) (by omega) (by omega) OA.out nA HNA.out ty _ _ _ _ HWY.out (AVW.out _ (UPW8.out _ hBC)) (HTY.out _ hBC)).mono ?_
          rintro e wD ⟨da, dc, rfl, hlD, hbD⟩
          have hBD := hBC.trans (hbD.mono hBC.size)
          go_simp
          refine hK.out _ _ (by exact hBD) (fun hHeld => ?_)
          clear hK K
          try simp only [Act.put, sqA, sqB, sqC, sqD, sqE, sqF]
          refine rdq 13 rfl fun K hK => ?_
          go_simp
          go_at_call 54
          refine (HTB.out _ _ _ hlD).mono ?_
          rintro e wd2 ⟨rfl, hw2⟩
          obtain rfl := hw2.symm
          go_simp
          refine hK.out _ _ (by exact hBD) (fun hHeld => ?_)
          clear hK K
          try simp only [Act.put, sqA, sqB, sqC, sqD, sqE, sqF]
          refine tkq (v := ?_) 14 rfl ?_ ?_
          rotate_left
          ·intro w' hSw
           have hlk := KLK2.out w' hSw
           go_simp <;> with_reducible rfl
          try simp only [Act.put, sqA, sqB, sqC, sqD, sqE, sqF]
          refine tkq (v := ?_) 15 rfl ?_ ?_
          rotate_left
          ·intro w' hSw
           go_simp <;> with_reducible rfl
          try simp only [Act.put, sqA, sqB, sqC, sqD, sqE, sqF]
          refine tkq (v := ?_) 16 rfl ?_ ?_
          rotate_left
          ·intro w' hSw
           obtain ⟨m0, m1⟩ := KM.out w' hSw
           go_simp <;> with_reducible rfl
          try simp only [Act.put, sqA, sqB, sqC, sqD, sqE, sqF]
          refine wpAnyH_done (by kernel_rfl) ?_ _
          have HBW := hide (UPW8.out _ hBD)
          have HBW2 := hide (UP28.out _ hBD)
          clear hHeld hBD hBC hbC hbD hlC hlD
          cases u with
          | true =>
           go_wp2_with fail
           go_ret
           exact ⟨true, rfl, (fun _ => HYES.out (by trivial)), (fun h => by cases h), HBW.out⟩
          | false =>
           go_wp2_with fail
           go_roundw
           case rel => exact ⟨o + 1, by omega, by go_num, HNOP.out (by trivial), HBW2.out⟩
           case measure => simp [intOf]; omega
       ·have hoi : ¬ (o : Int) < (n : Int) := by omega
        have HNS : Hid (NoS A l U i k m (s + 1)) := noO_end HNOS.out (by have e : o = l.length := by { have := HN.out; omega }; rw [← e]; exact HNOO.out)
        go_wp2_with fail
        go_roundw
        case rel => exact ⟨s + 1, by omega, by go_num, HNS.out, HBO.out⟩
        case measure => simp [intOf]; omega
     ·have hsi : ¬ (s : Int) < (kk : Int) := by omega
      have HNJ : Hid (NoJ A l U i k (j + 1)) := HSE.out (by have e : s = kk := by { omega }; rw [← e]; exact HNOS.out)
      go_wp2_with fail
      go_roundw
      case rel => exact ⟨j + 1, by omega, by go_num, HNJ.out, HB4.out⟩
      case measure => simp [intOf]; omega
  ·have hji : ¬ (j : Int) < (A.mv.length : Int) := by omega
   have HE : Hid (¬ PtP A l U i k) := noJ_end (by have e : j = A.mv.length := by { omega }; rw [← e]; exact HNO.out)
   go_wp2_with fail
   go_ret
   exact ⟨false, rfl, (fun h => by cases h), (fun _ => HE.out), UPA.out w3 HB3.out⟩
end Go.Proofs.Ytofebfjkodceeaa
