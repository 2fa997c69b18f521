import Derived.Test.YtofebfjkodceeaaSq
import Derived.Test.YtofebfjkodceeaaZDAutoMadeOwn
import Derived.Deep.LoopGhost
namespace Go.Proofs.Ytofebfjkodceeaa
open Go.RowKit
set_option linter.unusedSimpArgs false
set_option linter.unusedVariables false
set_option maxRecDepth 8000
structure SfW (w : World) (H B : Nat) (st : Fs) (ac : Array Value) (wr : World) : Prop where
 dv : DoV wr H B st
 bl : Below w.heap.size w wr
 bx : Blk wr w.heap.size ac 25
 br : Blk wr (w.heap.size + 1) #[.string ⟨#[]⟩, .slice none 0 0] 30
 hs : w.heap.size + 2 ≤ H ∧ w.heap.size + 2 ≤ B
theorem SfW.later {w w1 w2 : World} {H B : Nat} {st : Fs} {ac : Array Value} (h : SfW w H B st ac w1) (hb : Below w1.heap.size w1 w2) : SfW w H B st ac w2 :=
 ⟨h.dv.later hb, h.bl.trans (hb.mono h.bl.size), h.bx.below hb h.bx.lt, h.br.below hb h.br.lt, h.hs⟩
structure SfT (w0 : World) (H B D : Nat) (mc : Array Value) (nm : ByteArray) (uv : Value) (l : List Tm) (xs : List Value) (wr : World) : Prop where
 row : Row wr (D + 2) 30 (fun b => (H < b ∧ B < b) ∧ b < D) uv l xs
 bl : Below D w0 wr
 ka : Blk wr D mc 40
 out : Blk wr (D + 1) #[.string nm, uv] 30
theorem SfT.later {w0 w1 w2 : World} {H B D : Nat} {mc : Array Value} {nm : ByteArray} {uv : Value} {l : List Tm} {xs : List Value} (h : SfT w0 H B D mc nm uv l xs w1) (hb : Below w1.heap.size w1 w2) : SfT w0 H B D mc nm uv l xs w2 :=
 ⟨h.row.below hb, h.bl.trans (hb.mono (by have := h.ka.lt; omega)), h.ka.below hb h.ka.lt, h.out.below hb h.out.lt⟩
theorem sf_round {w0 wr : World} {H B D : Nat} {mc : Array Value} {nm : ByteArray} {uv : Value} {l : List Tm} {xs : List Value} (h : SfT w0 H B D mc nm uv l xs wr) (hl : l.length ≤ 100000) {t : Tm} {a5 : Option Addr} {c5 : Nat} (hs5 : Sl wr (fun b => (H < b ∧ B < b) ∧ b < D) a5 t.args) :
  ∃ g cap w3, (Builtin.append_ #[28, 28] 28 #[uv, .slice (some ⟨wr.heap.size, 0, none⟩) 1 1]).run Try.prog (wr.alloc (.cells #[.string t.name, .slice a5 t.args.length c5] 30)) = .ok (.slice (some ⟨g, 0, none⟩) (l.length + 1) cap) w3 ∧
   (w3.cell? ⟨D + 1, 1, none⟩ = some uv ∧ w3.frozen? ⟨D + 1, 1, none⟩ = false ∧ D + 1 < w3.heap.size) ∧ (∀ b, b < D + 1 → w3.heap[b]? = wr.heap[b]? ∧ (w3.setCell ⟨D + 1, 1, none⟩ (.slice (some ⟨g, 0, none⟩) (l.length + 1) cap)).heap[b]? = wr.heap[b]?) ∧
   SfT w0 H B D mc nm (.slice (some ⟨g, 0, none⟩) (l.length + 1) cap) (l ++ [t]) (xs ++ [.string t.name, .slice a5 t.args.length c5]) (w3.setCell ⟨D + 1, 1, none⟩ (.slice (some ⟨g, 0, none⟩) (l.length + 1) cap)) := by
 obtain ⟨i0, hi, hz0, hz1, hz2⟩ := info_parts Try.infoTerm
 have hlt := h.row.own.lt
 have hol := h.out.lt
 obtain ⟨g, cap, w3, hr3, ho, hg, hat, hgl⟩ := run_append_lies (P := Try.prog) (w := wr.alloc (.cells #[.string t.name, .slice a5 t.args.length c5] 30)) 28 28 (D + 2) 30 i0 _ 2 40 Try.underlying28 hi hz0 hz1 hz2 rfl (by decide) uv l.length xs (h.row.own.alloc _)
  ⟨wr.heap.size, 0, none⟩ 1 1 [.string t.name, .slice a5 t.args.length c5] rfl (cell_two_newF _ _ _ _) (fun y hy => by simp at hy; rcases hy with rfl | rfl <;> rfl) (by decide) (by unfold maxLen; omega) (by omega) (by simp; omega) _ rfl
 have hp := h.row.push (w1 := wr) (w3 := w3) (t := t) (by omega) (fun b h => by omega) (Below.refl _ _) ⟨a5, c5, rfl, hs5.mono fun b h _ => Or.inl h⟩ _ rfl ho hg hat
 have hne : ∀ j, j < D + 2 → some j ≠ uv.ownBlock := fun j hj e => by have := (hlt j e.symm).1; omega
 have hs3 := hg.size
 simp at hs3
 have k3 : ∀ b, b < D + 2 → w3.heap[b]? = wr.heap[b]? := fun b hb => by
  rw [hg.block b (by simp; omega) (hne b hb), Below.heap_alloc _ _ _ (by omega)]
 have o3 : Blk w3 (D + 1) #[.string nm, uv] 30 := (k3 _ (by omega)).trans h.out
 have k4 : ∀ b, b < D + 1 → (w3.setCell ⟨D + 1, 1, none⟩ (.slice (some ⟨g, 0, none⟩) (l.length + 1) cap)).heap[b]? = wr.heap[b]? := fun b hb => by
  rw [Below.heap_setCell _ _ _ _ (by simp; omega), k3 b (by omega)]
 refine ⟨g, cap, w3, hr3, ⟨o3.cell 1, o3.frozen 1, by omega⟩, fun b hb => ⟨k3 b (by omega), k4 b hb⟩, ⟨hp.setCell (by omega) (fun h => by omega) _, ?_, (k4 _ (by omega)).trans h.ka, o3.set 1 _⟩⟩
 have b3 : Below D wr w3 := ((Below.refl _ wr).alloc (by omega) _).grown hg (by simp; omega) (fun j hj => by have := (hlt j hj).1; omega)
 exact (h.bl.trans b3).setCell (p := ⟨D + 1, 1, none⟩) (by simp) _
theorem Below_up {D : Nat} {w w' : World} (h : D = w.heap.size) (hb : Below D w w') : Below w.heap.size w w' := by rw [← h]; exact hb
structure SfI (w : World) (n H B : Nat) (ms : List Mv) (st0 : Fs) (ac : Array Value) (g : Nat) (q : Value) (wr : World) : Prop where
 ex : ∃ (st : Fs) (b : Bool), q = .bool b ∧ SfW w H B st ac wr ∧ OkF st ∧ st.length = n ∧ rkF 100000 st + b.toNat ≤ g ∧ (b = true → ∀ e, FinF ms st e → FinF ms st0 e) ∧ (b = false → FinF ms st0 st)
structure SfJ (w : World) (H B : Nat) (ms : List Mv) (st : Fs) (ac : Array Value) (q i : Value) (wr : World) : Prop where
 ex : ∃ k : Nat, k ≤ ms.length ∧ i = .int .i64 (k : Int) ∧ q = .bool (newsF st (ms.take k)) ∧ SfW w H B (passF st (ms.take k)) ac wr
structure SfK (w0 : World) (H B D : Nat) (mc : Array Value) (nm : ByteArray) (st : Fs) (f : List Int) (q i : Value) (wr : World) : Prop where
 ex : ∃ (j : Nat) (b : Bool) (uv : Value) (l : List Tm) (xs : List Value), j ≤ f.length ∧ i = .int .i64 (j : Int) ∧ q = .bool b ∧ (b = true → argO st (f.take j) = some l) ∧ (b = false → argO st f = none) ∧ l.length ≤ j ∧ SfT w0 H B D mc nm uv l xs wr
structure SfL (w : World) (H B : Nat) (st : Fs) (la : List Int) (ac : Array Value) (q i : Value) (wr : World) : Prop where
 ex : ∃ (k : Nat), k ≤ la.length ∧ i = .int .i64 (k : Int) ∧ ((q = .int .i64 (-1) ∧ bstF st (la.take k) = none) ∨ ∃ (s : Nat) (t : Tm), q = .int .i64 (s : Int) ∧ s < st.length ∧ atF st (s : Int) = some t ∧ bstF st (la.take k) = some t)
 sf : SfW w H B st ac wr
def SoP (A : Au) (n : Nat) (w : World) (e : Ending) (w' : World) : Prop := Below w.heap.size w w' ∧ ∃ (st : Fs), FinF A.mv (List.replicate n none) st ∧ OkF st ∧ st.length = n ∧
 ((bstF st A.la = none ∧ e = .returned (.tuple #[.agg #[.string ⟨#[]⟩, .slice none 0 0], .bool false])) ∨ ∃ t a c, bstF st A.la = some t ∧ e = .returned (.tuple #[.agg #[.string t.name, .slice a t.args.length c], .bool true]) ∧ Sl w' (fun b => w.heap.size ≤ b) a t.args)
set_option maxHeartbeats 16000000 in
theorem someOf_any (A : Au) (hA : OkAu 8 40 A) (n : Nat) (hn : A.st = (n : Int)) (va : Value) (w : World) (X : Nat → Prop) (hva : AV w X va A) :
  Calls Try.prog 18 #[va] w fun e w' => SoP A n w e w' := by
 obtain ⟨am, cm, al, cl, rfl, hm, hla⟩ := hva
 rw [hn]
 have hn8 : n ≤ 8 := by have := hA.st; omega
 have hml := hm.1
 have hll := hla.len.1
 have HM := hide hm
 have HLA := hide hla
 have HMV : Hid (∀ m ∈ A.mv, OkMv (n : Int) m) := fun m h => by rw [← hn]; exact hA.mv m h
 have HLS : Hid (∀ s ∈ A.la, 0 ≤ s ∧ s < (n : Int)) := fun s h => by rw [← hn]; exact hA.la s h
 have hmk1 := make_boolsA n (by omega)
 have hmk2 := make_termsA n (by omega)
 have B1 : Hid (Below w.heap.size w ((w.alloc (.cells #[.int .i64 (n : Int), .slice am A.mv.length cm, .slice al A.la.length cl] 25)).alloc (.cells #[.string ⟨#[]⟩, .slice none 0 0] 30))) := ((Below.refl _ _).alloc (Nat.le_refl _) _).alloc (by simp) _
 have K1 : Hid (Blk ((w.alloc (.cells #[.int .i64 (n : Int), .slice am A.mv.length cm, .slice al A.la.length cl] 25)).alloc (.cells #[.string ⟨#[]⟩, .slice none 0 0] 30)) w.heap.size #[.int .i64 (n : Int), .slice am A.mv.length cm, .slice al A.la.length cl] 25) := (Blk.new _ _ _).alloc _
 have R1 : Hid (Blk ((w.alloc (.cells #[.int .i64 (n : Int), .slice am A.mv.length cm, .slice al A.la.length cl] 25)).alloc (.cells #[.string ⟨#[]⟩, .slice none 0 0] 30)) (w.heap.size + 1) #[.string ⟨#[]⟩, .slice none 0 0] 30) := by
  have h := Blk.new (w.alloc (.cells #[.int .i64 (n : Int), .slice am A.mv.length cm, .slice al A.la.length cl] 25)) #[.string ⟨#[]⟩, .slice none 0 0] 30
  rw [World.size_alloc] at h
  exact h
 have SZ : Hid (((w.alloc (.cells #[.int .i64 (n : Int), .slice am A.mv.length cm, .slice al A.la.length cl] 25)).alloc (.cells #[.string ⟨#[]⟩, .slice none 0 0] 30)).heap.size = w.heap.size + 2) := by unfold Hid; simp
 clear hm hla hA hn
 go_enter Try.func18, Try.ntmps18
 go_upto_region 1 with fail
 generalize ((w.alloc (.cells #[.int .i64 (n : Int), .slice am A.mv.length cm, .slice al A.la.length cl] 25)).alloc (.cells #[.string ⟨#[]⟩, .slice none 0 0] 30)) = w1 at *
 have c0 := K1.out.cell 0
 have c0' := (K1.out.alloc (.cells (Array.replicate n (Value.bool false)) 4)).cell 0
 have W3 : Hid (SfW w w1.heap.size (w1.heap.size + 1) (List.replicate n none) #[.int .i64 (n : Int), .slice am A.mv.length cm, .slice al A.la.length cl] ((w1.alloc (.cells (Array.replicate n (Value.bool false)) 4)).alloc (.cells (madeCells #[.string ⟨#[]⟩, .slice none 0 0] (n * 2)) 30))) :=
  ⟨DoV.start w1 n, (B1.out.alloc B1.out.size _).alloc (by have := B1.out.size; simp; omega) _, (K1.out.alloc _).alloc _, (R1.out.alloc _).alloc _, by have := SZ.out; omega⟩
 go_wp2_with fail
 generalize ((w1.alloc (.cells (Array.replicate n (Value.bool false)) 4)).alloc (.cells (madeCells #[.string ⟨#[]⟩, .slice none 0 0] (n * 2)) 30)) = w3 at *
 clear c0 c0' hmk1 hmk2 B1 K1 R1
 obtain ⟨H, hH⟩ : ∃ H, H = w1.heap.size := ⟨_, rfl⟩
 obtain ⟨B, hB⟩ : ∃ B, B = w1.heap.size + 1 := ⟨_, rfl⟩
 rw [← hB, ← hH] at W3
 try rw [← hB]
 try rw [← hH]
 clear hH hB SZ
 obtain ⟨st0, hst0⟩ : ∃ st0 : Fs, st0 = List.replicate n none := ⟨_, rfl⟩
 rw [← hst0] at W3
 have HST0 := hide hst0
 clear hst0
 go_loopg [6] (rkF 100000 st0 + 1) (fun g q wr => SfI w n H B A.mv st0 #[.int .i64 (n : Int), .slice am A.mv.length cm, .slice al A.la.length cl] g q wr)
 case atStart => exact ⟨⟨st0, true, rfl, W3.out, by rw [HST0.out]; exact okF_start n, by rw [HST0.out]; simp, Nat.le_refl _, fun _ e h => h, fun h => by cases h⟩⟩
 case round =>
  obtain ⟨⟨st, b, rfl, hsw, hok, hln, hrk, hf1, hf2⟩⟩ := hrel
  have HSW := hide hsw
  have HOK := hide hok
  have HLN := hide hln
  have HRK := hide hrk
  have HF1 := hide hf1
  have HF2 := hide hf2
  clear hsw hok hln hrk hf1 hf2
  cases b with
  | false =>
   have HFIN : Hid (FinF A.mv (List.replicate n none) st) := by have h := HF2.out (by trivial); rw [HST0.out] at h; exact h
   clear HF1 HF2 HRK
   go_wp2_with fail
   obtain ⟨w4, hw4⟩ : ∃ w4, w4 = wr := ⟨_, rfl⟩
   subst hw4
   go_loopw [12, 13] (fun q i wr => SfL w H B st A.la #[.int .i64 (n : Int), .slice am A.mv.length cm, .slice al A.la.length cl] q i wr) (fun q i wr => A.la.length - (intOf i).toNat)
   case atStart => exact ⟨⟨0, Nat.zero_le _, rfl, Or.inl ⟨rfl, rfl⟩⟩, HSW.out⟩
   case round =>
    obtain ⟨⟨k, hk, rfl, hq⟩, hsw⟩ := hrel
    have SW := hide hsw
    have HQ := hide hq
    clear hsw hq
    have a2 := SW.out.bx.cell 2
    by_cases hlt : k < A.la.length
    ·have hki : (k : Int) < (A.la.length : Int) := by omega
     obtain ⟨b, o, rfl, hb, hc⟩ := HLA.out.at SW.out.bl k hlt
     obtain ⟨s, hs⟩ : ∃ s : Nat, A.la[k] = (s : Int) := ⟨A.la[k].toNat, by have := HLS.out A.la[k] (List.getElem_mem hlt); omega⟩
     have hsn : s < n := by have := HLS.out A.la[k] (List.getElem_mem hlt); omega
     have hsi : (s : Int) < (n : Int) := by omega
     have hsl : s < st.length := by rw [HLN.out]; exact hsn
     have HAT : Hid (atF st A.la[k] = st[s]) := by unfold Hid atF; rw [hs, Int.toNat_natCast, List.getElem?_eq_getElem hsl]; rfl
     have HATS : Hid (atF st (s : Int) = st[s]) := by unfold Hid atF; rw [Int.toNat_natCast, List.getElem?_eq_getElem hsl]; rfl
     have HTK := hide (bstF_take (st := st) hlt)
     obtain ⟨s1, a1, n1, c1, ⟨g0, g1, g2⟩, _, gis⟩ := SW.out.dv.get s hsl
     have KP : Hid (∀ w', Below wr.heap.size wr w' → w'.cell? ⟨H, s, none⟩ = some (.bool st[s].isSome) ∧ w'.cell? ⟨B, s * 2, none⟩ = some (.string s1) ∧ w'.cell? ⟨B, s * 2 + 1, none⟩ = some (.slice a1 n1 c1)) := fun w' hb => ⟨cell_below3 hb g0, cell_below3 hb g1, cell_below3 hb g2⟩
     have kd : Below wr.heap.size wr wr.drew := (Below.refl _ _).drew
     rw [hs] at hc
     clear hs g0 g1 g2
     go_upto_region 28 with fail
     clear hc a2
     cases hst : st[s] with
     | none =>
      rw [hst] at KP
      simp only [Option.isSome_none] at KP
      have HB : Hid (bstF st (A.la.take (k + 1)) = bstF st (A.la.take k)) := by unfold Hid; rw [HTK.out, bstS, HAT.out, hst]; simp [ahO]
      clear hst gis
      refine wp_region_held_drew (S := Below wr.heap.size wr) (by kernel_rfl) kd (fun hHeld => ?_)
      refine tkq (v := ?_) 0 rfl ?_ ?_
      rotate_left
      ·intro w' hSw
       go_simp <;> with_reducible rfl
      try simp only [Act.put, sqA, sqB, sqC, sqD, sqE, sqF]
      refine tkq (v := ?_) 1 rfl ?_ ?_
      rotate_left
      ·intro w' hSw
       go_simp <;> with_reducible rfl
      try simp only [Act.put, sqA, sqB, sqC, sqD, sqE, sqF]
      refine tkq (v := ?_) 2 rfl ?_ ?_
      rotate_left
      ·intro w' hSw
       go_simp <;> with_reducible rfl
      try simp only [Act.put, sqA, sqB, sqC, sqD, sqE, sqF]
      refine tkq (v := ?_) 3 rfl ?_ ?_
      rotate_left
      ·intro w' hSw
       obtain ⟨x0, x1, x2⟩ := KP.out w' hSw
       go_simp <;> with_reducible rfl
      try simp only [Act.put, sqA, sqB, sqC, sqD, sqE, sqF]
      refine tkq (v := ?_) 4 rfl ?_ ?_
      rotate_left
      ·intro w' hSw
       go_simp <;> with_reducible rfl
      try simp only [Act.put, sqA, sqB, sqC, sqD, sqE, sqF]
      refine wpAnyH_take (i := 5) (v := undef) rfl (by kernel_rfl) (by kernel_rfl) (by kernel_rfl) (fun _ _ _ h => h) (Or.inr ⟨by rfl, rfl⟩) (by assumption) ?_
      try simp only [Act.put, sqA, sqB, sqC, sqD, sqE, sqF]
      refine wpAnyH_take (i := 6) (v := undef) rfl (by kernel_rfl) (by kernel_rfl) (by kernel_rfl) (fun _ _ _ h => h) (Or.inr ⟨by rfl, rfl⟩) (by assumption) ?_
      try simp only [Act.put, sqA, sqB, sqC, sqD, sqE, sqF]
      refine wpAnyH_take (i := 7) (v := undef) rfl (by kernel_rfl) (by kernel_rfl) (by kernel_rfl) (fun _ _ _ h => h) (Or.inr ⟨by rfl, rfl⟩) (by assumption) ?_
      try simp only [Act.put, sqA, sqB, sqC, sqD, sqE, sqF]
      refine wpAnyH_take (i := 8) (v := undef) rfl (by kernel_rfl) (by kernel_rfl) (by kernel_rfl) (fun _ _ _ h => h) (Or.inr ⟨by rfl, rfl⟩) (by assumption) ?_
      try simp only [Act.put, sqA, sqB, sqC, sqD, sqE, sqF]
      refine wpAnyH_take (i := 9) (v := undef) rfl (by kernel_rfl) (by kernel_rfl) (by kernel_rfl) (fun _ _ _ h => h) (Or.inr ⟨by rfl, rfl⟩) (by assumption) ?_
      try simp only [Act.put, sqA, sqB, sqC, sqD, sqE, sqF]
      refine wpAnyH_take (i := 10) (v := undef) rfl (by kernel_rfl) (by kernel_rfl) (by kernel_rfl) (fun _ _ _ h => h) (Or.inr ⟨by rfl, rfl⟩) (by assumption) ?_
      try simp only [Act.put, sqA, sqB, sqC, sqD, sqE, sqF]
      refine wpAnyH_take (i := 11) (v := undef) rfl (by kernel_rfl) (by kernel_rfl) (by kernel_rfl) (fun _ _ _ h => h) (Or.inr ⟨by rfl, rfl⟩) (by assumption) ?_
      try simp only [Act.put, sqA, sqB, sqC, sqD, sqE, sqF]
      refine wpAnyH_take (i := 12) (v := undef) rfl (by kernel_rfl) (by kernel_rfl) (by kernel_rfl) (fun _ _ _ h => h) (Or.inr ⟨by rfl, rfl⟩) (by assumption) ?_
      try simp only [Act.put, sqA, sqB, sqC, sqD, sqE, sqF]
      refine wpAnyH_take (i := 13) (v := undef) rfl (by kernel_rfl) (by kernel_rfl) (by kernel_rfl) (fun _ _ _ h => h) (Or.inr ⟨by rfl, rfl⟩) (by assumption) ?_
      try simp only [Act.put, sqA, sqB, sqC, sqD, sqE, sqF]
      refine wpAnyH_take (i := 14) (v := undef) rfl (by kernel_rfl) (by kernel_rfl) (by kernel_rfl) (fun _ _ _ h => h) (Or.inr ⟨by rfl, rfl⟩) (by assumption) ?_
      try simp only [Act.put, sqA, sqB, sqC, sqD, sqE, sqF]
      refine wpAnyH_take (i := 15) (v := undef) rfl (by kernel_rfl) (by kernel_rfl) (by kernel_rfl) (fun _ _ _ h => h) (Or.inr ⟨by rfl, rfl⟩) (by assumption) ?_
      try simp only [Act.put, sqA, sqB, sqC, sqD, sqE, sqF]
      refine wpAnyH_take (i := 16) (v := undef) rfl (by kernel_rfl) (by kernel_rfl) (by kernel_rfl) (fun _ _ _ h => h) (Or.inr ⟨by rfl, rfl⟩) (by assumption) ?_
      try simp only [Act.put, sqA, sqB, sqC, sqD, sqE, sqF]
      refine wpAnyH_take (i := 17) (v := undef) rfl (by kernel_rfl) (by kernel_rfl) (by kernel_rfl) (fun _ _ _ h => h) (Or.inr ⟨by rfl, rfl⟩) (by assumption) ?_
      try simp only [Act.put, sqA, sqB, sqC, sqD, sqE, sqF]
      refine tkq (v := ?_) 18 rfl ?_ ?_
      rotate_left
      ·intro w' hSw
       go_simp <;> with_reducible rfl
      try simp only [Act.put, sqA, sqB, sqC, sqD, sqE, sqF]
      refine wpAnyH_done (by kernel_rfl) ?_ _
      go_wp2_with fail
      go_roundw
      case rel => exact ⟨⟨k + 1, by omega, by go_num, by rw [HB.out]; exact HQ.out⟩, SW.out.later kd⟩
      case measure => simp [intOf]; omega
     | some t =>
      rw [hst] at KP gis
      simp only [Option.isSome_some] at KP
      obtain ⟨rfl, rfl, hsx⟩ := gis
      have HSX := hide hsx
      have HOT : Hid (OkT t) := HOK.out A.la[k] t (by rw [HAT.out, hst])
      have HTS : Hid (atF st (s : Int) = some t) := by unfold Hid; rw [HATS.out, hst]
      have HTL : Hid (atF st A.la[k] = some t) := by unfold Hid; rw [HAT.out, hst]
      clear hst hsx
      rcases HQ.out with ⟨rfl, hbn⟩ | ⟨s', u, rfl, hs', hat', hbn⟩
      ·have HB : Hid (bstF st (A.la.take (k + 1)) = some t) := by unfold Hid; rw [HTK.out, hbn, bstS, HTL.out]; rfl
       clear hbn
       refine wp_region_held_drew (S := Below wr.heap.size wr) (by kernel_rfl) kd (fun hHeld => ?_)
       refine tkq (v := ?_) 0 rfl ?_ ?_
       rotate_left
       ·intro w' hSw
        go_simp <;> with_reducible rfl
       try simp only [Act.put, sqA, sqB, sqC, sqD, sqE, sqF]
       refine tkq (v := ?_) 1 rfl ?_ ?_
       rotate_left
       ·intro w' hSw
        go_simp <;> with_reducible rfl
       try simp only [Act.put, sqA, sqB, sqC, sqD, sqE, sqF]
       refine tkq (v := ?_) 2 rfl ?_ ?_
       rotate_left
       ·intro w' hSw
        go_simp <;> with_reducible rfl
       try simp only [Act.put, sqA, sqB, sqC, sqD, sqE, sqF]
       refine tkq (v := ?_) 3 rfl ?_ ?_
       rotate_left
       ·intro w' hSw
        obtain ⟨x0, x1, x2⟩ := KP.out w' hSw
        go_simp <;> with_reducible rfl
       try simp only [Act.put, sqA, sqB, sqC, sqD, sqE, sqF]
       refine tkq (v := ?_) 4 rfl ?_ ?_
       rotate_left
       ·intro w' hSw
        go_simp <;> with_reducible rfl
       try simp only [Act.put, sqA, sqB, sqC, sqD, sqE, sqF]
       refine tkq (v := ?_) 5 rfl ?_ ?_
       rotate_left
       ·intro w' hSw
        go_simp <;> with_reducible rfl
       try simp only [Act.put, sqA, sqB, sqC, sqD, sqE, sqF]
       refine tkq (v := ?_) 6 rfl ?_ ?_
       rotate_left
       ·intro w' hSw
        go_simp <;> with_reducible rfl
       try simp only [Act.put, sqA, sqB, sqC, sqD, sqE, sqF]
       refine tkq (v := ?_) 7 rfl ?_ ?_
       rotate_left
       ·intro w' hSw
        go_simp <;> with_reducible rfl
       try simp only [Act.put, sqA, sqB, sqC, sqD, sqE, sqF]
       refine wpAnyH_take (i := 8) (v := undef) rfl (by kernel_rfl) (by kernel_rfl) (by kernel_rfl) (fun _ _ _ h => h) (Or.inr ⟨by rfl, rfl⟩) (by assumption) ?_
       try simp only [Act.put, sqA, sqB, sqC, sqD, sqE, sqF]
       refine wpAnyH_take (i := 9) (v := undef) rfl (by kernel_rfl) (by kernel_rfl) (by kernel_rfl) (fun _ _ _ h => h) (Or.inr ⟨by rfl, rfl⟩) (by assumption) ?_
       try simp only [Act.put, sqA, sqB, sqC, sqD, sqE, sqF]
       refine wpAnyH_take (i := 10) (v := undef) rfl (by kernel_rfl) (by kernel_rfl) (by kernel_rfl) (fun _ _ _ h => h) (Or.inr ⟨by rfl, rfl⟩) (by assumption) ?_
       try simp only [Act.put, sqA, sqB, sqC, sqD, sqE, sqF]
       refine wpAnyH_take (i := 11) (v := undef) rfl (by kernel_rfl) (by kernel_rfl) (by kernel_rfl) (fun _ _ _ h => h) (Or.inr ⟨by rfl, rfl⟩) (by assumption) ?_
       try simp only [Act.put, sqA, sqB, sqC, sqD, sqE, sqF]
       refine wpAnyH_take (i := 12) (v := undef) rfl (by kernel_rfl) (by kernel_rfl) (by kernel_rfl) (fun _ _ _ h => h) (Or.inr ⟨by rfl, rfl⟩) (by assumption) ?_
       try simp only [Act.put, sqA, sqB, sqC, sqD, sqE, sqF]
       refine wpAnyH_take (i := 13) (v := undef) rfl (by kernel_rfl) (by kernel_rfl) (by kernel_rfl) (fun _ _ _ h => h) (Or.inr ⟨by rfl, rfl⟩) (by assumption) ?_
       try simp only [Act.put, sqA, sqB, sqC, sqD, sqE, sqF]
       refine wpAnyH_take (i := 14) (v := undef) rfl (by kernel_rfl) (by kernel_rfl) (by kernel_rfl) (fun _ _ _ h => h) (Or.inr ⟨by rfl, rfl⟩) (by assumption) ?_
       try simp only [Act.put, sqA, sqB, sqC, sqD, sqE, sqF]
       refine wpAnyH_take (i := 15) (v := undef) rfl (by kernel_rfl) (by kernel_rfl) (by kernel_rfl) (fun _ _ _ h => h) (Or.inr ⟨by rfl, rfl⟩) (by assumption) ?_
       try simp only [Act.put, sqA, sqB, sqC, sqD, sqE, sqF]
       refine wpAnyH_take (i := 16) (v := undef) rfl (by kernel_rfl) (by kernel_rfl) (by kernel_rfl) (fun _ _ _ h => h) (Or.inr ⟨by rfl, rfl⟩) (by assumption) ?_
       try simp only [Act.put, sqA, sqB, sqC, sqD, sqE, sqF]
       refine tkq (v := ?_) 17 rfl ?_ ?_
       rotate_left
       ·intro w' hSw
        go_simp <;> with_reducible rfl
       try simp only [Act.put, sqA, sqB, sqC, sqD, sqE, sqF]
       refine tkq (v := ?_) 18 rfl ?_ ?_
       rotate_left
       ·intro w' hSw
        go_simp <;> with_reducible rfl
       try simp only [Act.put, sqA, sqB, sqC, sqD, sqE, sqF]
       refine wpAnyH_done (by kernel_rfl) ?_ _
       go_wp2_with fail
       go_roundw
       case rel => exact ⟨⟨k + 1, by omega, by go_num, Or.inr ⟨s, t, rfl, hsl, HTS.out, HB.out⟩⟩, SW.out.later kd⟩
       case measure => simp [intOf]; omega
      ·have hsi' : (s' : Int) < (n : Int) := by have := HLN.out; omega
       have hneg : ¬ (s' : Int) < 0 := by omega
       obtain ⟨s2, a2, n2, c2, ⟨g0, g1, g2⟩, _, gis⟩ := SW.out.dv.get s' hs'
       have he : st[s'] = some u := by unfold atF at hat'; rw [Int.toNat_natCast, List.getElem?_eq_getElem hs'] at hat'; exact hat'
       rw [he] at gis
       obtain ⟨rfl, rfl, hsu⟩ := gis
       have HSU := hide hsu
       have HOU : Hid (OkT u) := HOK.out (s' : Int) u hat'
       have KQ : Hid (∀ w', Below wr.heap.size wr w' → w'.cell? ⟨B, s' * 2, none⟩ = some (.string u.name) ∧ w'.cell? ⟨B, s' * 2 + 1, none⟩ = some (.slice a2 u.args.length c2)) := fun w' hb => ⟨cell_below3 hb g1, cell_below3 hb g2⟩
       have HBT : Hid (bstF st (A.la.take (k + 1)) = if agT t u = true then some t else some u) := by unfold Hid; rw [HTK.out, hbn, bstS, HTL.out]; rfl
       have HOLD : Hid (s' < st.length ∧ atF st (s' : Int) = some u) := ⟨hs', hat'⟩
       clear hbn g0 g1 g2 hsu he hat' hs'
       refine wp_region_held_drew (S := Below wr.heap.size wr) (by kernel_rfl) kd (fun hHeld => ?_)
       refine tkq (v := ?_) 0 rfl ?_ ?_
       rotate_left
       ·intro w' hSw
        go_simp <;> with_reducible rfl
       try simp only [Act.put, sqA, sqB, sqC, sqD, sqE, sqF]
       refine tkq (v := ?_) 1 rfl ?_ ?_
       rotate_left
       ·intro w' hSw
        go_simp <;> with_reducible rfl
       try simp only [Act.put, sqA, sqB, sqC, sqD, sqE, sqF]
       refine tkq (v := ?_) 2 rfl ?_ ?_
       rotate_left
       ·intro w' hSw
        go_simp <;> with_reducible rfl
       try simp only [Act.put, sqA, sqB, sqC, sqD, sqE, sqF]
       refine tkq (v := ?_) 3 rfl ?_ ?_
       rotate_left
       ·intro w' hSw
        obtain ⟨x0, x1, x2⟩ := KP.out w' hSw
        go_simp <;> with_reducible rfl
       try simp only [Act.put, sqA, sqB, sqC, sqD, sqE, sqF]
       refine tkq (v := ?_) 4 rfl ?_ ?_
       rotate_left
       ·intro w' hSw
        go_simp <;> with_reducible rfl
       try simp only [Act.put, sqA, sqB, sqC, sqD, sqE, sqF]
       refine tkq (v := ?_) 5 rfl ?_ ?_
       rotate_left
       ·intro w' hSw
        go_simp <;> with_reducible rfl
       try simp only [Act.put, sqA, sqB, sqC, sqD, sqE, sqF]
       refine tkq (v := ?_) 6 rfl ?_ ?_
       rotate_left
       ·intro w' hSw
        go_simp <;> with_reducible rfl
       try simp only [Act.put, sqA, sqB, sqC, sqD, sqE, sqF]
       refine tkq (v := ?_) 7 rfl ?_ ?_
       rotate_left
       ·intro w' hSw
        go_simp <;> with_reducible rfl
       try simp only [Act.put, sqA, sqB, sqC, sqD, sqE, sqF]
       refine tkq (v := ?_) 8 rfl ?_ ?_
       rotate_left
       ·intro w' hSw
        go_simp <;> with_reducible rfl
       try simp only [Act.put, sqA, sqB, sqC, sqD, sqE, sqF]
       refine tkq (v := ?_) 9 rfl ?_ ?_
       rotate_left
       ·intro w' hSw
        go_simp <;> with_reducible rfl
       try simp only [Act.put, sqA, sqB, sqC, sqD, sqE, sqF]
       refine tkq (v := ?_) 10 rfl ?_ ?_
       rotate_left
       ·intro w' hSw
        go_simp <;> with_reducible rfl
       try simp only [Act.put, sqA, sqB, sqC, sqD, sqE, sqF]
       refine tkq (v := ?_) 11 rfl ?_ ?_
       rotate_left
       ·intro w' hSw
        obtain ⟨x0, x1, x2⟩ := KP.out w' hSw
        go_simp <;> with_reducible rfl
       try simp only [Act.put, sqA, sqB, sqC, sqD, sqE, sqF]
       refine tkq (v := ?_) 12 rfl ?_ ?_
       rotate_left
       ·intro w' hSw
        go_simp <;> with_reducible rfl
       try simp only [Act.put, sqA, sqB, sqC, sqD, sqE, sqF]
       refine tkq (v := ?_) 13 rfl ?_ ?_
       rotate_left
       ·intro w' hSw
        go_simp <;> with_reducible rfl
       try simp only [Act.put, sqA, sqB, sqC, sqD, sqE, sqF]
       refine tkq (v := ?_) 14 rfl ?_ ?_
       rotate_left
       ·intro w' hSw
        go_simp <;> with_reducible rfl
       try simp only [Act.put, sqA, sqB, sqC, sqD, sqE, sqF]
       refine tkq (v := ?_) 15 rfl ?_ ?_
       rotate_left
       ·intro w' hSw
        obtain ⟨x0, x1, x2⟩ := KP.out w' hSw
        obtain ⟨x3, x4⟩ := KQ.out w' hSw
        go_simp <;> with_reducible rfl
       try simp only [Act.put, sqA, sqB, sqC, sqD, sqE, sqF]
       refine rdq 16 rfl fun K hK => ?_
       go_simp
       go_at_call 37
       refine (lighter_any t u HOT.out HOU.out _ _ _ _ _ ⟨_, _, rfl, HSX.out.later kd⟩ ⟨_, _, rfl, HSU.out.later kd⟩).mono ?_
       rintro e w9 ⟨rfl, hb9⟩
       have k9 : Below wr.heap.size wr w9 := kd.trans (hb9.mono kd.size)
       clear hb9
       go_simp
       refine hK.out _ _ (by exact k9) (fun hHeld => ?_)
       clear hK K
       try simp only [Act.put, sqA, sqB, sqC, sqD, sqE, sqF]
       refine tkq (v := ?_) 17 rfl ?_ ?_
       rotate_left
       ·intro w' hSw
        go_simp <;> with_reducible rfl
       try simp only [Act.put, sqA, sqB, sqC, sqD, sqE, sqF]
       refine tkq (v := ?_) 18 rfl ?_ ?_
       rotate_left
       ·intro w' hSw
        go_simp <;> with_reducible rfl
       try simp only [Act.put, sqA, sqB, sqC, sqD, sqE, sqF]
       refine wpAnyH_done (by kernel_rfl) ?_ _
       cases hag : agT t u with
       | true =>
        have HB : Hid (bstF st (A.la.take (k + 1)) = some t) := by unfold Hid; rw [HBT.out, if_pos hag]
        clear hag
        go_wp2_with fail
        go_roundw
        case rel => exact ⟨⟨k + 1, by omega, by go_num, Or.inr ⟨s, t, rfl, hsl, HTS.out, HB.out⟩⟩, SW.out.later k9⟩
        case measure => simp [intOf]; omega
       | false =>
        have HB : Hid (bstF st (A.la.take (k + 1)) = some u) := by unfold Hid; rw [HBT.out, if_neg (by rw [hag]; decide)]
        clear hag
        go_wp2_with fail
        go_roundw
        case rel => exact ⟨⟨k + 1, by omega, by go_num, Or.inr ⟨s', u, rfl, HOLD.out.1, HOLD.out.2, HB.out⟩⟩, SW.out.later k9⟩
        case measure => simp [intOf]; omega
    ·have hki : ¬ (k : Int) < (A.la.length : Int) := by omega
     have htk : A.la.take k = A.la := List.take_of_length_le (by omega)
     rw [htk] at HQ
     have r0 := SW.out.br.cell 0
     have r1 := SW.out.br.cell 1
     have rf := SW.out.br.frozen
     have rl := SW.out.br.lt
     rcases HQ.out with ⟨rfl, hbn⟩ | ⟨s', u, rfl, hs', hat', hbn⟩
     ·have HB := hide hbn
      clear hbn
      go_wp2_with fail
      refine bodyPost_ret (v := .tuple #[.agg #[.string ⟨#[]⟩, .slice none 0 0], .bool false]) (by simp [results, Try.results18, go_sem, World.cell?_setCell_same, World.cell?_setCell_other, r0, r1, rl]) rfl ?_
      exact ⟨(SW.out.bl.setCell (p := ⟨w.heap.size + 1, 0, none⟩) (by simp) _).setCell (p := ⟨w.heap.size + 1, 1, none⟩) (by simp) _, st, HFIN.out, HOK.out, HLN.out, Or.inl ⟨HB.out, rfl⟩⟩
     ·have HB := hide hbn
      have hsi' : (s' : Int) < (n : Int) := by have := HLN.out; omega
      have hneg : ¬ (s' : Int) < 0 := by omega
      obtain ⟨s2, a3, n2, c2, ⟨g0, g1, g2⟩, _, gis⟩ := SW.out.dv.get s' hs'
      have he : st[s'] = some u := by unfold atF at hat'; rw [Int.toNat_natCast, List.getElem?_eq_getElem hs'] at hat'; exact hat'
      rw [he] at gis
      obtain ⟨rfl, rfl, hsu⟩ := gis
      have HSU := hide hsu
      have HHS := hide SW.out.hs
      clear hsu hbn
      go_wp2_with fail
      refine bodyPost_ret (v := .tuple #[.agg #[.string u.name, .slice a3 u.args.length c2], .bool true]) (by simp [results, Try.results18, go_sem, World.cell?_setCell_same, World.cell?_setCell_other, r0, r1, rl]) rfl ?_
      exact ⟨(SW.out.bl.setCell (p := ⟨w.heap.size + 1, 0, none⟩) (by simp) _).setCell (p := ⟨w.heap.size + 1, 1, none⟩) (by simp) _, st, HFIN.out, HOK.out, HLN.out, Or.inr ⟨u, a3, c2, HB.out, rfl, (HSU.out.kept fun b hb => by have hne : b ≠ w.heap.size + 1 := (by have := HHS.out; omega); rw [Below.heap_setCell _ _ _ _ (by simpa using hne), Below.heap_setCell _ _ _ _ (by simpa using hne)]).mono fun b hb _ => by have := HHS.out; omega⟩⟩
  | true =>
   go_wp2_with fail
   obtain ⟨w4, hw4⟩ : ∃ w4, w4 = wr := ⟨_, rfl⟩
   subst hw4
   go_loopw [6, 7] (fun q i wr => SfJ w H B A.mv st #[.int .i64 (n : Int), .slice am A.mv.length cm, .slice al A.la.length cl] q i wr) (fun q i wr => A.mv.length - (intOf i).toNat)
   case atStart => exact ⟨⟨0, Nat.zero_le _, rfl, rfl, HSW.out⟩⟩
   case round =>
    obtain ⟨⟨k, hk, rfl, rfl, hsw2⟩⟩ := hrel
    have SW := hide hsw2
    have OKK := hide (passF_ok (n := (n : Int)) (A.mv.take k) st HOK.out (fun m hm => HMV.out m (List.mem_of_mem_take hm)))
    have LNK : Hid ((passF st (A.mv.take k)).length = n) := by unfold Hid; rw [passF_len, HLN.out]
    clear hsw2
    have a1 := SW.out.bx.cell 1
    by_cases hlt : k < A.mv.length
    ·have hki : (k : Int) < (A.mv.length : Int) := by omega
     obtain ⟨b, o, af, cf, rfl, hb, x0, x1, x2, hpv⟩ := HM.out.get SW.out.bl k hlt
     have hmok := HMV.out A.mv[k] (List.getElem_mem hlt)
     have HMOK := hide hmok
     obtain ⟨s, hs⟩ : ∃ s : Nat, A.mv[k].to = (s : Int) := ⟨A.mv[k].to.toNat, by have := hmok.to.1; omega⟩
     have hsn : s < n := by have := hmok.to.2; omega
     have hsi : (s : Int) < (n : Int) := by omega
     have hfl := hpv.len.1
     have HPT := hide (passF_take (st := st) hlt)
     have HNT := hide (newsF_take (st := st) hlt)
     obtain ⟨sk, hsk⟩ : ∃ sk, sk = passF st (A.mv.take k) := ⟨_, rfl⟩
     obtain ⟨nw, hnw⟩ : ∃ nw, nw = newsF st (A.mv.take k) := ⟨_, rfl⟩
     rw [← hsk] at SW OKK LNK HPT HNT
     rw [← hnw] at HNT ⊢
     have hsl : s < sk.length := by rw [LNK.out]; exact hsn
     have HAT : Hid (atF sk A.mv[k].to = sk[s]) := by unfold Hid atF; rw [hs, Int.toNat_natCast, List.getElem?_eq_getElem hsl]; rfl
     have HSS := hide hs
     have O5 := hide ((one1 wr (.cells #[.string A.mv[k].name, .slice af A.mv[k].frm.length cf, .int .i64 A.mv[k].to] 40)).trans ((one1 (wr.alloc (.cells #[.string A.mv[k].name, .slice af A.mv[k].frm.length cf, .int .i64 A.mv[k].to] 40)) (.cells #[.string A.mv[k].name, .slice none 0 0] 30)).mono (by simp)))
     have P5 := hide hpv
     have M5 : Hid (SfT wr H B wr.heap.size #[.string A.mv[k].name, .slice af A.mv[k].frm.length cf, .int .i64 A.mv[k].to] A.mv[k].name (.slice none 0 0) [] [] ((wr.alloc (.cells #[.string A.mv[k].name, .slice af A.mv[k].frm.length cf, .int .i64 A.mv[k].to] 40)).alloc (.cells #[.string A.mv[k].name, .slice none 0 0] 30))) := by
      refine ⟨Row.start _ _ _ _, O5.out, (Blk.new _ _ _).alloc _, ?_⟩
      have h := Blk.new (wr.alloc (.cells #[.string A.mv[k].name, .slice af A.mv[k].frm.length cf, .int .i64 A.mv[k].to] 40)) #[.string A.mv[k].name, .slice none 0 0] 30
      rw [World.size_alloc] at h
      exact h
     have m0 := (Blk.new wr #[.string A.mv[k].name, .slice af A.mv[k].frm.length cf, .int .i64 A.mv[k].to] 40).cell 0
     clear hpv hmok hs hsk hnw
     go_upto_region 11 with fail
     generalize ((wr.alloc (.cells #[.string A.mv[k].name, .slice af A.mv[k].frm.length cf, .int .i64 A.mv[k].to] 40)).alloc (.cells #[.string A.mv[k].name, .slice none 0 0] 30)) = w6 at *
     obtain ⟨w5, hw5⟩ : ∃ w5, w5 = wr := ⟨_, rfl⟩
     subst hw5
     obtain ⟨D, hD⟩ : ∃ D, D = w5.heap.size := ⟨_, rfl⟩
     rw [← hD] at M5 ⊢
     have HD := hide hD
     clear hD x0 x1 x2 m0 a1
     go_wp2_with fail
     go_loopw [10, 11] (fun q i wr => SfK w5 H B D #[.string A.mv[k].name, .slice af A.mv[k].frm.length cf, .int .i64 A.mv[k].to] A.mv[k].name sk A.mv[k].frm q i wr) (fun q i wr => A.mv[k].frm.length - (intOf i).toNat)
     case atStart => exact ⟨⟨0, true, .slice none 0 0, [], [], Nat.zero_le _, rfl, rfl, fun _ => rfl, (fun h => by cases h), by simp, M5.out⟩⟩
     case round =>
      obtain ⟨⟨j, b, uv, l, xs, hj, rfl, rfl, hb1, hb2, hll2, hst⟩⟩ := hrel
      have HB1 := hide hb1
      have HB2 := hide hb2
      have HT := hide hst
      have HLL := hide hll2
      have BW := hide (SW.out.later (Below_up HD.out hst.bl))
      have BU : Hid (Below w5.heap.size w5 wr) := Below_up HD.out hst.bl
      clear hb1 hb2 hst hll2
      have k1 := HT.out.ka.cell 1
      by_cases hjt : j < A.mv[k].frm.length
      ·have hji : (j : Int) < (A.mv[k].frm.length : Int) := by omega
       cases b with
       | false =>
        go_wp2_with fail
        go_roundw
        case rel => exact ⟨⟨j + 1, false, uv, l, xs, by omega, by go_num, rfl, (fun h => by cases h), fun _ => HB2.out (by trivial), by have := HLL.out; omega, HT.out⟩⟩
        case measure => simp [intOf]; omega
       | true =>
        obtain ⟨b2, o2, rfl, hb2, hc2⟩ := P5.out.at BU.out j hjt
        obtain ⟨s2, hs2⟩ : ∃ s2 : Nat, A.mv[k].frm[j] = (s2 : Int) := ⟨(A.mv[k].frm[j]).toNat, by have := HMOK.out.frm _ (List.getElem_mem hjt); omega⟩
        have hs2n : s2 < n := by have := HMOK.out.frm _ (List.getElem_mem hjt); omega
        have hs2i : (s2 : Int) < (n : Int) := by omega
        have hs2l : s2 < sk.length := by rw [LNK.out]; exact hs2n
        have HAT2 : Hid (atF sk A.mv[k].frm[j] = sk[s2]) := by unfold Hid atF; rw [hs2, Int.toNat_natCast, List.getElem?_eq_getElem hs2l]; rfl
        have HTK := hide (argO_take (st := sk) hjt)
        have HNO := hide (argO_none (st := sk) hjt)
        obtain ⟨s3, a3, n3, c3, ⟨g0, g1, g2⟩, ⟨_, _, hHl, hBl⟩, gis⟩ := SW.out.dv.get s2 hs2l
        have y0 := cell_below3 BU.out g0
        have y1 := cell_below3 BU.out g1
        have y2 := cell_below3 BU.out g2
        rw [hs2] at hc2
        clear g0 g1 g2 hs2
        cases hst : sk[s2] with
        | none =>
         have HN : Hid (argO sk A.mv[k].frm = none) := HNO.out (by rw [HAT2.out, hst])
         rw [hst] at y0
         simp only [Option.isSome_none] at y0
         clear hst gis
         go_wp2_with fail
         go_roundw
         case rel => exact ⟨⟨j + 1, false, uv, l, xs, by omega, by go_num, rfl, (fun h => by cases h), fun _ => HN.out, by have := HLL.out; omega, HT.out⟩⟩
         case measure => simp [intOf]; omega
        | some t =>
         rw [hst] at y0 gis
         simp only [Option.isSome_some] at y0
         obtain ⟨rfl, rfl, hsl5⟩ := gis
         have HT1 : Hid (argO sk (A.mv[k].frm.take (j + 1)) = some (l ++ [t])) := by unfold Hid; rw [HTK.out, HB1.out (by trivial), HAT2.out, hst]
         have GS : Hid (Sl wr (fun b => (H < b ∧ B < b) ∧ b < D) a3 t.args) := (hsl5.mono (Y := fun b => (H < b ∧ B < b) ∧ b < D) fun b h1 h2 => ⟨h1, by have := HD.out; omega⟩).later BU.out
         have kd : Below wr.heap.size wr wr.drew := (Below.refl _ _).drew
         obtain ⟨g, cap, w7, hap, ⟨hc5, hf5, hl5⟩, hk5, hset⟩ := sf_round (t := t) (c5 := c3) (HT.out.later kd) (by have := HLL.out; have := HMOK.out.len; omega) (GS.out.later kd)
         have HAP := hide hap
         have HSET := hide hset
         have ob : wr.drew.cell? ⟨D + 1, 1, none⟩ = some uv := HT.out.out.cell 1
         have ob2 : (wr.drew.alloc (.cells #[.string t.name, .slice a3 t.args.length c3] 30)).cell? ⟨D + 1, 1, none⟩ = some uv := ((HT.out.later kd).out.alloc _).cell 1
         have S0 : Hid (wr.drew.cell? ⟨D, 1, none⟩ = some (.slice (some ⟨b2, o2, none⟩) A.mv[k].frm.length cf) ∧ wr.drew.cell? ⟨b2, o2 + j, none⟩ = some (.int .i64 (s2 : Int)) ∧ wr.drew.cell? ⟨B, s2 * 2, none⟩ = some (.string t.name) ∧ wr.drew.cell? ⟨B, s2 * 2 + 1, none⟩ = some (.slice a3 t.args.length c3)) := ⟨k1, hc2, y1, y2⟩
         have KPS : Hid (∀ w' : World, w'.heap[D]? = wr.heap[D]? → w'.heap[b2]? = wr.heap[b2]? → w'.heap[B]? = wr.heap[B]? → (fun w' => w'.cell? ⟨D, 1, none⟩ = some (.slice (some ⟨b2, o2, none⟩) A.mv[k].frm.length cf) ∧ w'.cell? ⟨b2, o2 + j, none⟩ = some (.int .i64 (s2 : Int)) ∧ w'.cell? ⟨B, s2 * 2, none⟩ = some (.string t.name) ∧ w'.cell? ⟨B, s2 * 2 + 1, none⟩ = some (.slice a3 t.args.length c3)) w') := fun w' h1 h2 h3 => ⟨(World.cell?_of_block (a := ⟨D, 1, none⟩) h1).trans S0.out.1, (World.cell?_of_block (a := ⟨b2, o2 + j, none⟩) h2).trans S0.out.2.1, (World.cell?_of_block (a := ⟨B, s2 * 2, none⟩) h3).trans S0.out.2.2.1, (World.cell?_of_block (a := ⟨B, s2 * 2 + 1, none⟩) h3).trans S0.out.2.2.2⟩
         have hDw : D < wr.heap.size := HT.out.ka.lt
         have hb2D : b2 < D := by have := HD.out; omega
         have hBD : B < D := by have := HD.out; omega
         have SA := hide (KPS.out (wr.drew.alloc (.cells #[.string t.name, .slice a3 t.args.length c3] 30)) (Below.heap_alloc wr.drew _ _ hDw) (Below.heap_alloc wr.drew _ _ (by show b2 < wr.heap.size; omega)) (Below.heap_alloc wr.drew _ _ (by show B < wr.heap.size; omega)))
         have SB := hide (KPS.out _ (hk5 D (by omega)).1 (hk5 b2 (by omega)).1 (hk5 B (by omega)).1)
         have SC := hide (KPS.out _ (hk5 D (by omega)).2 (hk5 b2 (by omega)).2 (hk5 B (by omega)).2)
         clear hst hap hset hk5 KPS hsl5
         go_upto_region 17 with fail
         refine wp_region_held_drew (S := (fun w' => w'.cell? ⟨D, 1, none⟩ = some (.slice (some ⟨b2, o2, none⟩) A.mv[k].frm.length cf) ∧ w'.cell? ⟨b2, o2 + j, none⟩ = some (.int .i64 (s2 : Int)) ∧ w'.cell? ⟨B, s2 * 2, none⟩ = some (.string t.name) ∧ w'.cell? ⟨B, s2 * 2 + 1, none⟩ = some (.slice a3 t.args.length c3))) (by kernel_rfl) S0.out (fun hHeld => ?_)
         generalize wr.drew = wd at *
         refine tkq (v := ?_) 0 rfl ?_ ?_
         rotate_left
         ·intro w' hSw
          go_simp <;> with_reducible rfl
         try simp only [Act.put, sqA, sqB, sqC, sqD, sqE, sqF]
         refine tkq (v := ?_) 2 rfl ?_ ?_
         rotate_left
         ·intro w' hSw
          go_simp <;> with_reducible rfl
         try simp only [Act.put, sqA, sqB, sqC, sqD, sqE, sqF]
         refine tkq (v := ?_) 3 rfl ?_ ?_
         rotate_left
         ·intro w' hSw
          go_simp <;> with_reducible rfl
         try simp only [Act.put, sqA, sqB, sqC, sqD, sqE, sqF]
         refine tkq (v := ?_) 4 rfl ?_ ?_
         rotate_left
         ·intro w' hSw
          obtain ⟨x0, x1, x2, x3⟩ := hSw
          go_simp <;> with_reducible rfl
         try simp only [Act.put, sqA, sqB, sqC, sqD, sqE, sqF]
         refine tkq (v := ?_) 5 rfl ?_ ?_
         rotate_left
         ·intro w' hSw
          go_simp <;> with_reducible rfl
         try simp only [Act.put, sqA, sqB, sqC, sqD, sqE, sqF]
         refine tkq (v := ?_) 6 rfl ?_ ?_
         rotate_left
         ·intro w' hSw
          go_simp <;> with_reducible rfl
         try simp only [Act.put, sqA, sqB, sqC, sqD, sqE, sqF]
         refine tkq (v := ?_) 7 rfl ?_ ?_
         rotate_left
         ·intro w' hSw
          obtain ⟨x0, x1, x2, x3⟩ := hSw
          go_simp <;> with_reducible rfl
         try simp only [Act.put, sqA, sqB, sqC, sqD, sqE, sqF]
         refine tkq (v := ?_) 8 rfl ?_ ?_
         rotate_left
         ·intro w' hSw
          go_simp <;> with_reducible rfl
         try simp only [Act.put, sqA, sqB, sqC, sqD, sqE, sqF]
         refine tkq (v := ?_) 9 rfl ?_ ?_
         rotate_left
         ·intro w' hSw
          obtain ⟨x0, x1, x2, x3⟩ := hSw
          go_simp <;> with_reducible rfl
         try simp only [Act.put, sqA, sqB, sqC, sqD, sqE, sqF]
         refine wpAnyH_ready (rs := [1, 10]) (by kernel_rfl) (by simp) ?_
         refine AllReadyH.cons rfl (fun K hK => ?_) (AllReadyH.cons rfl (fun K hK => ?_) AllReadyH.nil)
         ·go_simp
          refine hK.out _ _ (by exact S0.out) (fun hHeld => ?_)
          clear hK K
          try simp only [Act.put, sqA, sqB, sqC, sqD, sqE, sqF]
          refine rdq 10 rfl fun K hK => ?_
          go_simp
          refine hK.out _ _ (by exact SA.out) (fun hHeld => ?_)
          clear hK K
          try simp only [Act.put, sqA, sqB, sqC, sqD, sqE, sqF]
          refine rdq 11 rfl fun K hK => ?_
          refine step_append_eqM rfl _ _ _ _ rfl rfl rfl HAP.out ?_
          refine hK.out _ _ (by exact SB.out) (fun hHeld => ?_)
          clear hK K
          try simp only [Act.put, sqA, sqB, sqC, sqD, sqE, sqF]
          refine tkq (v := ?_) 12 rfl ?_ ?_
          rotate_left
          ·intro w' hSw
           go_simp <;> with_reducible rfl
          try simp only [Act.put, sqA, sqB, sqC, sqD, sqE, sqF]
          refine rdq 13 rfl fun K hK => ?_
          go_simp
          refine hK.out _ _ (by exact SC.out) (fun hHeld => ?_)
          clear hK K
          try simp only [Act.put, sqA, sqB, sqC, sqD, sqE, sqF]
          refine wpAnyH_done (by kernel_rfl) ?_ _
          clear ob ob2 hc5 hf5 hl5
          go_wp2_with fail
          go_roundw
          case rel => exact ⟨⟨j + 1, true, _, l ++ [t], _, by omega, by go_num, rfl, fun _ => HT1.out, (fun h => by cases h), by have := HLL.out; simp; omega, HSET.out⟩⟩
          case measure => simp [intOf]; omega
         ·go_simp
          refine hK.out _ _ (by exact SA.out) (fun hHeld => ?_)
          clear hK K
          try simp only [Act.put, sqA, sqB, sqC, sqD, sqE, sqF]
          refine rdq 1 rfl fun K hK => ?_
          go_simp
          refine hK.out _ _ (by exact SA.out) (fun hHeld => ?_)
          clear hK K
          try simp only [Act.put, sqA, sqB, sqC, sqD, sqE, sqF]
          refine rdq 11 rfl fun K hK => ?_
          refine step_append_eqM rfl _ _ _ _ rfl rfl rfl HAP.out ?_
          refine hK.out _ _ (by exact SB.out) (fun hHeld => ?_)
          clear hK K
          try simp only [Act.put, sqA, sqB, sqC, sqD, sqE, sqF]
          refine tkq (v := ?_) 12 rfl ?_ ?_
          rotate_left
          ·intro w' hSw
           go_simp <;> with_reducible rfl
          try simp only [Act.put, sqA, sqB, sqC, sqD, sqE, sqF]
          refine rdq 13 rfl fun K hK => ?_
          go_simp
          refine hK.out _ _ (by exact SC.out) (fun hHeld => ?_)
          clear hK K
          try simp only [Act.put, sqA, sqB, sqC, sqD, sqE, sqF]
          refine wpAnyH_done (by kernel_rfl) ?_ _
          clear ob ob2 hc5 hf5 hl5
          go_wp2_with fail
          go_roundw
          case rel => exact ⟨⟨j + 1, true, _, l ++ [t], _, by omega, by go_num, rfl, fun _ => HT1.out, (fun h => by cases h), by have := HLL.out; simp; omega, HSET.out⟩⟩
          case measure => simp [intOf]; omega
      ·have hji : ¬ (j : Int) < (A.mv[k].frm.length : Int) := by omega
       cases b with
       | false =>
        have HNB : Hid (stepF sk A.mv[k] = sk ∧ (newM sk A.mv[k]).isSome = false) := by
         have h1 := byM_no (m := A.mv[k]) (HB2.out (by trivial))
         exact step_no (by rw [h1]; rfl)
        go_wp2_with fail
        go_roundw
        case rel => exact ⟨⟨k + 1, by omega, by go_num, by rw [HNT.out, HNB.out.2, Bool.or_false], by rw [HPT.out, HNB.out.1]; exact BW.out⟩⟩
        case measure => simp [intOf]; omega
       | true =>
        have HAR : Hid (argO sk A.mv[k].frm = some l) := by have h := HB1.out (by trivial); rw [List.take_of_length_le (by omega)] at h; exact h
        have HBY := hide (byM_of HAR.out)
        obtain ⟨ae, ce, rfl, hse⟩ := HT.out.row.sl
        obtain ⟨tt, htt⟩ : ∃ tt : Tm, tt = ⟨A.mv[k].name, l⟩ := ⟨_, rfl⟩
        have htn : A.mv[k].name = tt.name := by rw [htt]
        have hta : l = tt.args := by rw [htt]
        have HTT := hide htt
        have HTN := hide htn
        have HHB : Hid (H < D ∧ B < D) := by
         obtain ⟨_, _, _, _, _, ⟨_, _, h1, h2⟩, _⟩ := SW.out.dv.get s hsl
         have := HD.out
         exact ⟨by omega, by omega⟩
        have HBD := hide HHB.out
        have HSE0 : Hid (Sl wr (fun b => H < b ∧ B < b) ae tt.args) := by rw [hta] at hse; exact hse.mono fun b h _ => by have := HHB.out; omega
        have EB : Hid (Blk wr (D + 1) #[.string tt.name, .slice ae tt.args.length ce] 30) := by have h := HT.out.out; rw [htn, hta] at h; exact h
        have DB := hide HT.out.ka
        have HL : Hid (l = tt.args) := hta
        have HSZ : Hid (sizeL [tt] = 1 + sizeL l) := by unfold Hid; rw [htt]; simp [sizeL]
        rw [hta] at HBY
        clear hse hta htn htt HB1 HB2
        have e0 := EB.out.cell 0
        have e1 := EB.out.cell 1
        go_upto_region 18 with fail
        go_wp2_with fail
        refine (size_any tt _ 2000 _ _ ⟨ae, ce, rfl, HSE0.out⟩ (by omega) (by omega)).mono ?_
        rintro e w8 ⟨rfl, hb8⟩
        have SW8 := hide (BW.out.later hb8)
        have E8 := hide (EB.out.below hb8 EB.out.lt)
        have D8 := hide (DB.out.below hb8 DB.out.lt)
        have HSE := hide (HSE0.out.later hb8)
        clear hb8 e0 e1 k1
        by_cases hgt : 2000 < sizeL [tt]
        ·rw [show min ((sizeL [tt] : Nat) : Int) (2000 + 1) = 2001 by omega]
         have HNB : Hid (stepF sk A.mv[k] = sk ∧ (newM sk A.mv[k]).isSome = false) := by
          have h1 : byM sk A.mv[k] = none := by rw [HBY.out, if_pos (by have := HSZ.out; rw [← HL.out]; omega)]
          exact step_no (by rw [h1]; rfl)
         clear hgt
         go_wp2_with fail
         go_roundw
         case rel => exact ⟨⟨k + 1, by omega, by go_num, by rw [HNT.out, HNB.out.2, Bool.or_false], by rw [HPT.out, HNB.out.1]; exact SW8.out⟩⟩
         case measure => simp [intOf]; omega
        ·obtain ⟨zz, hzz⟩ : ∃ zz : Int, zz = min ((sizeL [tt] : Nat) : Int) (2000 + 1) := ⟨_, rfl⟩
         have hzg : ¬ 2000 < zz := by omega
         rw [← hzz]
         have HB3 : Hid (byM sk A.mv[k] = some tt) := by unfold Hid; rw [HBY.out, if_neg (by have := HSZ.out; rw [← HL.out]; omega), HTT.out, HL.out, HTT.out]
         have HOT := hide (byM_ok OKK.out HMOK.out HB3.out)
         clear hgt hzz
         go_upto_region 19 with fail
         obtain ⟨s4, a4, n4, c4, ⟨g0, g1, g2⟩, _, gis⟩ := SW8.out.dv.get s hsl
         have KP : Hid (∀ w', Below w8.heap.size w8 w' → w'.cell? ⟨D, 2, none⟩ = some (.int .i64 (s : Int)) ∧ w'.cell? ⟨H, s, none⟩ = some (.bool sk[s].isSome) ∧ w'.cell? ⟨B, s * 2, none⟩ = some (.string s4) ∧ w'.cell? ⟨B, s * 2 + 1, none⟩ = some (.slice a4 n4 c4) ∧ w'.cell? ⟨D + 1, 0, none⟩ = some (.string tt.name) ∧ w'.cell? ⟨D + 1, 1, none⟩ = some (.slice ae tt.args.length ce)) := fun w' hb =>
          ⟨by rw [← HSS.out]; exact (D8.out.below hb D8.out.lt).cell 2, cell_below3 hb g0, cell_below3 hb g1, cell_below3 hb g2, (E8.out.below hb E8.out.lt).cell 0, (E8.out.below hb E8.out.lt).cell 1⟩
         have kd : Below w8.heap.size w8 w8.drew := (Below.refl _ _).drew
         clear g0 g1 g2
         cases hst : sk[s] with
         | none =>
          rw [hst] at KP
          simp only [Option.isSome_none] at KP
          have h1 := step_yes (st := sk) (m := A.mv[k]) (by rw [HAT.out, hst, HB3.out]; rfl)
          have HST : Hid (stepF sk A.mv[k] = sk.set s (some tt)) := by have h2 := h1.1; rw [HSS.out, Int.toNat_natCast, HB3.out] at h2; exact h2
          have HNW : Hid ((newM sk A.mv[k]).isSome = true) := h1.2
          clear hst h1 gis
          refine wp_region_held_drew (S := Below w8.heap.size w8) (by kernel_rfl) kd (fun hHeld => ?_)
          refine tkq (v := ?_) 0 rfl ?_ ?_
          rotate_left
          ·intro w' hSw
           go_simp <;> with_reducible rfl
          try simp only [Act.put, sqA, sqB, sqC, sqD, sqE, sqF]
          refine tkq (v := ?_) 1 rfl ?_ ?_
          rotate_left
          ·intro w' hSw
           go_simp <;> with_reducible rfl
          try simp only [Act.put, sqA, sqB, sqC, sqD, sqE, sqF]
          refine tkq (v := ?_) 2 rfl ?_ ?_
          rotate_left
          ·intro w' hSw
           obtain ⟨x0, x1, x2, x3, x4, x5⟩ := KP.out w' hSw
           go_simp <;> with_reducible rfl
          try simp only [Act.put, sqA, sqB, sqC, sqD, sqE, sqF]
          refine tkq (v := ?_) 3 rfl ?_ ?_
          rotate_left
          ·intro w' hSw
           go_simp <;> with_reducible rfl
          try simp only [Act.put, sqA, sqB, sqC, sqD, sqE, sqF]
          refine tkq (v := ?_) 4 rfl ?_ ?_
          rotate_left
          ·intro w' hSw
           obtain ⟨x0, x1, x2, x3, x4, x5⟩ := KP.out w' hSw
           go_simp <;> with_reducible rfl
          try simp only [Act.put, sqA, sqB, sqC, sqD, sqE, sqF]
          refine tkq (v := ?_) 5 rfl ?_ ?_
          rotate_left
          ·intro w' hSw
           go_simp <;> with_reducible rfl
          try simp only [Act.put, sqA, sqB, sqC, sqD, sqE, sqF]
          refine tkq (v := ?_) 6 rfl ?_ ?_
          rotate_left
          ·intro w' hSw
           go_simp <;> with_reducible rfl
          try simp only [Act.put, sqA, sqB, sqC, sqD, sqE, sqF]
          refine wpAnyH_take (i := 7) (v := undef) rfl (by kernel_rfl) (by kernel_rfl) (by kernel_rfl) (fun _ _ _ h => h) (Or.inr ⟨by rfl, rfl⟩) (by assumption) ?_
          try simp only [Act.put, sqA, sqB, sqC, sqD, sqE, sqF]
          refine wpAnyH_take (i := 8) (v := undef) rfl (by kernel_rfl) (by kernel_rfl) (by kernel_rfl) (fun _ _ _ h => h) (Or.inr ⟨by rfl, rfl⟩) (by assumption) ?_
          try simp only [Act.put, sqA, sqB, sqC, sqD, sqE, sqF]
          refine wpAnyH_take (i := 9) (v := undef) rfl (by kernel_rfl) (by kernel_rfl) (by kernel_rfl) (fun _ _ _ h => h) (Or.inr ⟨by rfl, rfl⟩) (by assumption) ?_
          try simp only [Act.put, sqA, sqB, sqC, sqD, sqE, sqF]
          refine wpAnyH_take (i := 10) (v := undef) rfl (by kernel_rfl) (by kernel_rfl) (by kernel_rfl) (fun _ _ _ h => h) (Or.inr ⟨by rfl, rfl⟩) (by assumption) ?_
          try simp only [Act.put, sqA, sqB, sqC, sqD, sqE, sqF]
          refine wpAnyH_take (i := 11) (v := undef) rfl (by kernel_rfl) (by kernel_rfl) (by kernel_rfl) (fun _ _ _ h => h) (Or.inr ⟨by rfl, rfl⟩) (by assumption) ?_
          try simp only [Act.put, sqA, sqB, sqC, sqD, sqE, sqF]
          refine wpAnyH_take (i := 12) (v := undef) rfl (by kernel_rfl) (by kernel_rfl) (by kernel_rfl) (fun _ _ _ h => h) (Or.inr ⟨by rfl, rfl⟩) (by assumption) ?_
          try simp only [Act.put, sqA, sqB, sqC, sqD, sqE, sqF]
          refine wpAnyH_take (i := 13) (v := undef) rfl (by kernel_rfl) (by kernel_rfl) (by kernel_rfl) (fun _ _ _ h => h) (Or.inr ⟨by rfl, rfl⟩) (by assumption) ?_
          try simp only [Act.put, sqA, sqB, sqC, sqD, sqE, sqF]
          refine tkq (v := ?_) 14 rfl ?_ ?_
          rotate_left
          ·intro w' hSw
           go_simp <;> with_reducible rfl
          try simp only [Act.put, sqA, sqB, sqC, sqD, sqE, sqF]
          refine wpAnyH_done (by kernel_rfl) ?_ _
          generalize w8.drew = wd at *
          have SW9 := hide (SW8.out.later kd)
          have E9 := hide (E8.out.below kd E8.out.lt)
          have D9 := hide (D8.out.below kd D8.out.lt)
          have S9 : Hid (Sl wd (fun b => H < b ∧ B < b) ae tt.args) := HSE.out.later kd
          obtain ⟨s5, a5, n5, c5, ⟨h0, h1, h2⟩, ⟨hf1, hf2, hl1, hl2⟩, _⟩ := SW9.out.dv.get s hsl
          have e0 := E9.out.cell 0
          have e1 := E9.out.cell 1
          have d2 : wd.cell? ⟨D, 2, none⟩ = some (.int .i64 (s : Int)) := by rw [← HSS.out]; exact D9.out.cell 2
          have hED : D + 1 ≠ H ∧ D + 1 ≠ B ∧ D ≠ H ∧ D ≠ B := by have := HBD.out; omega
          have e0' := (E9.out.setOther (b' := H) s (.bool true) hED.1).cell 0
          have e1' := (E9.out.setOther (b' := H) s (.bool true) hED.1).cell 1
          have d2' : (wd.setCell ⟨H, s, none⟩ (.bool true)).cell? ⟨D, 2, none⟩ = some (.int .i64 (s : Int)) := by rw [← HSS.out]; exact (D9.out.setOther (b' := H) s (.bool true) hED.2.2.1).cell 2
          have hHB : H ≠ B := SW9.out.dv.ne
          have PUT := hide (SW9.out.dv.put (c := ce) hsl S9.out)
          have HHS := hide SW9.out.hs
          go_wp2_with fail
          go_roundw
          case rel => exact ⟨⟨k + 1, by omega, by go_num, by rw [HNT.out, HNW.out, Bool.or_true], by rw [HPT.out, HST.out]; exact ⟨PUT.out, ((SW9.out.bl.setCell (p := ⟨H, s, none⟩) (by have := HHS.out; simp; omega) _).setCell (p := ⟨B, s * 2, none⟩) (by have := HHS.out; simp; omega) _).setCell (p := ⟨B, s * 2 + 1, none⟩) (by have := HHS.out; simp; omega) _, ((SW9.out.bx.setOther (b' := H) _ _ (by have := HHS.out; omega)).setOther (b' := B) _ _ (by have := HHS.out; omega)).setOther (b' := B) _ _ (by have := HHS.out; omega), ((SW9.out.br.setOther (b' := H) _ _ (by have := HHS.out; omega)).setOther (b' := B) _ _ (by have := HHS.out; omega)).setOther (b' := B) _ _ (by have := HHS.out; omega), SW9.out.hs⟩⟩⟩
          case measure => simp [intOf]; omega
         | some u =>
          rw [hst] at KP gis
          simp only [Option.isSome_some] at KP
          obtain ⟨rfl, rfl, hsu⟩ := gis
          have HSU := hide hsu
          have HOU : Hid (OkT u) := OKK.out A.mv[k].to u (by rw [HAT.out, hst])
          have HYES : Hid (agT tt u = true → stepF sk A.mv[k] = sk.set s (some tt) ∧ (newM sk A.mv[k]).isSome = true) := fun h => by
           have h1 := step_yes (st := sk) (m := A.mv[k]) (by rw [HAT.out, hst, HB3.out]; exact h)
           rw [HSS.out, Int.toNat_natCast, HB3.out] at h1
           exact h1
          have HNOO : Hid (agT tt u = false → stepF sk A.mv[k] = sk ∧ (newM sk A.mv[k]).isSome = false) := fun h => step_no (st := sk) (m := A.mv[k]) (by rw [HAT.out, hst, HB3.out]; exact h)
          clear hst hsu
          refine wp_region_held_drew (S := Below w8.heap.size w8) (by kernel_rfl) kd (fun hHeld => ?_)
          refine tkq (v := ?_) 0 rfl ?_ ?_
          rotate_left
          ·intro w' hSw
           go_simp <;> with_reducible rfl
          try simp only [Act.put, sqA, sqB, sqC, sqD, sqE, sqF]
          refine tkq (v := ?_) 1 rfl ?_ ?_
          rotate_left
          ·intro w' hSw
           go_simp <;> with_reducible rfl
          try simp only [Act.put, sqA, sqB, sqC, sqD, sqE, sqF]
          refine tkq (v := ?_) 2 rfl ?_ ?_
          rotate_left
          ·intro w' hSw
           obtain ⟨x0, x1, x2, x3, x4, x5⟩ := KP.out w' hSw
           go_simp <;> with_reducible rfl
          try simp only [Act.put, sqA, sqB, sqC, sqD, sqE, sqF]
          refine tkq (v := ?_) 3 rfl ?_ ?_
          rotate_left
          ·intro w' hSw
           go_simp <;> with_reducible rfl
          try simp only [Act.put, sqA, sqB, sqC, sqD, sqE, sqF]
          refine tkq (v := ?_) 4 rfl ?_ ?_
          rotate_left
          ·intro w' hSw
           obtain ⟨x0, x1, x2, x3, x4, x5⟩ := KP.out w' hSw
           go_simp <;> with_reducible rfl
          try simp only [Act.put, sqA, sqB, sqC, sqD, sqE, sqF]
          refine tkq (v := ?_) 5 rfl ?_ ?_
          rotate_left
          ·intro w' hSw
           go_simp <;> with_reducible rfl
          try simp only [Act.put, sqA, sqB, sqC, sqD, sqE, sqF]
          refine tkq (v := ?_) 6 rfl ?_ ?_
          rotate_left
          ·intro w' hSw
           go_simp <;> with_reducible rfl
          try simp only [Act.put, sqA, sqB, sqC, sqD, sqE, sqF]
          refine tkq (v := ?_) 7 rfl ?_ ?_
          rotate_left
          ·intro w' hSw
           obtain ⟨x0, x1, x2, x3, x4, x5⟩ := KP.out w' hSw
           go_simp <;> with_reducible rfl
          try simp only [Act.put, sqA, sqB, sqC, sqD, sqE, sqF]
          refine tkq (v := ?_) 8 rfl ?_ ?_
          rotate_left
          ·intro w' hSw
           go_simp <;> with_reducible rfl
          try simp only [Act.put, sqA, sqB, sqC, sqD, sqE, sqF]
          refine tkq (v := ?_) 9 rfl ?_ ?_
          rotate_left
          ·intro w' hSw
           go_simp <;> with_reducible rfl
          try simp only [Act.put, sqA, sqB, sqC, sqD, sqE, sqF]
          refine tkq (v := ?_) 10 rfl ?_ ?_
          rotate_left
          ·intro w' hSw
           obtain ⟨x0, x1, x2, x3, x4, x5⟩ := KP.out w' hSw
           go_simp <;> with_reducible rfl
          try simp only [Act.put, sqA, sqB, sqC, sqD, sqE, sqF]
          refine tkq (v := ?_) 11 rfl ?_ ?_
          rotate_left
          ·intro w' hSw
           go_simp <;> with_reducible rfl
          try simp only [Act.put, sqA, sqB, sqC, sqD, sqE, sqF]
          refine tkq (v := ?_) 12 rfl ?_ ?_
          rotate_left
          ·intro w' hSw
           obtain ⟨x0, x1, x2, x3, x4, x5⟩ := KP.out w' hSw
           go_simp <;> with_reducible rfl
          try simp only [Act.put, sqA, sqB, sqC, sqD, sqE, sqF]
          refine rdq 13 rfl fun K hK => ?_
          go_simp
          go_at_call 37
          refine (lighter_any tt u HOT.out HOU.out _ _ _ _ _ ⟨ae, ce, rfl, HSE.out.later kd⟩ ⟨_, _, rfl, HSU.out.later kd⟩).mono ?_
          rintro e w9 ⟨rfl, hb9⟩
          have k9 : Below w8.heap.size w8 w9 := kd.trans (hb9.mono kd.size)
          clear hb9
          go_simp
          refine hK.out _ _ (by exact k9) (fun hHeld => ?_)
          clear hK K
          try simp only [Act.put, sqA, sqB, sqC, sqD, sqE, sqF]
          refine tkq (v := ?_) 14 rfl ?_ ?_
          rotate_left
          ·intro w' hSw
           go_simp <;> with_reducible rfl
          try simp only [Act.put, sqA, sqB, sqC, sqD, sqE, sqF]
          refine wpAnyH_done (by kernel_rfl) ?_ _
          cases hag : agT tt u with
          | true =>
           have HST : Hid (stepF sk A.mv[k] = sk.set s (some tt)) := (HYES.out hag).1
           have HNW : Hid ((newM sk A.mv[k]).isSome = true) := (HYES.out hag).2
           clear hag
           have SW9 := hide (SW8.out.later k9)
           have E9 := hide (E8.out.below k9 E8.out.lt)
           have D9 := hide (D8.out.below k9 D8.out.lt)
           have S9 : Hid (Sl w9 (fun b => H < b ∧ B < b) ae tt.args) := HSE.out.later k9
           obtain ⟨s5, a5, n5, c5, ⟨h0, h1, h2⟩, ⟨hf1, hf2, hl1, hl2⟩, _⟩ := SW9.out.dv.get s hsl
           have e0 := E9.out.cell 0
           have e1 := E9.out.cell 1
           have d2 : w9.cell? ⟨D, 2, none⟩ = some (.int .i64 (s : Int)) := by rw [← HSS.out]; exact D9.out.cell 2
           have hED : D + 1 ≠ H ∧ D + 1 ≠ B ∧ D ≠ H ∧ D ≠ B := by have := HBD.out; omega
           have e0' := (E9.out.setOther (b' := H) s (.bool true) hED.1).cell 0
           have e1' := (E9.out.setOther (b' := H) s (.bool true) hED.1).cell 1
           have d2' : (w9.setCell ⟨H, s, none⟩ (.bool true)).cell? ⟨D, 2, none⟩ = some (.int .i64 (s : Int)) := by rw [← HSS.out]; exact (D9.out.setOther (b' := H) s (.bool true) hED.2.2.1).cell 2
           have hHB : H ≠ B := SW9.out.dv.ne
           have PUT := hide (SW9.out.dv.put (c := ce) hsl S9.out)
           have HHS := hide SW9.out.hs
           go_wp2_with fail
           go_roundw
           case rel => exact ⟨⟨k + 1, by omega, by go_num, by rw [HNT.out, HNW.out, Bool.or_true], by rw [HPT.out, HST.out]; exact ⟨PUT.out, ((SW9.out.bl.setCell (p := ⟨H, s, none⟩) (by have := HHS.out; simp; omega) _).setCell (p := ⟨B, s * 2, none⟩) (by have := HHS.out; simp; omega) _).setCell (p := ⟨B, s * 2 + 1, none⟩) (by have := HHS.out; simp; omega) _, ((SW9.out.bx.setOther (b' := H) _ _ (by have := HHS.out; omega)).setOther (b' := B) _ _ (by have := HHS.out; omega)).setOther (b' := B) _ _ (by have := HHS.out; omega), ((SW9.out.br.setOther (b' := H) _ _ (by have := HHS.out; omega)).setOther (b' := B) _ _ (by have := HHS.out; omega)).setOther (b' := B) _ _ (by have := HHS.out; omega), SW9.out.hs⟩⟩⟩
           case measure => simp [intOf]; omega
          | false =>
           have HNB := hide (HNOO.out hag)
           clear hag
           go_wp2_with fail
           go_roundw
           case rel => exact ⟨⟨k + 1, by omega, by go_num, by rw [HNT.out, HNB.out.2, Bool.or_false], by rw [HPT.out, HNB.out.1]; exact SW8.out.later k9⟩⟩
           case measure => simp [intOf]; omega
    ·have hki : ¬ (k : Int) < (A.mv.length : Int) := by omega
     have htk : A.mv.take k = A.mv := List.take_of_length_le (by omega)
     rw [htk] at SW OKK LNK ⊢
     have RK := passF_rank A.mv st HOK.out HLN.out HMV.out
     have HNX : Hid (newsF st A.mv = true → rkF 100000 (passF st A.mv) < rkF 100000 st) := RK.2
     have HNE : Hid (rkF 100000 (passF st A.mv) ≤ rkF 100000 st) := RK.1
     clear RK htk
     cases hnw : newsF st A.mv with
     | true =>
      have H1 := hide (HNX.out hnw)
      have HF : Hid (∀ e, FinF A.mv (passF st A.mv) e → FinF A.mv st0 e) := fun e h => HF1.out (by trivial) e (FinF.more hnw h)
      clear hnw
      go_wp2_with fail
      go_roundg (rkF 100000 (passF st A.mv) + 1)
      case rel => exact ⟨⟨passF st A.mv, true, rfl, SW.out, OKK.out, LNK.out, Nat.le_refl _, fun _ => HF.out, fun h => by cases h⟩⟩
      case measure => have h1 := H1.out; have h2 : rkF 100000 st + 1 ≤ gk := HRK.out; omega
     | false =>
      have HF : Hid (FinF A.mv st0 (passF st A.mv)) := HF1.out (by trivial) _ (FinF.done hnw)
      clear hnw
      go_wp2_with fail
      go_roundg (rkF 100000 (passF st A.mv))
      case rel => exact ⟨⟨passF st A.mv, false, rfl, SW.out, OKK.out, LNK.out, Nat.le_refl _, (fun h => by cases h), fun _ => HF.out⟩⟩
      case measure => have h1 := HNE.out; have h2 : rkF 100000 st + 1 ≤ gk := HRK.out; omega
end Go.Proofs.Ytofebfjkodceeaa
