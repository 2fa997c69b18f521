import Derived.Test.YtofebfjkodceeaaZNAutoMadeOwn
import Derived.Test.YtofebfjkodceeaaAy4
import Derived.Test.YtofebfjkodceeaaAx5
import Derived.Deep.LoopGhost
namespace Go.Proofs.Ytofebfjkodceeaa
open Go.RowKit Go.Shelf
set_option linter.unusedSimpArgs false
set_option linter.unusedVariables false
set_option maxRecDepth 8000
def msrT (T : Nat → Nat → Bool) : Nat := ((List.range 64).filter fun i => !T (i / 8) (i % 8)).length
theorem filterX_lt {α : Type} {p q : α → Bool} : ∀ {l : List α}, (∀ x ∈ l, q x = true → p x = true) → (∃ x ∈ l, p x = true ∧ q x = false) → (l.filter q).length < (l.filter p).length
 | [], _, h => by obtain ⟨x, hx, _⟩ := h; cases hx
 | y :: l, h1, h2 => by
  have hle : (l.filter q).length ≤ (l.filter p).length := by
   have key : ∀ l : List α, (∀ x ∈ l, q x = true → p x = true) → (l.filter q).length ≤ (l.filter p).length := by
    intro l
    induction l with
    | nil => intro _; simp
    | cons z l ih =>
     intro h
     have ih' := ih fun x hx => h x (by simp [hx])
     have hz := h z (by simp)
     rw [List.filter_cons, List.filter_cons]
     by_cases e : q z = true
     ·rw [if_pos e, if_pos (hz e)]; simp; exact ih'
     ·rw [if_neg e]
      split
      ·simp; omega
      ·exact ih'
   exact key l fun x hx => h1 x (by simp [hx])
  have hy := h1 y (by simp)
  rw [List.filter_cons, List.filter_cons]
  by_cases e : q y = true
  ·rw [if_pos e, if_pos (hy e)]
   simp
   refine filterX_lt (fun x hx => h1 x (by simp [hx])) ?_
   obtain ⟨x, hx, h3, h4⟩ := h2
   rcases List.mem_cons.1 hx with rfl | hx
   ·rw [e] at h4; cases h4
   ·exact ⟨x, hx, h3, h4⟩
  ·rw [if_neg e]
   by_cases e2 : p y = true
   ·rw [if_pos e2]; simp; omega
   ·rw [if_neg e2]
    refine filterX_lt (fun x hx => h1 x (by simp [hx])) ?_
    obtain ⟨x, hx, h3, h4⟩ := h2
    rcases List.mem_cons.1 hx with rfl | hx
    ·exact absurd h3 e2
    ·exact ⟨x, hx, h3, h4⟩
theorem TlR.less {ms : List Mv} {la : Nat} {all : List Nat} {T T' : Nat → Nat → Bool} (h : TlR ms la all T T' true) : msrT T' < msrT T := by
 obtain ⟨x, y, hx, hy, h1, h2⟩ := h.yes rfl
 refine filterX_lt (fun i _ e => ?_) ⟨x * 8 + y, List.mem_range.2 (by omega), ?_⟩
 ·cases ht : T (i / 8) (i % 8) with
  | false => rfl
  | true => rw [h.le _ _ ht] at e; cases e
 ·have e1 : (x * 8 + y) / 8 = x := by omega
  have e2 : (x * 8 + y) % 8 = y := by omega
  rw [e1, e2, h1, h2]
  exact ⟨rfl, rfl⟩
theorem al8 {ms : List Mv} {n : Nat} (hn : n ≤ 3) {all : List Nat} (h : AlP ms n all) : ∀ x ∈ all, x < 8 := fun x hx => by
 obtain ⟨t, _, ht⟩ := h.tm x hx
 have h1 : x < 2 ^ 3 := by
  apply Nat.lt_pow_two_of_testBit
  intro i hi
  rw [ht.2]
  unfold bitAt endX
  rw [Int.toNat_natCast, List.getElem?_eq_none (by rw [edgT_len]; omega)]
  rfl
 exact h1
theorem clB_no {ms : List Mv} {L : List Sy} {all : List Nat} {T : Nat → Nat → Bool} (h : ClB ms L L.length all T) (hall : ∀ m ∈ ms, symM m ∈ L) : ∀ m ∈ ms, ∀ (xs : List Nat) (i a s : Nat), xs.length = m.frm.length → (∀ x ∈ xs, x ∈ all) → xs[i]? = some a → s ∈ all → T (endM ms m xs) (endM ms m (xs.set i s)) = true → T a s = true := by
 intro m hm xs i a s hl hx hi hs ht
 obtain ⟨j, hj, e⟩ := List.mem_iff_getElem.1 (hall m hm)
 have hil : i < xs.length := by
  apply Classical.byContradiction
  intro h
  rw [List.getElem?_eq_none (by omega)] at hi
  cases hi
 have h1 := h j hj hj xs (lsN_mem.2 ⟨by rw [e]; exact hl, hx⟩) i hil s hs a hi
 rw [e] at h1
 exact h1 ht
def StT (la : Nat) (all l : List Nat) (T : Nat → Nat → Bool) : Prop := ∀ s ∈ l, ∀ r ∈ all, T s r = (inL la s != inL la r)
theorem StT.put {la : Nat} {all l : List Nat} {T : Nat → Nat → Bool} (h : StT la all l T) (s r : Nat) : StT la all l (setTx T s r (inL la s != inL la r)) := fun x hx y hy => by
 unfold setTx
 by_cases e : x = s ∧ y = r
 ·rw [if_pos e, e.1, e.2]
 ·rw [if_neg e]; exact h x hx y hy
theorem slV_monoX {w : World} {X Y : Nat → Prop} {a : Option Addr} {l : List Mv} (h : SlV w X a l) (hY : ∀ b, X b → b < w.heap.size → Y b) : SlV w Y a l := by
 refine ⟨h.1, ?_⟩
 rcases h.2 with h1 | ⟨b, o, e, hb, h1⟩
 ·exact Or.inl h1
 ·by_cases h0 : 0 < l.length
  ·refine Or.inr ⟨b, o, e, hY b hb (cell_ltA (h1 0 h0).1), fun i hi => ?_⟩
   obtain ⟨g0, ⟨a', c', g2, g3⟩, g4⟩ := h1 i hi
   exact ⟨g0, ⟨a', c', g2, g3.mono hY⟩, g4⟩
  ·exact Or.inl (List.length_eq_zero_iff.1 (by omega))
def KoP (A : Au) (n : Nat) (w : World) (e : Ending) (w' : World) : Prop :=
 ∃ (K : Nat) (T : Nat → Nat → Bool) (all : List Nat) (sa : Option Addr) (cs : Nat) (ta tb : Value), e = .returned (.pointer (some ⟨K, 0, none⟩)) ∧ Blk w' K (kdC ta tb (.slice sa all.length cs) T) 119 ∧ LV stV w' (fun _ => True) (.slice sa all.length cs) all ∧ (AlP A.mv n all ∧ EndsOk A.mv n all) ∧ cntK (fun s r => !T s r) all = cntK (alkS A.mv (setN A.la) all) all ∧ Below w.heap.size w w'
structure KoI (A : Au) (all : List Nat) (L : List Sy) (K : Nat) (ta tb sv : Value) (w wS : World) (gk : Nat) (q : Value) (wr : World) : Prop where
 ex : ∃ T, Blk wr K (kdC ta tb sv T) 119 ∧ Marks A.mv (setN A.la) all T ∧ msrT T ≤ gk
 old : ExQ (fun b => b = K) wS wr
set_option maxHeartbeats 8000000 in
theorem kindsOf_any (A : Au) (hA : OkAu 8 40 A) (n : Nat) (hn : A.st = (n : Int)) (hn3 : n ≤ 3) (va : Value) (w : World) (X : Nat → Prop) (hva : AV w X va A) :
  Calls Try.prog 58 #[va] w fun e w' => KoP A n w e w' := by
 obtain ⟨am, cm, al, cl, rfl, hm, hl⟩ := hva
 have B1 := hide (one1 w (.cells #[.int .i64 A.st, .slice am A.mv.length cm, .slice al A.la.length cl] 25))
 have A1 : Hid (Blk (w.alloc (.cells #[.int .i64 A.st, .slice am A.mv.length cm, .slice al A.la.length cl] 25)) w.heap.size #[.int .i64 A.st, .slice am A.mv.length cm, .slice al A.la.length cl] 25) := Blk.new _ _ _
 have HM := hide hm
 have HL := hide hl
 have hml := hm.1
 have HMS : Hid (MvsLs n A.mv) := fun m hm => ⟨by rw [← hn]; exact (hA.mv m hm).to, by rw [← hn]; exact (hA.mv m hm).frm, (hA.mv m hm).len⟩
 have HSY : Hid (∀ m ∈ A.mv, SyOk (symM m)) := fun m hm => okMv_sy (hA.mv m hm)
 have HLL : Hid (∀ z ∈ A.la, 0 ≤ z ∧ z < 64) := fun z hz => by have := hA.la z hz; have := hA.st; omega
 have HLN : Hid (A.mv.length ≤ 1000) := by have := hA.len; unfold Hid; omega
 have XL : Hid (setN A.la < 8) := by
  have h : setN A.la < 2 ^ 3 := setN_ltK fun z hz => by have := hA.la z hz; omega
  exact h
 have c1 := A1.out.cell 1
 clear hm hl hA hn
 go_enter Try.func58, Try.ntmps58
 go_wp2_with fail
 generalize (w.alloc (.cells #[.int .i64 A.st, .slice am A.mv.length cm, .slice al A.la.length cl] 25)) = w1 at *
 clear c1
 refine (tableOf_any A.mv HLN.out HSY.out am cm _ X (HM.out.later B1.out)).mono ?_
 rintro e w2 ⟨tv, rfl, htv, hb2⟩
 have TV2 := hide htv
 obtain ⟨rr, L, ta, tc, htve, hmy, hLl, hall, hrow⟩ := id htv.ex
 subst htve
 have HALL := hide hall
 have HROW := hide hrow
 have B2 := hide (B1.out.trans (hb2.mono B1.out.size))
 have A2 := hide (A1.out.below hb2 A1.out.lt)
 clear hb2 htv hall hrow hmy B1 A1
 obtain ⟨Z, hZ⟩ : ∃ Z, Z = kdC (.map (some rr)) (.slice ta L.length tc) (.slice none 0 0) (fun _ _ => false) := ⟨_, rfl⟩
 have hZ2 : Z = ((Try.zeroCells119.setIfInBounds 0 (.map (some rr))).setIfInBounds 1 (.slice ta L.length tc)) := by rw [hZ]; rfl
 have B3 := hide (B2.out.trans ((one1 w2 (.cells Z 119)).mono B2.out.size))
 have A3 : Hid (Blk (w2.alloc (.cells Z 119)) w.heap.size #[.int .i64 A.st, .slice am A.mv.length cm, .slice al A.la.length cl] 25) := A2.out.alloc _
 have K3 : Hid (Blk (w2.alloc (.cells Z 119)) w2.heap.size (kdC (.map (some rr)) (.slice ta L.length tc) (.slice none 0 0) (fun _ _ => false)) 119) := by rw [← hZ]; exact Blk.new _ _ _
 have TV3 := hide (TV2.out.later (one1 w2 (.cells Z 119)))
 have BK3 : Hid (Below w2.heap.size w2 (w2.alloc (.cells Z 119))) := one1 _ _
 rw [hZ2] at B3 A3 K3 TV3 BK3
 clear hZ hZ2 Z
 go_upto_region 2 with fail
 generalize (w2.alloc (.cells ((Try.zeroCells119.setIfInBounds 0 (.map (some rr))).setIfInBounds 1 (.slice ta L.length tc)) 119)) = w3 at *
 obtain ⟨K, hK⟩ : ∃ K, K = w2.heap.size := ⟨_, rfl⟩
 rw [← hK] at K3 ⊢
 have HKZ : Hid (w.heap.size < K) := by have := A2.out.lt; unfold Hid; omega
 have TKW : Hid (∀ w', ExQ (fun b => b = K) w3 w' → TabK w' K ta A.mv L) := fun w' hx i hi => by
  obtain ⟨b, o, ai, ci, e, h1, h2⟩ := HROW.out i hi
  have hbl : b < w2.heap.size := cell_ltA h1
  have hs3 : SlV w3 (fun b => b ≠ K) ai (grp A.mv L[i]) := (SlV.later (slV_monoX h2 fun b _ hb => (by omega : b ≠ K)) BK3.out)
  exact ⟨b, o, ai, ci, e, by omega, (World.cell?_of_block (a := ⟨b, o + i, none⟩) ((hx.block b (by have := BK3.out.size; omega) (by omega)).trans (BK3.out.block b hbl))).trans h1, slV_exK hs3 hx⟩
 have k0 : w3.cell? ⟨K, 0, none⟩ = some (.map (some rr)) := K3.out.cell 0
 have k1 : w3.cell? ⟨K, 1, none⟩ = some (.slice ta L.length tc) := K3.out.cell 1
 have hKl := K3.out.lt
 clear hK TV2 B2 A2 BK3
 go_wp2_with fail
 refine (ends_any A.mv n (by omega) HMS.out _ _ TV3.out).mono ?_
 rintro e w4 ⟨all, u, rfl, hlv, ⟨hpl, hok⟩, hb4⟩
 obtain ⟨sa, cs, hue, hul, _⟩ := id hlv
 subst hue
 have HLV := hide hlv
 have HPL := hide hpl
 have HOK := hide hok
 have H8 := hide (al8 hn3 hpl)
 have hlen := hpl.len
 have hul1 := hul.1
 have B4 := hide (B3.out.trans (hb4.mono B3.out.size))
 have A4 := hide (A3.out.below hb4 A3.out.lt)
 have K4 := hide (K3.out.below hb4 K3.out.lt)
 have X4 : Hid (ExQ (fun b => b = K) w3 w4) := ExQ.ofBelow hb4
 have HKS : Hid (K < w3.heap.size) := hKl
 have c2 : w4.cell? ⟨K, 2, none⟩ = some (.slice none 0 0) := K4.out.cell 2
 have f2 := K4.out.frozen 2
 have hKl4 := K4.out.lt
 clear hlv hpl hok hb4 B3 A3 K3 k0 k1 TV3 hKl hul
 have K5 : Hid (Blk (w4.setCell ⟨K, 2, none⟩ (.slice sa all.length cs)) K (kdC (.map (some rr)) (.slice ta L.length tc) (.slice sa all.length cs) (fun _ _ => false)) 119) := K4.out.set 2 _
 have X5 : Hid (ExQ (fun b => b = K) w3 (w4.setCell ⟨K, 2, none⟩ (.slice sa all.length cs))) := X4.out.set (B := K) rfl _ _
 have B5 : Hid (Below w.heap.size w (w4.setCell ⟨K, 2, none⟩ (.slice sa all.length cs))) := B4.out.setCell (p := ⟨K, 2, none⟩) (by have := HKZ.out; simp; omega) _
 have A5 : Hid (Blk (w4.setCell ⟨K, 2, none⟩ (.slice sa all.length cs)) w.heap.size #[.int .i64 A.st, .slice am A.mv.length cm, .slice al A.la.length cl] 25) := A4.out.setOther _ _ (by have := HKZ.out; omega)
 have LV5 : Hid (LV stV (w4.setCell ⟨K, 2, none⟩ (.slice sa all.length cs)) (fun b => b ≠ K) (.slice sa all.length cs) all) := (HLV.out.kept fun b hb => Below.heap_setCell _ _ _ _ (by have := HKS.out; simp; omega)).mono fun b hb _ => by have := HKS.out; omega
 go_upto_region 3 with fail
 generalize (w4.setCell ⟨K, 2, none⟩ (.slice sa all.length cs)) = w5 at *
 clear c2 f2 hKl4 B4 A4 K4 X4 HLV
 have a2 : w5.cell? ⟨w.heap.size, 2, none⟩ = some (.slice al A.la.length cl) := A5.out.cell 2
 go_wp2_with fail
 refine (setOf_any A.la HLL.out _ _ X (HL.out.later B5.out)).mono ?_
 rintro e w6 ⟨rfl, hw6⟩
 subst hw6
 have k2 : w6.cell? ⟨K, 2, none⟩ = some (.slice sa all.length cs) := K5.out.cell 2
 have hKl := K5.out.lt
 clear a2 A5
 go_wp2_with fail
 clear k2
 obtain ⟨wS, hwS⟩ : ∃ wS, wS = w6 := ⟨_, rfl⟩
 rw [← hwS] at K5 X5 B5 LV5 hKl ⊢
 clear hwS
 go_loopw [30] (fun q wr => ∃ (k : Nat) (T : Nat → Nat → Bool), k ≤ all.length ∧ q = .int .i64 (k : Int) ∧ Blk wr K (kdC (.map (some rr)) (.slice ta L.length tc) (.slice sa all.length cs) T) 119 ∧ StT (setN A.la) all (all.take k) T ∧ ExQ (fun b => b = K) wS wr) (fun q wr => all.length - (intOf q).toNat)
 case atStart => exact ⟨0, _, Nat.zero_le _, rfl, K5.out, (fun s hs => by simp at hs), ExQ.refl _ _⟩
 case round =>
  obtain ⟨k, T, hk, rfl, hkb, hst, hx⟩ := hrel
  have HKB := hide hkb
  have HST := hide hst
  have HX := hide hx
  clear hkb hst hx
  by_cases hlt : k < all.length
  ·have hki : (k : Int) < (all.length : Int) := by omega
   obtain ⟨bs, os, hse, hbs, hcc⟩ := ((lv_exK LV5.out HX.out)).at (Below.refl wr.heap.size wr) k hlt
   subst hse
   unfold stV at hcc
   obtain ⟨s, hs⟩ : ∃ s, s = all[k] := ⟨_, rfl⟩
   have HSA : Hid (s ∈ all) := by unfold Hid; rw [hs]; exact List.getElem_mem hlt
   have HTK : Hid (all.take (k + 1) = all.take k ++ [s]) := by unfold Hid; rw [hs]; exact List.take_succ_eq_append_getElem hlt
   rw [← hs] at hcc
   clear hs
   have HS8 := hide (H8.out s HSA.out)
   have hs8 : (s : Int) < 8 := by have := HS8.out; omega
   have k2 : wr.cell? ⟨K, 2, none⟩ = some (.slice (some ⟨bs, os, none⟩) all.length cs) := HKB.out.cell 2
   have hKr := HKB.out.lt
   have HN1 := hide (and_nz (x := s) (y := setN A.la) (by have := HS8.out; omega) (by have := XL.out; omega))
   obtain ⟨b1, hb1⟩ : ∃ b1, b1 = inL (setN A.la) s := ⟨_, rfl⟩
   have HB1 := hide hb1
   have hn1 : (bits BinOp.and IntKind.u64 (s : Int) (setN A.la : Int) != 0) = b1 := by rw [HN1.out, hb1]; rfl
   have HNN1 := hide hn1
   clear hb1 HN1 hn1
   go_wp2_with fail
   clear k2 hcc
   obtain ⟨wo, hwo⟩ : ∃ wo, wo = wr := ⟨_, rfl⟩
   rw [← hwo] at HKB HX hKr ⊢
   clear hwo
   go_loopw [39] (fun q wr => ∃ (l : Nat) (T : Nat → Nat → Bool), l ≤ all.length ∧ q = .int .i64 (l : Int) ∧ Blk wr K (kdC (.map (some rr)) (.slice ta L.length tc) (.slice (some ⟨bs, os, none⟩) all.length cs) T) 119 ∧ (StT (setN A.la) all (all.take k) T ∧ StT (setN A.la) (all.take l) [s] T) ∧ ExQ (fun b => b = K) wS wr) (fun q wr => all.length - (intOf q).toNat)
   case atStart => exact ⟨0, T, Nat.zero_le _, rfl, HKB.out, ⟨HST.out, (fun x _ y hy => by simp at hy)⟩, HX.out⟩
   case round =>
    obtain ⟨l, T, hl, rfl, hkb, ⟨hst1, hst2⟩, hx⟩ := hrel
    have HKB := hide hkb
    have HST1 := hide hst1
    have HST2 := hide hst2
    have HX := hide hx
    clear hkb hst1 hst2 hx
    by_cases hlt2 : l < all.length
    ·have hli : (l : Int) < (all.length : Int) := by omega
     obtain ⟨bt, ot, hse, hbt, hcc⟩ := ((lv_exK LV5.out HX.out)).at (Below.refl wr.heap.size wr) l hlt2
     cases hse
     unfold stV at hcc
     obtain ⟨r, hr⟩ : ∃ r, r = all[l] := ⟨_, rfl⟩
     have HRA : Hid (r ∈ all) := by unfold Hid; rw [hr]; exact List.getElem_mem hlt2
     have HTL : Hid (all.take (l + 1) = all.take l ++ [r]) := by unfold Hid; rw [hr]; exact List.take_succ_eq_append_getElem hlt2
     rw [← hr] at hcc
     clear hr
     have HR8 := hide (H8.out r HRA.out)
     have hr8 : (r : Int) < 8 := by have := HR8.out; omega
     have HN2 := hide (and_nz (x := r) (y := setN A.la) (by have := HR8.out; omega) (by have := XL.out; omega))
     obtain ⟨b2, hb2⟩ : ∃ b2, b2 = inL (setN A.la) r := ⟨_, rfl⟩
     have HB2 := hide hb2
     have hn2 : (bits BinOp.and IntKind.u64 (r : Int) (setN A.la : Int) != 0) = b2 := by rw [HN2.out, hb2]; rfl
     have hn1 := HNN1.out
     clear hb2 HN2
     have hKr := HKB.out.lt
     have cT : wr.cell? ⟨K, 3 + s * 8 + r, none⟩ = some (.bool (T s r)) := (HKB.out.cell _).trans (kd_cell HS8.out HR8.out)
     have fT : ∀ j, wr.frozen? ⟨K, j, none⟩ = false := HKB.out.frozen
     have KN : Hid (Blk (wr.setCell ⟨K, 3 + s * 8 + r, none⟩ (.bool (b1 != b2))) K (kdC (.map (some rr)) (.slice ta L.length tc) (.slice (some ⟨bs, os, none⟩) all.length cs) (setTx T s r (inL (setN A.la) s != inL (setN A.la) r))) 119) := by
      rw [HB1.out, HB2.out]
      exact HKB.out.kdPut HS8.out HR8.out _
     have XN : Hid (ExQ (fun b => b = K) wS (wr.setCell ⟨K, 3 + s * 8 + r, none⟩ (.bool (b1 != b2)))) := HX.out.set (B := K) rfl _ _
     have HN3 : Hid (StT (setN A.la) (all.take (l + 1)) [s] (setTx T s r (inL (setN A.la) s != inL (setN A.la) r))) := by
      intro x hx y hy
      rw [HTL.out] at hy
      rcases List.mem_append.1 hy with hy | hy
      ·exact (StT.put HST2.out s r) x hx y hy
      ·simp at hx hy
       subst hx; subst hy
       unfold setTx
       rw [if_pos ⟨rfl, rfl⟩]
     go_wp2_with fail
     go_roundw
     case rel => exact ⟨l + 1, _, by omega, by go_num, KN.out, ⟨HST1.out.put s r, HN3.out⟩, XN.out⟩
     case measure => simp [intOf]; omega
    ·have hli : ¬ (l : Int) < (all.length : Int) := by omega
     have htl : all.take l = all := List.take_of_length_le (by omega)
     rw [htl] at HST2
     have HN3 : Hid (StT (setN A.la) all (all.take (k + 1)) T) := by
      intro x hx y hy
      rw [HTK.out] at hx
      rcases List.mem_append.1 hx with hx | hx
      ·exact HST1.out x hx y hy
      ·exact HST2.out x hx y hy
     go_wp2_with fail
     go_roundw
     case rel => exact ⟨k + 1, T, by omega, by go_num, HKB.out, HN3.out, HX.out⟩
     case measure => simp [intOf]; omega
  ·have hki : ¬ (k : Int) < (all.length : Int) := by omega
   have htk : all.take k = all := List.take_of_length_le (by omega)
   rw [htk] at HST
   have HMK : Hid (Marks A.mv (setN A.la) all T) := Marks.start HST.out
   go_wp2_with fail
   obtain ⟨w7, hw7⟩ : ∃ w7, w7 = wr := ⟨_, rfl⟩
   rw [← hw7] at HKB HX ⊢
   clear hw7
   go_loopg [62] (msrT T) (fun gk q wr => KoI A all L K (.map (some rr)) (.slice ta L.length tc) (.slice sa all.length cs) w wS gk q wr)
   case atStart => exact ⟨⟨T, HKB.out, HMK.out, Nat.le_refl _⟩, HX.out⟩
   case round =>
    obtain ⟨⟨T1, hkb1, hmk1, hms1⟩, hx1⟩ := hrel
    have HKB1 := hide hkb1
    have HMK1 := hide hmk1
    have HMS1 := hide hms1
    have HX1 := hide hx1
    clear hkb1 hmk1 hms1 hx1
    go_wp2_with fail
    refine (pass_any A.mv (setN A.la) n hn3 HMS.out all HOK.out.cl H8.out hlen T1 K _ _ _ _ _ L HALL.out.2 hLl wr HKB1.out ((lv_exK LV5.out HX1.out).mono fun b hb _ => hb.1) (TKW.out wr (X5.out.trans HX1.out))).mono ?_
    rintro e w8 ⟨z, T2, rfl, hr2, hc2, hk2, hx2⟩
    have HR2 := hide hr2
    have HC2 := hide hc2
    have HK2 := hide hk2
    have HX2 : Hid (ExQ (fun b => b = K) wS w8) := HX1.out.trans hx2
    clear hr2 hc2 hk2 hx2
    cases z with
    | true =>
     have HLS : Hid (msrT T2 < gk) := by have h1 := HR2.out.less; have h2 := HMS1.out; unfold Hid; omega
     go_wp2_with fail
     go_roundg (msrT T2)
     case measure => exact HLS.out
     case rel => exact ⟨⟨T2, HK2.out, HR2.out.mks HMK1.out, Nat.le_refl _⟩, HX2.out⟩
    | false =>
     have HCN : Hid (cntK (fun s r => !T2 s r) all = cntK (alkS A.mv (setN A.la) all) all) := by
      have e2 := HR2.out.no rfl
      rw [e2]
      exact HMK1.out.count (clB_no (HC2.out rfl) HALL.out.1)
     have HBF : Hid (Below w.heap.size w w8) := B5.out.trans (HX2.out.below B5.out.size (fun b hb => by have := HKZ.out; omega))
     go_wp2_with fail
     go_ret
     exact ⟨K, T2, all, sa, cs, _, _, rfl, HK2.out, (lv_exK LV5.out HX2.out).mono fun _ _ _ => trivial, ⟨HPL.out, HOK.out⟩, HCN.out, HBF.out⟩
def LeP (A : Au) (w : World) (e : Ending) (w' : World) : Prop :=
 ∃ N : Nat, e = .returned (.tuple #[.int .i64 (N : Int), .int .i64 (fewL [A])]) ∧ (fewL [A] ≠ 0 → N = 0) ∧ (fewL [A] = 0 → ∀ n : Nat, A.st = (n : Int) → ∃ all, EndsOk A.mv n all ∧ AlP A.mv n all ∧ N = cntK (alkS A.mv (setN A.la) all) all) ∧ Below w.heap.size w w'
set_option maxHeartbeats 2000000 in
theorem least_any (A : Au) (va : Value) (w : World) (X : Nat → Prop) (hva : AV w X va A) :
  Calls Try.prog 30 #[va] w fun e w' => LeP A w e w' := by
 obtain ⟨am, cm, al, cl, rfl, ham, hal⟩ := hva
 generalize hE : fewL [A] = E
 have HEE := hide hE
 clear hE
 have hAF := allocsX_facts [(.cells #[.int .i64 A.st, .slice am A.mv.length cm, .slice al A.la.length cl] 25 : Obj), (.cells #[.int .i64 A.st, .slice am A.mv.length cm, .slice al A.la.length cl] 25 : Obj)] w
 have eW : allocsX w [(.cells #[.int .i64 A.st, .slice am A.mv.length cm, .slice al A.la.length cl] 25 : Obj), (.cells #[.int .i64 A.st, .slice am A.mv.length cm, .slice al A.la.length cl] 25 : Obj)] = (w.alloc (.cells #[.int .i64 A.st, .slice am A.mv.length cm, .slice al A.la.length cl] 25)).alloc (.cells #[.int .i64 A.st, .slice am A.mv.length cm, .slice al A.la.length cl] 25) := rfl
 rw [eW] at hAF
 obtain ⟨hF1, hF2, hF3⟩ := hAF
 have KA : Hid (Blk ((w.alloc (.cells #[.int .i64 A.st, .slice am A.mv.length cm, .slice al A.la.length cl] 25)).alloc (.cells #[.int .i64 A.st, .slice am A.mv.length cm, .slice al A.la.length cl] 25)) w.heap.size #[.int .i64 A.st, .slice am A.mv.length cm, .slice al A.la.length cl] 25) := hF3 0 _ rfl
 have KP : Hid (Blk ((w.alloc (.cells #[.int .i64 A.st, .slice am A.mv.length cm, .slice al A.la.length cl] 25)).alloc (.cells #[.int .i64 A.st, .slice am A.mv.length cm, .slice al A.la.length cl] 25)) (w.heap.size + 1) #[.int .i64 A.st, .slice am A.mv.length cm, .slice al A.la.length cl] 25) := hF3 1 _ rfl
 have BW := hide hF1
 have AVW : Hid (∀ w', Below w.heap.size w w' → AV w' X (.agg #[.int .i64 A.st, .slice am A.mv.length cm, .slice al A.la.length cl]) A) := fun w' hb => ⟨am, cm, al, cl, rfl, ham.later hb, hal.later hb⟩
 clear eW hF1 hF2 hF3 ham hal
 go_enter Try.func30, Try.ntmps30
 go_wp2_with fail
 generalize ((w.alloc (.cells #[.int .i64 A.st, .slice am A.mv.length cm, .slice al A.la.length cl] 25)).alloc (.cells #[.int .i64 A.st, .slice am A.mv.length cm, .slice al A.la.length cl] 25)) = w3 at *
 refine (checkFew_any [A] (by simp) (w.heap.size + 1) w3 X (auRow_one (AVW.out _ BW.out) KP.out) KP.out.lt).mono ?_
 rintro e w4 ⟨rfl, hb4⟩
 have B4 := hide (BW.out.trans (hb4.mono BW.out.size))
 have KA4 := hide (KA.out.below hb4 KA.out.lt)
 clear hb4 KA KP BW
 rw [HEE.out]
 by_cases h0 : E = 0
 case neg =>
  have hne : (E == 0) = false := by simpa using h0
  have hne2 : (E != 0) = true := by simpa using h0
  have H0 := hide h0
  clear h0
  go_wp2_with fail
  go_ret2
  exact ⟨0, by rw [HEE.out]; rfl, fun _ => rfl, fun h => absurd (HEE.out.symm.trans h) H0.out, B4.out⟩
 case pos =>
 subst h0
 obtain ⟨OA, sA⟩ := fewL_zero HEE.out A (by simp)
 unfold smB at sA
 rw [Bool.and_eq_true, decide_eq_true_eq] at sA
 obtain ⟨n, hn⟩ : ∃ n : Nat, A.st = (n : Int) := ⟨A.st.toNat, by have := OA.pos; omega⟩
 have HOA := hide OA
 have HN := hide hn
 have hn3 : n ≤ 3 := by omega
 have a0 : w4.cell? ⟨w.heap.size, 0, none⟩ = some (.int .i64 A.st) := KA4.out.cell 0
 have a1 : w4.cell? ⟨w.heap.size, 1, none⟩ = some (.slice am A.mv.length cm) := KA4.out.cell 1
 have a2 : w4.cell? ⟨w.heap.size, 2, none⟩ = some (.slice al A.la.length cl) := KA4.out.cell 2
 clear sA hn OA
 go_wp2_with fail
 refine (kindsOf_any A HOA.out n HN.out hn3 _ _ X (AVW.out _ B4.out)).mono ?_
 rintro e w5 ⟨K, T, all, sa, cs, ta, tb, rfl, hk5, hl5, ⟨hp5, ho5⟩, hc5, hb5⟩
 have HK5 := hide hk5
 have HL5 := hide hl5
 have HP5 := hide hp5
 have HO5 := hide ho5
 have HC5 := hide hc5
 have B5 := hide (B4.out.trans (hb5.mono B4.out.size))
 clear hk5 hl5 hp5 ho5 hc5 hb5 a0 a1 a2
 go_wp2_with fail
 refine (kCount_any T ta tb K all (al8 hn3 HP5.out) HP5.out.len sa cs w5 _ HL5.out HK5.out).mono ?_
 rintro e w6 ⟨rfl, hb6⟩
 have B6 := hide (B5.out.trans (hb6.mono B5.out.size))
 rw [HC5.out]
 clear hb6
 go_wp2_with fail
 go_ret2
 exact ⟨_, by rw [HEE.out]; rfl, fun h => absurd HEE.out h, fun _ m hm => by
  have e : m = n := by have := HN.out; omega
  subst e
  exact ⟨all, HO5.out, HP5.out, rfl⟩, B6.out⟩
end Go.Proofs.Ytofebfjkodceeaa
