import Derived.Test.YtofebfjkodceeaaSq
import Derived.Test.YtofebfjkodceeaaZNAutoMadeOwn
import Derived.Test.YtofebfjkodceeaaZAutoMadeOwn
namespace Go.Proofs.Ytofebfjkodceeaa
open Go.RowKit Go.Shelf
set_option linter.unusedSimpArgs false
set_option linter.unusedVariables false
set_option maxRecDepth 8000
structure TlR (ms : List Mv) (la : Nat) (all : List Nat) (T T' : Nat → Nat → Bool) (z : Bool) : Prop where
 mks : Marks ms la all T → Marks ms la all T'
 le : ∀ x y, T x y = true → T' x y = true
 no : z = false → T' = T
 yes : z = true → ∃ x y, x < 8 ∧ y < 8 ∧ T x y = false ∧ T' x y = true
theorem TlR.refl (ms : List Mv) (la : Nat) (all : List Nat) (T : Nat → Nat → Bool) : TlR ms la all T T false := ⟨id, fun _ _ h => h, fun _ => rfl, fun h => by cases h⟩
theorem TlR.trans {ms : List Mv} {la : Nat} {all : List Nat} {T T1 T2 : Nat → Nat → Bool} {z1 z2 : Bool} (h : TlR ms la all T T1 z1) (k : TlR ms la all T1 T2 z2) : TlR ms la all T T2 (z2 || z1) := by
 refine ⟨fun m => k.mks (h.mks m), fun x y e => k.le x y (h.le x y e), fun e => ?_, fun e => ?_⟩
 ·rw [Bool.or_eq_false_iff] at e
  rw [k.no e.1, h.no e.2]
 ·cases z1 with
  | true =>
   obtain ⟨x, y, hx, hy, h1, h2⟩ := h.yes rfl
   exact ⟨x, y, hx, hy, h1, k.le x y h2⟩
  | false =>
   have e1 := h.no rfl
   subst e1
   exact k.yes (by simpa using e)
def ClT (g : List Mv) (all : List Nat) (T : Nat → Nat → Bool) (xs : List Nat) (i : Nat) (l : List Nat) : Prop := ∀ s ∈ l, ∀ a, xs[i]? = some a → T (endN g (xs.map bitsN)) (endN g ((xs.set i s).map bitsN)) = true → T a s = true
theorem tl_mark {ms : List Mv} {la : Nat} {all : List Nat} {T : Nat → Nat → Bool} (hcl : ∀ m ∈ ms, ∀ xs : List Nat, xs.length = m.frm.length → (∀ x ∈ xs, x ∈ all) → endM ms m xs ∈ all) (h8 : ∀ x ∈ all, x < 8) {m : Mv} (hm : m ∈ ms) {xs : List Nat} {i a s : Nat} (hl : xs.length = m.frm.length) (hx : ∀ x ∈ xs, x ∈ all) (hi : xs[i]? = some a) (hs : s ∈ all) (h0 : T a s = false) (ht : T (endM ms m xs) (endM ms m (xs.set i s)) = true) : TlR ms la all T (setTx (setTx T a s true) s a true) true := by
 have hT : ∀ x y, setTx (setTx T a s true) s a true x y = (T x y || (decide (x = a ∧ y = s) || decide (x = s ∧ y = a))) := fun x y => by
  unfold setTx
  by_cases e1 : x = s ∧ y = a
  ·simp [e1]
  ·by_cases e2 : x = a ∧ y = s
   ·simp [e1, e2]
   ·simp [e1, e2]
 have ha : a ∈ all := hx a (List.mem_of_getElem? hi)
 refine ⟨fun M => M.mark hcl hm hl hx hi hs ht hT, fun x y e => by rw [hT, e]; rfl, fun e => (by cases e), fun _ => ⟨a, s, h8 a ha, h8 s hs, h0, by rw [hT]; simp⟩⟩
theorem row_put1X {w : World} {N T n g cap k : Nat} {zs : List Nat} {s : Nat} (h : w.ownsRow N T 1 (.slice (some ⟨g, 0, none⟩) n cap) n (zs.map stV)) (hk : k < n) : (w.setCell ⟨g, k, none⟩ (stV s)).ownsRow N T 1 (.slice (some ⟨g, 0, none⟩) n cap) n ((zs.set k s).map stV) := by
 obtain ⟨hl, h1⟩ := h
 rcases h1 with ⟨h1, _⟩ | ⟨g', cap', cur, hv, hg, hh, hnc, hcm, hcs, htk⟩
 ·cases h1
 ·simp at hv
  obtain ⟨rfl, rfl⟩ := hv
  refine ⟨by simpa using hl, Or.inr ⟨g, cap, cur.setIfInBounds k (stV s), rfl, hg, ?_, hnc, hcm, by simpa using hcs, ?_⟩⟩
  ·simp [World.setCell, Array.getElem?_modify, hh]
  ·rw [Array.toList_setIfInBounds, List.take_set, htk, List.map_set]
theorem slV_exq {w w' : World} {K : Nat} {a : Option Addr} {l : List Mv} (h : SlV w (fun b => b ≠ K) a l) (hx : ExQ (fun b => b = K) w w') : SlV w' (fun _ => True) a l := by
 refine ⟨h.1, h.2.imp id ?_⟩
 rintro ⟨b, o, e, hb, h1⟩
 refine ⟨b, o, e, trivial, fun i hi => ?_⟩
 obtain ⟨h0, ⟨a', c', h2, h3⟩, h4⟩ := h1 i hi
 have kc : ∀ q v, w.cell? ⟨b, q, none⟩ = some v → w'.cell? ⟨b, q, none⟩ = some v := fun q v hc => (World.cell?_of_block (a := ⟨b, q, none⟩) (hx.block b (cell_ltA hc) hb)).trans hc
 refine ⟨kc _ _ h0, ⟨a', c', kc _ _ h2, ?_⟩, kc _ _ h4⟩
 exact ((h3.mono (Y := fun b => b ≠ K ∧ b < w.heap.size) fun b h5 h6 => ⟨h5, h6⟩).kept fun b hb => hx.block b hb.2 hb.1).mono fun _ _ _ => trivial
structure TlI (ms g : List Mv) (la : Nat) (all : List Nat) (T : Nat → Nat → Bool) (xs : List Nat) (i K N O oc : Nat) (ta tb sv : Value) (w : World) (z q : Value) (wr : World) : Prop where
 ex : ∃ (k : Nat) (bb : Bool) (T' : Nat → Nat → Bool) (zs : List Nat), k ≤ all.length ∧ q = .int .i64 (k : Int) ∧ z = .bool bb ∧ TlR ms la all T T' bb ∧ (bb = false → ClT g all T xs i (all.take k)) ∧ Blk wr K (kdC ta tb sv T') 119 ∧ (wr.ownsRow N 71 1 (.slice (some ⟨O, 0, none⟩) xs.length oc) xs.length (zs.map stV) ∧ zs.length = xs.length ∧ ∀ s, zs.set i s = xs.set i s)
 fr : ExQ (fun b => b = K) w wr
 sz : N ≤ wr.heap.size
def TlP (ms g : List Mv) (la : Nat) (all : List Nat) (T : Nat → Nat → Bool) (xs : List Nat) (i K : Nat) (ta tb sv : Value) (w : World) (e : Ending) (w' : World) : Prop :=
 ∃ (bb : Bool) (T' : Nat → Nat → Bool), e = .returned (.bool bb) ∧ TlR ms la all T T' bb ∧ (bb = false → ClT g all T xs i all) ∧ Blk w' K (kdC ta tb sv T') 119 ∧ ExQ (fun b => b = K) w w'
set_option maxHeartbeats 8000000 in
theorem tell_any (ms g : List Mv) (la n : Nat) (hn : n ≤ 3) (hms : MvsLs n ms) (all : List Nat) (hcl : ∀ m ∈ ms, ∀ xs : List Nat, xs.length = m.frm.length → (∀ x ∈ xs, x ∈ all) → endM ms m xs ∈ all) (h8 : ∀ x ∈ all, x < 8) (hal : all.length ≤ 64)
  (m0 : Mv) (hm0 : m0 ∈ ms) (hg : g = grp ms (m0.name, m0.frm.length)) (T : Nat → Nat → Bool) (xs : List Nat) (hxl : xs.length = m0.frm.length) (hxa : ∀ x ∈ xs, x ∈ all) (i : Nat) (hi : i < xs.length) (K B : Nat) (ta tb : Value) (sa am : Option Addr) (cs cm n0 : Nat) (hn0 : n0 = xs.length) (w : World)
  (hK : Blk w K (kdC ta tb (.slice sa all.length cs) T) 119) (hS : LV stV w (fun b => b ≠ K) (.slice sa all.length cs) all) (hM : SlV w (fun b => b ≠ K) am g) (hBK : B ≠ K) (hB : Blk w B (xs.map stV).toArray 71) :
  Calls Try.prog 88 #[.pointer (some ⟨K, 0, none⟩), .slice am g.length cm, .slice (some ⟨B, 0, none⟩) n0 n0, .int .i64 (i : Int)] w fun e w' => TlP ms g la all T xs i K ta tb (.slice sa all.length cs) w e w' := by
 subst hn0
 have hx4 : xs.length ≤ 4 := by rw [hxl]; exact (hms m0 hm0).2.2
 have hgm : ∀ m ∈ g, m ∈ ms ∧ m.frm.length = xs.length := fun m hm => by
  rw [hg] at hm
  unfold grp at hm
  obtain ⟨h1, h2⟩ := List.mem_filter.1 hm
  rw [Bool.and_eq_true, decide_eq_true_eq, decide_eq_true_eq] at h2
  exact ⟨h1, by rw [hxl]; exact h2.2⟩
 have hend : ∀ ys : List Nat, endN g (ys.map bitsN) = endM ms m0 ys := fun ys => by rw [hg]; rfl
 have CE : Hid (∀ (ys : List Nat) (vb : Value) (w' : World), ys.length = xs.length → (∀ y ∈ ys, y ∈ all) → ExQ (fun b => b = K) w w' → LV stV w' (fun _ => True) vb ys → Calls Try.prog 67 #[.slice am g.length cm, vb] w' fun e w'' => e = .returned (stV (endN g (ys.map bitsN))) ∧ Below w'.heap.size w' w'') := fun ys vb w' hyl hya hx hlv => by
  have hM' : SlV w' (fun _ => True) am g := slV_exq hM hx
  refine aEnd_any g _ cm ys (ys.map bitsN) (fun m hm => by rw [List.length_map, hyl]; exact (hgm m hm).2) (fun m hm => ?_) (by simp) (fun j h1 h2 => ?_) (fun m hm z hz => ?_) _ w' (fun _ => True) hM' hlv
  ·have := (hms m (hgm m hm).1).1; omega
  ·rw [List.getElem_map]
   exact bitsN_is (by have := h8 _ (hya _ (List.getElem_mem h1)); omega)
  ·have := (hms m (hgm m hm).1).2.1 z hz; omega
 have SE : Hid (∀ w', ExQ (fun b => b = K) w w' → LV stV w' (fun b => b ≠ K) (.slice sa all.length cs) all) := fun w' hx => (hS.mono (Y := fun b => b ≠ K ∧ b < w.heap.size) fun b h1 h2 => ⟨h1, h2⟩).kept (fun b hb => hx.block b hb.2 hb.1) |>.mono fun b hb _ => hb.1
 have BE : Hid (∀ w', ExQ (fun b => b = K) w w' → Blk w' B (xs.map stV).toArray 71) := fun w' hx => hB.exq hx hBK
 obtain ⟨x0, hx0⟩ : ∃ x0, x0 = xs[i] := ⟨_, rfl⟩
 have HX0 : Hid (xs[i]? = some x0 ∧ x0 ∈ all) := ⟨by rw [hx0]; exact List.getElem?_eq_getElem hi, by rw [hx0]; exact hxa _ (List.getElem_mem hi)⟩
 obtain ⟨one, hone⟩ : ∃ one, one = endN g (xs.map bitsN) := ⟨_, rfl⟩
 have HONE : Hid (one = endN g (xs.map bitsN)) := hone
 have HO8 : Hid (one < 8 ∧ one ∈ all) := by
  have h1 := hcl m0 hm0 xs hxl hxa
  rw [← hend, ← hone] at h1
  exact ⟨h8 _ h1, h1⟩
 have cBi : w.cell? ⟨B, i, none⟩ = some (.int .u64 (x0 : Int)) := by
  rw [hB.cell, hx0]
  simp [hi, stV]
 have HCL := hide hcl
 have H8 := hide h8
 have HXA := hide hxa
 have HXL := hide hxl
 have HM0 := hide hm0
 have HEND := hide hend
 have HI := hide hi
 have HK := hide hK
 have HBW := hide hB
 obtain ⟨_, _, e0, hsl, _⟩ := id hS
 cases e0
 have hsl1 := hsl.1
 have hml := hM.1
 have hKl := hK.lt
 have hBl := hB.lt
 have hii : (i : Int) < (xs.length : Int) := by omega
 clear hcl h8 hxa hxl hm0 hend hK hS hM hB hone hx0 hg hgm hms hi
 go_enter Try.func88, Try.ntmps88
 go_upto_region 2 with fail
 have kd : Below w.heap.size w w.drew := (Below.refl _ _).drew
 have KB : Hid (∀ w', Below w.heap.size w w' → w'.cell? ⟨B, i, none⟩ = some (.int .u64 (x0 : Int))) := fun w' hb => (hb.cell (p := ⟨B, i, none⟩) hBl).trans cBi
 clear cBi
 refine wp_region_held_drew (S := Below w.heap.size w) (by kernel_rfl) kd (fun hHeld => ?_)
 generalize w.drew = w1 at *
 refine tkq (v := ?_) 0 rfl ?_ ?_
 rotate_left
 ·intro w' hSw
  go_simp <;> with_reducible rfl
 try simp only [Act.put, sqA, sqB, sqC, sqD, sqE, sqF]
 refine tkq (v := ?_) 1 rfl ?_ ?_
 rotate_left
 ·intro w' hSw
  go_simp <;> with_reducible rfl
 try simp only [Act.put, sqA, sqB, sqC, sqD, sqE, sqF]
 refine tkq (v := ?_) 3 rfl ?_ ?_
 rotate_left
 ·intro w' hSw
  go_simp <;> with_reducible rfl
 try simp only [Act.put, sqA, sqB, sqC, sqD, sqE, sqF]
 refine tkq (v := ?_) 4 rfl ?_ ?_
 rotate_left
 ·intro w' hSw
  go_simp <;> with_reducible rfl
 try simp only [Act.put, sqA, sqB, sqC, sqD, sqE, sqF]
 refine tkq (v := ?_) 5 rfl ?_ ?_
 rotate_left
 ·intro w' hSw
  go_simp <;> with_reducible rfl
 try simp only [Act.put, sqA, sqB, sqC, sqD, sqE, sqF]
 refine tkq (v := ?_) 6 rfl ?_ ?_
 rotate_left
 ·intro w' hSw
  have x0 := KB.out w' hSw
  go_simp <;> with_reducible rfl
 try simp only [Act.put, sqA, sqB, sqC, sqD, sqE, sqF]
 refine rdq 2 rfl fun K hK => ?_
 go_simp
 go_at_call 67
 refine (CE.out xs _ _ rfl HXA.out (ExQ.ofBelow kd) ((blk_lvN (BE.out _ (ExQ.ofBelow kd)) (by omega)).mono fun _ _ _ => trivial)).mono ?_
 rintro e w2 ⟨rfl, hb2⟩
 have k2 : Below w.heap.size w w2 := kd.trans (hb2.mono kd.size)
 clear hb2
 rw [← HONE.out]
 unfold stV
 go_simp
 refine hK.out _ _ (by exact k2) (fun hHeld => ?_)
 clear hK K
 try simp only [Act.put, sqA, sqB, sqC, sqD, sqE, sqF]
 refine tkq (v := ?_) 7 rfl ?_ ?_
 rotate_left
 ·intro w' hSw
  go_simp <;> with_reducible rfl
 try simp only [Act.put, sqA, sqB, sqC, sqD, sqE, sqF]
 refine tkq (v := ?_) 8 rfl ?_ ?_
 rotate_left
 ·intro w' hSw
  go_simp <;> with_reducible rfl
 try simp only [Act.put, sqA, sqB, sqC, sqD, sqE, sqF]
 refine wpAnyH_done (by kernel_rfl) ?_ _
 have X2 : Hid (ExQ (fun b => b = K) w w2) := ExQ.ofBelow k2
 have K2 : Hid (Blk w2 K (kdC ta tb (.slice sa all.length cs) T) 119) := HK.out.below k2 HK.out.lt
 have B2 : Hid (Blk w2 B (xs.map stV).toArray 71) := HBW.out.below k2 hBl
 clear KB k2 kd hHeld
 go_wp2_with fail
 refine (cloneS_any B 0 xs.length xs w2 (by omega) (fun j hj => by rw [B2.out.cell]; simp [hj])).mono ?_
 rintro e w3 ⟨ov, rfl, hown, hne, hb3⟩
 have X3 : Hid (ExQ (fun b => b = K) w w3) := X2.out.trans (ExQ.ofBelow hb3)
 have K3 := hide (K2.out.below hb3 K2.out.lt)
 obtain ⟨O, oc, rfl⟩ : ∃ O oc, ov = .slice (some ⟨O, 0, none⟩) xs.length oc := by
  rcases hown.2 with ⟨h1, _⟩ | ⟨g', cap, cur, h1, _⟩
  ·exact absurd h1 hne
  ·exact ⟨g', cap, h1⟩
 have HOW := hide hown
 have HNW : Hid (w.heap.size ≤ w2.heap.size) := X2.out.size
 have hz3 := hb3.size
 obtain ⟨N, hN⟩ : ∃ N, N = w2.heap.size := ⟨_, rfl⟩
 rw [← hN] at HOW HNW hz3
 clear hb3 hown hne X2 K2 B2 hN
 have HZ3 := hide hz3
 clear hz3
 have k2c : w3.cell? ⟨K, 2, none⟩ = some (.slice sa all.length cs) := K3.out.cell 2
 go_wp2_with fail
 clear k2c
 go_loopw [9, 29] (fun z q wr => TlI ms g la all T xs i K N O oc ta tb (.slice sa all.length cs) w z q wr) (fun z q wr => all.length - (intOf q).toNat)
 case atStart => exact ⟨⟨0, false, T, xs, Nat.zero_le _, rfl, rfl, TlR.refl _ _ _ _, (fun _ s hs => by simp at hs), K3.out, HOW.out, rfl, fun _ => rfl⟩, X3.out, HZ3.out⟩
 case round =>
  obtain ⟨⟨k, bb, T', zs, hk, rfl, rfl, hR, hC, hKr, hOr, hzl, hzs⟩, hXr, hNr⟩ := hrel
  have HR := hide hR
  have HC := hide hC
  have HKr := hide hKr
  have HOr := hide hOr
  have HZL := hide hzl
  have HZS := hide hzs
  have HXr := hide hXr
  have HNr := hide hNr
  clear hR hC hKr hOr hzl hzs hXr hNr X3 K3 HOW
  by_cases hlt : k < all.length
  ·have hki : (k : Int) < (all.length : Int) := by omega
   obtain ⟨bs, os, rfl, hbs, hcc⟩ := (SE.out wr HXr.out).at (Below.refl wr.heap.size wr) k hlt
   unfold stV at hcc
   obtain ⟨s, hs⟩ : ∃ s, s = all[k] := ⟨_, rfl⟩
   have HSA : Hid (s ∈ all) := by unfold Hid; rw [hs]; exact List.getElem_mem hlt
   have HTK : Hid (all.take (k + 1) = all.take k ++ [s]) := by unfold Hid; rw [hs]; exact List.take_succ_eq_append_getElem hlt
   rw [← hs] at hcc
   clear hs
   have HS8 : Hid (s < 8) := H8.out s HSA.out
   have hOl := (HOr.out.lt O rfl).2
   have hON := (HOr.out.lt O rfl).1
   have hOK : O ≠ K := by have := HNW.out; omega
   have fO : wr.frozen? ⟨O, i, none⟩ = false := by
    rcases HOr.out.2 with ⟨h1, _⟩ | ⟨g', cap, cur, h1, _, hh, _⟩
    ·cases h1
    ·simp at h1
     obtain ⟨rfl, rfl⟩ := h1
     simp [World.frozen?, hh]
   obtain ⟨uo, huo⟩ : ∃ u, wr.cell? ⟨O, i, none⟩ = some u := ⟨_, by
    have := HOr.out.cells (g := O) rfl i (stV (zs[i]'(by have := HZL.out; have := HI.out; omega))) (by simp [show i < zs.length by have := HZL.out; have := HI.out; omega])
    rw [addX] at this
    exact this⟩
   have O5 : Hid ((wr.setCell ⟨O, i, none⟩ (.int .u64 (s : Int))).ownsRow N 71 1 (.slice (some ⟨O, 0, none⟩) xs.length oc) xs.length ((xs.set i s).map stV)) := by
    have := row_put1X (s := s) HOr.out HI.out
    rw [HZS.out s] at this
    exact this
   have K5 : Hid (Blk (wr.setCell ⟨O, i, none⟩ (.int .u64 (s : Int))) K (kdC ta tb (.slice (some ⟨bs, os, none⟩) all.length cs) T') 119) := HKr.out.setOther _ _ (fun e => hOK e.symm)
   have X5 : Hid (ExQ (fun b => b = K) w (wr.setCell ⟨O, i, none⟩ (.int .u64 (s : Int)))) := HXr.out.setNew (by have := HNW.out; omega) _ _
   have Z5 : Hid (N ≤ (wr.setCell ⟨O, i, none⟩ (.int .u64 (s : Int))).heap.size) := by have := HNr.out; unfold Hid; simpa using this
   have HYA : Hid (∀ y ∈ xs.set i s, y ∈ all) := set_in HXA.out HSA.out
   have HE2 : Hid (endN g ((xs.set i s).map bitsN) < 8 ∧ endN g ((xs.set i s).map bitsN) ∈ all) := by
    have h1 := HCL.out m0 HM0.out (xs.set i s) (by rw [List.length_set]; exact HXL.out) HYA.out
    rw [← HEND.out] at h1
    exact ⟨H8.out _ h1, h1⟩
   have HSS : Hid (∀ t, (xs.set i s).set i t = xs.set i t) := fun t => by simp
   have HXE8 := hide (H8.out x0 HX0.out.2)
   go_upto_region 8 with fail
   generalize (wr.setCell ⟨O, i, none⟩ (.int .u64 (s : Int))) = w5 at *
   clear huo fO hcc hOl
   have kd : Below w5.heap.size w5 w5.drew := (Below.refl _ _).drew
   have hx8i : (x0 : Int) < 8 := by have := HXE8.out; omega
   have hs8i : (s : Int) < 8 := by have := HS8.out; omega
   have ho8i : (one : Int) < 8 := by have := HO8.out.1; omega
   have KP : Hid (∀ w', Below w5.heap.size w5 w' → ∀ p q, p < 8 → q < 8 → w'.cell? ⟨K, 3 + p * 8 + q, none⟩ = some (.bool (T' p q))) := fun w' hb p q hp hq => ((K5.out.below hb K5.out.lt).cell _).trans (kd_cell hp hq)
   refine wp_region_held_drew (S := Below w5.heap.size w5) (by kernel_rfl) kd (fun hHeld => ?_)
   generalize w5.drew = w6 at *
   cases hT0 : T' x0 s with
   | true =>
    have HT0 := hide hT0
    clear hT0
    refine tkq (v := ?_) 0 rfl ?_ ?_
    rotate_left
    ·intro w' hSw
     go_simp <;> with_reducible rfl
    try simp only [Act.put, sqA, sqB, sqC, sqD, sqE, sqF]
    refine tkq (v := ?_) 1 rfl ?_ ?_
    rotate_left
    ·intro w' hSw
     go_simp <;> with_reducible rfl
    try simp only [Act.put, sqA, sqB, sqC, sqD, sqE, sqF]
    refine tkq (v := ?_) 2 rfl ?_ ?_
    rotate_left
    ·intro w' hSw
     go_simp <;> with_reducible rfl
    try simp only [Act.put, sqA, sqB, sqC, sqD, sqE, sqF]
    refine tkq (v := ?_) 3 rfl ?_ ?_
    rotate_left
    ·intro w' hSw
     go_simp <;> with_reducible rfl
    try simp only [Act.put, sqA, sqB, sqC, sqD, sqE, sqF]
    refine tkq (v := ?_) 4 rfl ?_ ?_
    rotate_left
    ·intro w' hSw
     go_simp <;> with_reducible rfl
    try simp only [Act.put, sqA, sqB, sqC, sqD, sqE, sqF]
    refine tkq (v := ?_) 5 rfl ?_ ?_
    rotate_left
    ·intro w' hSw
     go_simp <;> with_reducible rfl
    try simp only [Act.put, sqA, sqB, sqC, sqD, sqE, sqF]
    refine tkq (v := ?_) 6 rfl ?_ ?_
    rotate_left
    ·intro w' hSw
     go_simp <;> with_reducible rfl
    try simp only [Act.put, sqA, sqB, sqC, sqD, sqE, sqF]
    refine tkq (v := ?_) 7 rfl ?_ ?_
    rotate_left
    ·intro w' hSw
     have x1 := KP.out w' hSw x0 s HXE8.out HS8.out
     rw [HT0.out] at x1
     go_simp <;> with_reducible rfl
    try simp only [Act.put, sqA, sqB, sqC, sqD, sqE, sqF]
    refine tkq (v := ?_) 8 rfl ?_ ?_
    rotate_left
    ·intro w' hSw
     go_simp <;> with_reducible rfl
    try simp only [Act.put, sqA, sqB, sqC, sqD, sqE, sqF]
    refine tkq (v := ?_) 9 rfl ?_ ?_
    rotate_left
    ·intro w' hSw
     go_simp <;> with_reducible rfl
    try simp only [Act.put, sqA, sqB, sqC, sqD, sqE, sqF]
    refine wpAnyH_take (i := 10) (v := undef) rfl (by kernel_rfl) (by kernel_rfl) (by kernel_rfl) (fun _ _ _ h => h) (Or.inr ⟨by rfl, rfl⟩) (by assumption) ?_
    try simp only [Act.put, sqA, sqB, sqC, sqD, sqE, sqF]
    refine wpAnyH_take (i := 11) (v := undef) rfl (by kernel_rfl) (by kernel_rfl) (by kernel_rfl) (fun _ _ _ h => h) (Or.inr ⟨by rfl, rfl⟩) (by assumption) ?_
    try simp only [Act.put, sqA, sqB, sqC, sqD, sqE, sqF]
    refine wpAnyH_take (i := 12) (v := undef) rfl (by kernel_rfl) (by kernel_rfl) (by kernel_rfl) (fun _ _ _ h => h) (Or.inr ⟨by rfl, rfl⟩) (by assumption) ?_
    try simp only [Act.put, sqA, sqB, sqC, sqD, sqE, sqF]
    refine wpAnyH_take (i := 13) (v := undef) rfl (by kernel_rfl) (by kernel_rfl) (by kernel_rfl) (fun _ _ _ h => h) (Or.inr ⟨by rfl, rfl⟩) (by assumption) ?_
    try simp only [Act.put, sqA, sqB, sqC, sqD, sqE, sqF]
    refine wpAnyH_take (i := 14) (v := undef) rfl (by kernel_rfl) (by kernel_rfl) (by kernel_rfl) (fun _ _ _ h => h) (Or.inr ⟨by rfl, rfl⟩) (by assumption) ?_
    try simp only [Act.put, sqA, sqB, sqC, sqD, sqE, sqF]
    refine wpAnyH_take (i := 15) (v := undef) rfl (by kernel_rfl) (by kernel_rfl) (by kernel_rfl) (fun _ _ _ h => h) (Or.inr ⟨by rfl, rfl⟩) (by assumption) ?_
    try simp only [Act.put, sqA, sqB, sqC, sqD, sqE, sqF]
    refine wpAnyH_take (i := 16) (v := undef) rfl (by kernel_rfl) (by kernel_rfl) (by kernel_rfl) (fun _ _ _ h => h) (Or.inr ⟨by rfl, rfl⟩) (by assumption) ?_
    try simp only [Act.put, sqA, sqB, sqC, sqD, sqE, sqF]
    refine wpAnyH_take (i := 17) (v := undef) rfl (by kernel_rfl) (by kernel_rfl) (by kernel_rfl) (fun _ _ _ h => h) (Or.inr ⟨by rfl, rfl⟩) (by assumption) ?_
    try simp only [Act.put, sqA, sqB, sqC, sqD, sqE, sqF]
    refine wpAnyH_take (i := 18) (v := undef) rfl (by kernel_rfl) (by kernel_rfl) (by kernel_rfl) (fun _ _ _ h => h) (Or.inr ⟨by rfl, rfl⟩) (by assumption) ?_
    try simp only [Act.put, sqA, sqB, sqC, sqD, sqE, sqF]
    refine wpAnyH_take (i := 19) (v := undef) rfl (by kernel_rfl) (by kernel_rfl) (by kernel_rfl) (fun _ _ _ h => h) (Or.inr ⟨by rfl, rfl⟩) (by assumption) ?_
    try simp only [Act.put, sqA, sqB, sqC, sqD, sqE, sqF]
    refine tkq (v := ?_) 20 rfl ?_ ?_
    rotate_left
    ·intro w' hSw
     go_simp <;> with_reducible rfl
    try simp only [Act.put, sqA, sqB, sqC, sqD, sqE, sqF]
    refine wpAnyH_done (by kernel_rfl) ?_ _
    have O6 := hide (ownsRow_at O5.out fun g hg => kd.block g (O5.out.lt g hg).2)
    have K6 := hide (K5.out.below kd K5.out.lt)
    have X6 : Hid (ExQ (fun b => b = K) w w6) := X5.out.trans (ExQ.ofBelow kd)
    have Z6 : Hid (N ≤ w6.heap.size) := by have h1 := Z5.out; have h2 := kd.size; unfold Hid; omega
    have HC6 : Hid (bb = false → ClT g all T xs i (all.take (k + 1))) := fun hb0 => by
     have e := HR.out.no hb0
     rw [HTK.out]
     intro y hy a ha ht
     rcases List.mem_append.1 hy with hy | hy
     ·exact HC.out hb0 y hy a ha ht
     ·simp at hy
      subst hy
      rw [HX0.out.1] at ha
      cases ha
      rw [← e]
      exact HT0.out
    clear kd KP HT0
    go_wp2_with fail
    go_roundw
    case rel => exact ⟨⟨k + 1, bb, T', xs.set i s, by omega, by go_num, rfl, HR.out, HC6.out, K6.out, O6.out, by simp, HSS.out⟩, X6.out, Z6.out⟩
    case measure => simp [intOf]; omega
   | false =>
    have HT0 := hide hT0
    clear hT0
    refine tkq (v := ?_) 0 rfl ?_ ?_
    rotate_left
    ·intro w' hSw
     go_simp <;> with_reducible rfl
    try simp only [Act.put, sqA, sqB, sqC, sqD, sqE, sqF]
    refine tkq (v := ?_) 1 rfl ?_ ?_
    rotate_left
    ·intro w' hSw
     go_simp <;> with_reducible rfl
    try simp only [Act.put, sqA, sqB, sqC, sqD, sqE, sqF]
    refine tkq (v := ?_) 2 rfl ?_ ?_
    rotate_left
    ·intro w' hSw
     go_simp <;> with_reducible rfl
    try simp only [Act.put, sqA, sqB, sqC, sqD, sqE, sqF]
    refine tkq (v := ?_) 3 rfl ?_ ?_
    rotate_left
    ·intro w' hSw
     go_simp <;> with_reducible rfl
    try simp only [Act.put, sqA, sqB, sqC, sqD, sqE, sqF]
    refine tkq (v := ?_) 4 rfl ?_ ?_
    rotate_left
    ·intro w' hSw
     go_simp <;> with_reducible rfl
    try simp only [Act.put, sqA, sqB, sqC, sqD, sqE, sqF]
    refine tkq (v := ?_) 5 rfl ?_ ?_
    rotate_left
    ·intro w' hSw
     go_simp <;> with_reducible rfl
    try simp only [Act.put, sqA, sqB, sqC, sqD, sqE, sqF]
    refine tkq (v := ?_) 6 rfl ?_ ?_
    rotate_left
    ·intro w' hSw
     go_simp <;> with_reducible rfl
    try simp only [Act.put, sqA, sqB, sqC, sqD, sqE, sqF]
    refine tkq (v := ?_) 7 rfl ?_ ?_
    rotate_left
    ·intro w' hSw
     have x1 := KP.out w' hSw x0 s HXE8.out HS8.out
     rw [HT0.out] at x1
     go_simp <;> with_reducible rfl
    try simp only [Act.put, sqA, sqB, sqC, sqD, sqE, sqF]
    refine tkq (v := ?_) 8 rfl ?_ ?_
    rotate_left
    ·intro w' hSw
     go_simp <;> with_reducible rfl
    try simp only [Act.put, sqA, sqB, sqC, sqD, sqE, sqF]
    refine tkq (v := ?_) 9 rfl ?_ ?_
    rotate_left
    ·intro w' hSw
     go_simp <;> with_reducible rfl
    try simp only [Act.put, sqA, sqB, sqC, sqD, sqE, sqF]
    refine tkq (v := ?_) 10 rfl ?_ ?_
    rotate_left
    ·intro w' hSw
     go_simp <;> with_reducible rfl
    try simp only [Act.put, sqA, sqB, sqC, sqD, sqE, sqF]
    refine tkq (v := ?_) 11 rfl ?_ ?_
    rotate_left
    ·intro w' hSw
     go_simp <;> with_reducible rfl
    try simp only [Act.put, sqA, sqB, sqC, sqD, sqE, sqF]
    refine tkq (v := ?_) 12 rfl ?_ ?_
    rotate_left
    ·intro w' hSw
     go_simp <;> with_reducible rfl
    try simp only [Act.put, sqA, sqB, sqC, sqD, sqE, sqF]
    refine tkq (v := ?_) 13 rfl ?_ ?_
    rotate_left
    ·intro w' hSw
     go_simp <;> with_reducible rfl
    try simp only [Act.put, sqA, sqB, sqC, sqD, sqE, sqF]
    refine tkq (v := ?_) 15 rfl ?_ ?_
    rotate_left
    ·intro w' hSw
     go_simp <;> with_reducible rfl
    try simp only [Act.put, sqA, sqB, sqC, sqD, sqE, sqF]
    refine tkq (v := ?_) 16 rfl ?_ ?_
    rotate_left
    ·intro w' hSw
     go_simp <;> with_reducible rfl
    try simp only [Act.put, sqA, sqB, sqC, sqD, sqE, sqF]
    refine tkq (v := ?_) 17 rfl ?_ ?_
    rotate_left
    ·intro w' hSw
     go_simp <;> with_reducible rfl
    try simp only [Act.put, sqA, sqB, sqC, sqD, sqE, sqF]
    refine rdq 14 rfl fun K hK => ?_
    go_simp
    go_at_call 67
    refine (CE.out (xs.set i s) _ _ (by simp) HYA.out (X5.out.trans (ExQ.ofBelow kd)) (by
     have h := LV.of_own (f := stV) (l := xs.set i s) (by rw [List.length_set]; exact ownsRow_at O5.out fun g hg => kd.block g (O5.out.lt g hg).2)
     exact h.mono fun _ _ _ => trivial)).mono ?_
    rintro e w7 ⟨rfl, hb7⟩
    have k7 : Below w5.heap.size w5 w7 := kd.trans (hb7.mono kd.size)
    clear hb7
    obtain ⟨e2, he2⟩ : ∃ e2, e2 = endN g ((xs.set i s).map bitsN) := ⟨_, rfl⟩
    rw [← he2] at HE2 ⊢
    have HE2E := hide he2
    clear he2
    have he8i : (e2 : Int) < 8 := by have := HE2.out.1; omega
    unfold stV
    go_simp
    refine hK.out _ _ (by exact k7) (fun hHeld => ?_)
    clear hK K
    try simp only [Act.put, sqA, sqB, sqC, sqD, sqE, sqF]
    refine tkq (v := ?_) 18 rfl ?_ ?_
    rotate_left
    ·intro w' hSw
     go_simp <;> with_reducible rfl
    try simp only [Act.put, sqA, sqB, sqC, sqD, sqE, sqF]
    refine tkq (v := ?_) 19 rfl ?_ ?_
    rotate_left
    ·intro w' hSw
     have x1 := KP.out w' hSw one e2 HO8.out.1 HE2.out.1
     go_simp <;> with_reducible rfl
    try simp only [Act.put, sqA, sqB, sqC, sqD, sqE, sqF]
    refine tkq (v := ?_) 20 rfl ?_ ?_
    rotate_left
    ·intro w' hSw
     go_simp <;> with_reducible rfl
    try simp only [Act.put, sqA, sqB, sqC, sqD, sqE, sqF]
    refine wpAnyH_done (by kernel_rfl) ?_ _
    have O7 := hide (ownsRow_at O5.out fun g hg => k7.block g (O5.out.lt g hg).2)
    have K7 := hide (K5.out.below k7 K5.out.lt)
    have X7 : Hid (ExQ (fun b => b = K) w w7) := X5.out.trans (ExQ.ofBelow k7)
    have Z7 : Hid (N ≤ w7.heap.size) := by have h1 := Z5.out; have h2 := k7.size; unfold Hid; omega
    clear kd KP k7
    cases ht : T' one e2 with
    | false =>
     have HC7 : Hid (bb = false → ClT g all T xs i (all.take (k + 1))) := fun hb0 => by
      have e := HR.out.no hb0
      rw [HTK.out]
      intro y hy a ha ht'
      rcases List.mem_append.1 hy with hy | hy
      ·exact HC.out hb0 y hy a ha ht'
      ·simp at hy
       subst hy
       rw [← e, ← HONE.out, ← HE2E.out, ht] at ht'
       cases ht'
     clear ht
     go_wp2_with fail
     go_roundw
     case rel => exact ⟨⟨k + 1, bb, T', xs.set i s, by omega, by go_num, rfl, HR.out, HC7.out, K7.out, O7.out, by simp, HSS.out⟩, X7.out, Z7.out⟩
     case measure => simp [intOf]; omega
    | true =>
     have HMK : Hid (TlR ms la all T (setTx (setTx T' x0 s true) s x0 true) true) := by
      have h1 := tl_mark (la := la) (T := T') HCL.out H8.out HM0.out HXL.out HXA.out HX0.out.1 HSA.out HT0.out (by rw [← HEND.out, ← HEND.out, ← HONE.out, ← HE2E.out]; exact ht)
      have h2 := HR.out.trans h1
      rw [Bool.true_or] at h2
      exact h2
     clear ht
     have hKl7 := K7.out.lt
     have fK : ∀ j, w7.frozen? ⟨K, j, none⟩ = false := K7.out.frozen
     have c7 : w7.cell? ⟨K, 3 + x0 * 8 + s, none⟩ = some (.bool (T' x0 s)) := (K7.out.cell _).trans (kd_cell HXE8.out HS8.out)
     have K8 := hide (K7.out.kdPut HXE8.out HS8.out true)
     have c8 : (w7.setCell ⟨K, 3 + x0 * 8 + s, none⟩ (.bool true)).cell? ⟨K, 3 + s * 8 + x0, none⟩ = some (.bool (setTx T' x0 s true s x0)) := (K8.out.cell _).trans (kd_cell HS8.out HXE8.out)
     have fK8 : ∀ j, (w7.setCell ⟨K, 3 + x0 * 8 + s, none⟩ (.bool true)).frozen? ⟨K, j, none⟩ = false := K8.out.frozen
     have K9 := hide (K8.out.kdPut HS8.out HXE8.out true)
     have O9 : Hid (((w7.setCell ⟨K, 3 + x0 * 8 + s, none⟩ (.bool true)).setCell ⟨K, 3 + s * 8 + x0, none⟩ (.bool true)).ownsRow N 71 1 (.slice (some ⟨O, 0, none⟩) xs.length oc) xs.length ((xs.set i s).map stV)) := ownsRow_at O7.out fun g hg => by
      have e : O = g := by simpa [Value.ownBlock] using hg
      subst e
      rw [Below.heap_setCell _ _ _ _ (by simpa using hOK), Below.heap_setCell _ _ _ _ (by simpa using hOK)]
     have X9 : Hid (ExQ (fun b => b = K) w ((w7.setCell ⟨K, 3 + x0 * 8 + s, none⟩ (.bool true)).setCell ⟨K, 3 + s * 8 + x0, none⟩ (.bool true))) := (X7.out.set (B := K) rfl _ _).set (B := K) rfl _ _
     have Z9 : Hid (N ≤ ((w7.setCell ⟨K, 3 + x0 * 8 + s, none⟩ (.bool true)).setCell ⟨K, 3 + s * 8 + x0, none⟩ (.bool true)).heap.size) := by have := Z7.out; unfold Hid; simpa using this
     have hb9 : N ≤ w7.heap.size := Z7.out
     have kz : N ≤ w7.drew.heap.size := hb9
     go_upto_region 9 with fail
     refine wp_region_held_drew (S := fun w' => N ≤ w'.heap.size) (by kernel_rfl) kz (fun hHeld => ?_)
     refine tkq (v := ?_) 0 rfl ?_ ?_
     rotate_left
     ·intro w' hSw
      go_simp <;> with_reducible rfl
     try simp only [Act.put, sqA, sqB, sqC, sqD, sqE, sqF]
     refine tkq (v := ?_) 1 rfl ?_ ?_
     rotate_left
     ·intro w' hSw
      go_simp <;> with_reducible rfl
     try simp only [Act.put, sqA, sqB, sqC, sqD, sqE, sqF]
     refine tkq (v := ?_) 2 rfl ?_ ?_
     rotate_left
     ·intro w' hSw
      go_simp <;> with_reducible rfl
     try simp only [Act.put, sqA, sqB, sqC, sqD, sqE, sqF]
     refine tkq (v := ?_) 6 rfl ?_ ?_
     rotate_left
     ·intro w' hSw
      go_simp <;> with_reducible rfl
     try simp only [Act.put, sqA, sqB, sqC, sqD, sqE, sqF]
     refine tkq (v := ?_) 7 rfl ?_ ?_
     rotate_left
     ·intro w' hSw
      go_simp <;> with_reducible rfl
     try simp only [Act.put, sqA, sqB, sqC, sqD, sqE, sqF]
     refine tkq (v := ?_) 8 rfl ?_ ?_
     rotate_left
     ·intro w' hSw
      go_simp <;> with_reducible rfl
     try simp only [Act.put, sqA, sqB, sqC, sqD, sqE, sqF]
     refine tkq (v := ?_) 3 rfl ?_ ?_
     rotate_left
     ·intro w' hSw
      go_simp <;> with_reducible rfl
     try simp only [Act.put, sqA, sqB, sqC, sqD, sqE, sqF]
     refine tkq (v := ?_) 4 rfl ?_ ?_
     rotate_left
     ·intro w' hSw
      go_simp <;> with_reducible rfl
     try simp only [Act.put, sqA, sqB, sqC, sqD, sqE, sqF]
     refine tkq (v := ?_) 5 rfl ?_ ?_
     rotate_left
     ·intro w' hSw
      go_simp <;> with_reducible rfl
     try simp only [Act.put, sqA, sqB, sqC, sqD, sqE, sqF]
     refine tkq (v := ?_) 11 rfl ?_ ?_
     rotate_left
     ·intro w' hSw
      go_simp <;> with_reducible rfl
     try simp only [Act.put, sqA, sqB, sqC, sqD, sqE, sqF]
     refine tkq (v := ?_) 12 rfl ?_ ?_
     rotate_left
     ·intro w' hSw
      go_simp <;> with_reducible rfl
     try simp only [Act.put, sqA, sqB, sqC, sqD, sqE, sqF]
     refine tkq (v := ?_) 13 rfl ?_ ?_
     rotate_left
     ·intro w' hSw
      go_simp <;> with_reducible rfl
     try simp only [Act.put, sqA, sqB, sqC, sqD, sqE, sqF]
     refine tkq (v := ?_) 9 rfl ?_ ?_
     rotate_left
     ·intro w' hSw
      go_simp <;> with_reducible rfl
     try simp only [Act.put, sqA, sqB, sqC, sqD, sqE, sqF]
     refine rdq 10 rfl fun K hK => ?_
     go_simp
     refine hK.out _ _ (by exact by simpa using hb9) (fun hHeld => ?_)
     clear hK K
     try simp only [Act.put, sqA, sqB, sqC, sqD, sqE, sqF]
     refine tkq (v := ?_) 14 rfl ?_ ?_
     rotate_left
     ·intro w' hSw
      go_simp <;> with_reducible rfl
     try simp only [Act.put, sqA, sqB, sqC, sqD, sqE, sqF]
     refine rdq 15 rfl fun K hK => ?_
     go_simp
     refine hK.out _ _ (by exact by simpa using hb9) (fun hHeld => ?_)
     clear hK K
     try simp only [Act.put, sqA, sqB, sqC, sqD, sqE, sqF]
     refine wpAnyH_done (by kernel_rfl) ?_ _
     go_wp2_with fail
     go_roundw
     case rel => exact ⟨⟨k + 1, true, setTx (setTx T' x0 s true) s x0 true, xs.set i s, by omega, by go_num, rfl, HMK.out, (fun h => by cases h), K9.out, O9.out, by simp, HSS.out⟩, X9.out.drew, Z9.out⟩
     case measure => simp [intOf]; omega
  ·have hki : ¬ (k : Int) < (all.length : Int) := by omega
   have htk : all.take k = all := List.take_of_length_le (by omega)
   rw [htk] at HC
   go_wp2_with fail
   go_ret
   exact ⟨bb, T', rfl, HR.out, HC.out, HKr.out, HXr.out⟩
end Go.Proofs.Ytofebfjkodceeaa
