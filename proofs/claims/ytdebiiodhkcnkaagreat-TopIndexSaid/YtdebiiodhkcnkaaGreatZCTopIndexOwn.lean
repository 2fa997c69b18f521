/- Several texts in one. -/
import Derived.Test.YtdebiiodhkcnkaaGreatZTopIndexOwn
import Derived.Test.YtdebiiodhkcnkaaGreatZBTopIndexOwn
import Derived.Deep.RegionHeld3
import Derived.Laws.EntriesVeiled
import Derived.Sort.Grow
import Derived.Maps.RangeRun
import Derived.Deep.RegionHeld
namespace Go.Proofs.YtdebiiodhkcnkaaGreat
open Go.RowKit Go.Shelf
attribute [local go_sem] Oper.semAt_some
set_option linter.unusedSimpArgs false
set_option linter.unusedVariables false
set_option maxRecDepth 8000
theorem wk_leaf {W0 W w2 W3 : World} {N0 Bs g cap k : Nat} {L : List (List Sg)} {sp : List (Sg × Nat)} {u : List Sg} {ns : List Nat} {nv v' : Value} (hh : N0 ≤ Bs) (hS : SrS W0 N0 Bs g cap k sp ns nv w2) (hz : N0 ≤ w2.heap.size) (hb : Below W.heap.size W w2)
  (hX : Blk W3 Bs #[.int .i64 (k : Int), .slice (some ⟨g, 0, none⟩) sp.length cap, nv] 90) (ho : W3.ownsRow N0 3 1 v' (ns ++ nmL L u).length (nuV (ns ++ nmL L u))) (hg : w2.grownBy W3 nv.ownBlock) (hat : ∀ b, v'.ownBlock = some b → nv.ownBlock = some b ∨ w2.heap.size ≤ b) :
  WkPost W0 N0 Bs g cap k L sp u [] ns nv W (W3.setCell ⟨Bs, 2, none⟩ v') := by
 have hge : ∀ b, nv.ownBlock = some b → N0 ≤ b := fun b hb => (hS.row.lt b hb).1
 have hne : v'.ownBlock ≠ some Bs := fun e => by
  rcases hat Bs e with h | h
  ·exact hS.own_ne h
  ·have := hS.box.lt; omega
 have hx2 := hX.set 2 v'
 refine ⟨nmL L u, v', SrP.leaf L k u, ⟨(hS.old.grown hg hz hge).setCell (p := ⟨Bs, 2, none⟩) hh v', by simpa using hx2, ownsRow_at ho fun b hb => Below.heap_setCell _ _ _ _ (fun e => hne (by have e2 : b = Bs := e; rw [← e2]; exact hb)), ownsRow_at hS.spo fun b hb => ?_⟩, ?_, fun b hv => ?_⟩
 ·have e : g = b := by simpa [Value.ownBlock] using hb
  subst e
  exact (Below.heap_setCell _ _ _ _ hS.gne.1).trans (hg.block g (hS.spo.lt g rfl).2 (fun e => hS.gne.2 e.symm))
 ·have E1 : ExQ (fun b => b = Bs ∨ nv.ownBlock = some b) W w2 := ExQ.ofBelow hb
  exact (E1.grown hg fun c hc => Or.inr (Or.inr hc)).set (B := Bs) (Or.inl rfl) 2 v'
 ·rcases hat b hv with h | h
  ·exact Or.inl h
  ·exact Or.inr (Nat.le_trans hb.size h)
set_option maxHeartbeats 4000000 in
theorem walkA {W0 : World} {N N0 Bs g cap M k : Nat} {tv : Value} {L : List (List Sg)} {y : Lay} {sp : List (Sg × Nat)} (hC : Ctx W0 N N0 Bs g cap M tv L y sp) : WkC W0 N0 Bs g cap k L y sp [] := by
 intro a u ns nv W hsp hu hD hS hz
 have ha := hsp.eq
 have hle := hD.len (SrP.leaf L k u)
 have hfew := hC.few
 rw [List.length_append] at hle
 have HLE : Hid (ns.length + (nmL L u).length ≤ 1000000) := by unfold Hid; omega
 clear hsp hD hle hfew
 subst ha
 have HU := hide hu
 have HB1 : Hid (Below W.heap.size W (W.alloc (.cells #[.pointer (some ⟨Bs, 0, none⟩)] 106))) := (Below.refl _ _).alloc (Nat.le_refl _) _
 have HS1 : Hid (SrS W0 N0 Bs g cap k sp ns nv (W.alloc (.cells #[.pointer (some ⟨Bs, 0, none⟩)] 106))) := hS.later hz HB1.out
 have HP1 : Hid (Blk (W.alloc (.cells #[.pointer (some ⟨Bs, 0, none⟩)] 106)) W.heap.size #[.pointer (some ⟨Bs, 0, none⟩)] 106) := Blk.new _ _ _
 have hnd := hC.nd HS1.out.old hu
 have hnu := hC.tri.nums hu
 obtain ⟨ma, mc, hmv⟩ := own_sliceI hnu
 have HMV := hide hmv
 rw [hmv] at hnd
 have HN1 : Hid ((W.alloc (.cells #[.pointer (some ⟨Bs, 0, none⟩)] 106)).cell? ⟨y.ad u, ofN u + 1, none⟩ = some (.slice ma (nmL L u).length mc)) := hnd.c1
 have HZ1 : Hid (N0 ≤ (W.alloc (.cells #[.pointer (some ⟨Bs, 0, none⟩)] 106)).heap.size ∧ y.ad u < N0 ∧ N0 ≤ W.heap.size ∧ W.heap.size ≠ Bs) := ⟨by simp; omega, by have := (hC.tri.node hu).lt; have := hC.size; omega, hz, by have := hS.box.lt; omega⟩
 have HBO : Hid (nv.ownBlock ≠ some W.heap.size) := fun e => by have := (hS.row.lt _ e).2; omega
 obtain ⟨na, nc, rfl⟩ := own_sliceI hS.row
 have s0 := HS1.out.box.c1
 have p0 := HP1.out.c0
 clear hS hz hu hnd hnu hmv
 unfold ndV
 generalize hPA : y.ad u = PA at *
 generalize hPO : ofN u = PO at *
 clear hPA hPO
 go_enter Tryz.func45, Tryz.ntmps45
 go_upto_region 2 with fail
 clear s0 p0
 generalize hBP : W.heap.size = BP at HP1 HZ1 HBO ⊢
 generalize W.alloc (.cells #[.pointer (some ⟨Bs, 0, none⟩)] 106) = w1 at *
 clear hBP
 refine wp_region_held_drew (S := fun w' => w'.cell? ⟨BP, 0, none⟩ = some (.pointer (some ⟨Bs, 0, none⟩)) ∧ w'.cell? ⟨PA, PO + 1, none⟩ = some (.slice ma (nmL L u).length mc)) (by kernel_rfl) (by exact ⟨HP1.out.c0, HN1.out⟩) (fun hHeld => ?_)
 have HS2 : Hid (SrS W0 N0 Bs g cap k sp ns (.slice na ns.length nc) w1.drew) := ⟨HS1.out.old.drew, HS1.out.box, HS1.out.row, HS1.out.spo⟩
 have HP2 : Hid (Blk w1.drew BP #[.pointer (some ⟨Bs, 0, none⟩)] 106) := HP1.out
 have HN2 : Hid (w1.drew.cell? ⟨PA, PO + 1, none⟩ = some (.slice ma (nmL L u).length mc)) := HN1.out
 have HZ2 : Hid (N0 ≤ w1.drew.heap.size ∧ PA < N0 ∧ N0 ≤ BP ∧ BP ≠ Bs) := HZ1.out
 have HB2 : Hid (Below W.heap.size W w1.drew) := HB1.out.drew
 obtain ⟨v', W3, hr3, ho3, hg3, hat3, va, vc, rfl⟩ := app_nums HS2.out.row HZ2.out.1 (hC.nums HS2.out.old HU.out) HLE.out
 rw [HMV.out] at hr3
 generalize w1.drew = w2 at *
 have HR3 := hide hr3
 have HP3 : Hid (Blk W3 BP #[.pointer (some ⟨Bs, 0, none⟩)] 106) := HP2.out.grown hg3 (fun e => HBO.out e.symm)
 have HN3 : Hid (W3.cell? ⟨PA, PO + 1, none⟩ = some (.slice ma (nmL L u).length mc)) := hg3.cell HN2.out (fun e => by have h1 := (HS2.out.row.lt PA e.symm).1; have h2 := HZ2.out.2.1; omega)
 have HX3 : Hid (Blk W3 Bs #[.int .i64 (k : Int), .slice (some ⟨g, 0, none⟩) sp.length cap, .slice na ns.length nc] 90) := HS2.out.box.grown hg3 (fun e => HS2.out.own_ne e.symm)
 have HFIN : Hid (WkPost W0 N0 Bs g cap k L sp u [] ns (.slice na ns.length nc) W (W3.setCell ⟨Bs, 2, none⟩ (.slice va (ns ++ nmL L u).length vc))) := wk_leaf hC.here HS2.out HZ2.out.1 HB2.out HX3.out ho3 hg3 hat3
 have HP4 : Hid (Blk (W3.setCell ⟨Bs, 2, none⟩ (.slice va (ns ++ nmL L u).length vc)) BP #[.pointer (some ⟨Bs, 0, none⟩)] 106) := HP3.out.setOther _ _ HZ2.out.2.2.2
 have HN4 : Hid ((W3.setCell ⟨Bs, 2, none⟩ (.slice va (ns ++ nmL L u).length vc)).cell? ⟨PA, PO + 1, none⟩ = some (.slice ma (nmL L u).length mc)) := (World.cell?_of_block (w := W3) (a := ⟨PA, PO + 1, none⟩) (Below.heap_setCell _ _ _ _ (by show PA ≠ Bs; have h1 := HZ2.out.2.1; have h2 := hC.here; omega))).trans HN3.out
 obtain ⟨nn, hnn⟩ : ∃ nn, (ns ++ nmL L u).length = nn := ⟨_, rfl⟩
 rw [hnn] at HR3 HFIN HP4 HN4
 clear hr3 ho3 hg3 hat3 hnn
 refine tkq (v := ?_) 0 rfl ?_ ?_
 rotate_left
 ·intro w' hSw
  obtain ⟨x0, x1⟩ := hSw
  go_simp <;> with_reducible rfl
 try simp only [Act.put, sq]
 refine tkq (v := ?_) 1 rfl ?_ ?_
 rotate_left
 ·intro w' hSw
  obtain ⟨x0, x1⟩ := hSw
  go_simp <;> with_reducible rfl
 try simp only [Act.put, sq]
 refine tkq (v := ?_) 2 rfl ?_ ?_
 rotate_left
 ·intro w' hSw
  obtain ⟨x0, x1⟩ := hSw
  go_simp <;> with_reducible rfl
 try simp only [Act.put, sq]
 refine tkq (v := ?_) 3 rfl ?_ ?_
 rotate_left
 ·intro w' hSw
  obtain ⟨x0, x1⟩ := hSw
  go_simp <;> with_reducible rfl
 try simp only [Act.put, sq]
 refine tkq (v := ?_) 5 rfl ?_ ?_
 rotate_left
 ·intro w' hSw
  obtain ⟨x0, x1⟩ := hSw
  go_simp <;> with_reducible rfl
 try simp only [Act.put, sq]
 refine tkq (v := ?_) 6 rfl ?_ ?_
 rotate_left
 ·intro w' hSw
  obtain ⟨x0, x1⟩ := hSw
  go_simp <;> with_reducible rfl
 try simp only [Act.put, sq]
 refine tkq (v := ?_) 7 rfl ?_ ?_
 rotate_left
 ·intro w' hSw
  obtain ⟨x0, x1⟩ := hSw
  go_simp <;> with_reducible rfl
 try simp only [Act.put, sq]
 refine tkq (v := ?_) 8 rfl ?_ ?_
 rotate_left
 ·intro w' hSw
  obtain ⟨x0, x1⟩ := hSw
  go_simp <;> with_reducible rfl
 try simp only [Act.put, sq]
 refine rdq 4 rfl fun K hK => ?_
 have c4 := HS2.out.box.c2
 go_simp
 refine hK.out _ _ (by exact ⟨HP2.out.c0, HN2.out⟩) (fun hHeld => ?_)
 clear hK K
 try simp only [Act.put, sq]
 clear c4
 refine rdq 9 rfl fun K hK => ?_
 refine step_append_eqX rfl _ _ _ _ rfl rfl rfl HR3.out ?_
 refine hK.out _ _ (by exact ⟨HP3.out.c0, HN3.out⟩) (fun hHeld => ?_)
 clear hK K
 try simp only [Act.put, sq]
 refine tkq (v := ?_) 10 rfl ?_ ?_
 rotate_left
 ·intro w' hSw
  obtain ⟨x0, x1⟩ := hSw
  go_simp <;> with_reducible rfl
 try simp only [Act.put, sq]
 refine tkq (v := ?_) 11 rfl ?_ ?_
 rotate_left
 ·intro w' hSw
  obtain ⟨x0, x1⟩ := hSw
  go_simp <;> with_reducible rfl
 try simp only [Act.put, sq]
 refine rdq 12 rfl fun K hK => ?_
 have hx0 := HX3.out.c2
 have hxf := HX3.out.frozen 2
 have hxl := HX3.out.lt
 go_simp
 refine hK.out _ _ (by exact ⟨HP4.out.c0, HN4.out⟩) (fun hHeld => ?_)
 clear hK K
 try simp only [Act.put, sq]
 clear hx0 hxf hxl
 refine wpAnyH_done (by kernel_rfl) ?_ _
 go_wp2_with fail
 refine bodyPost_ret (results_none rfl _ _ _) rfl ?_
 exact ⟨rfl, HFIN.out⟩
attribute [local go_sem] Oper.semAt_some
theorem emB_vsg : emB vsg = true := by simp [emB, vsg]
theorem emB_ne {s : ByteArray} {n : Nat} (h : s ≠ ⟨#[]⟩) : emB (s, n) = false := by
 unfold emB
 cases he : s.toList.isEmpty with
 | false => rfl
 | true => exact absurd (bytes_inj (by rw [List.isEmpty_iff.1 he]; simp)) h
def F1P (L : List (List Sg)) (k : Nat) (u : List Sg) (r : List Tm) (g1 : List Nat) : Prop := if k = 1 then g1 = [] else SrP L k (u ++ [vsg]) r g1
theorem wk_join {W0 W W' : World} {N0 Bs g cap k : Nat} {L : List (List Sg)} {sp : List (Sg × Nat)} {u : List Sg} {s : ByteArray} {l r : List Tm} {ns g1 g2 : List Nat} {nv nv2 : Value} (h0 : ¬ (varB s = true ∧ k ≠ 0)) (hs : s ≠ ⟨#[]⟩) (h1 : if k = 1 then g1 = [] else SrP L k (u ++ [vsg]) r g1) (h2 : if varB s = true then g2 = [] else SrP L k (u ++ [(s, l.length)]) (l ++ r) g2)
  (hS : SrS W0 N0 Bs g cap k sp (ns ++ (g1 ++ g2)) nv2 W') (hE : ExQ (fun b => b = Bs ∨ nv.ownBlock = some b) W W') (hO : ∀ b, nv2.ownBlock = some b → nv.ownBlock = some b ∨ W.heap.size ≤ b) : WkPost W0 N0 Bs g cap k L sp u (⟨s, l⟩ :: r) ns nv W W' :=
 ⟨g1 ++ g2, nv2, SrP.join h0 hs h1 h2, hS, hE, hO⟩
theorem wk_join2 {W0 W w6 w7 w8 : World} {N0 Bs g cap k : Nat} {L : List (List Sg)} {sp : List (Sg × Nat)} {u : List Sg} {s : ByteArray} {l r : List Tm} {ns g1 g2 : List Nat} {nv nv1 nv2 : Value} (h0 : ¬ (varB s = true ∧ k ≠ 0)) (hs : s ≠ ⟨#[]⟩) (hv : varB s = false) (h1 : if k = 1 then g1 = [] else SrP L k (u ++ [vsg]) r g1) (h2 : SrP L k (u ++ [(s, l.length)]) (l ++ r) g2)
  (hS : SrS W0 N0 Bs g cap k sp (ns ++ g1 ++ g2) nv2 w8) (hE : ExQ (fun b => b = Bs ∨ nv.ownBlock = some b) W w6) (hb : Below w6.heap.size w6 w7) (hE8 : ExQ (fun b => b = Bs ∨ nv1.ownBlock = some b) w7 w8) (hO : ∀ b, nv1.ownBlock = some b → nv.ownBlock = some b ∨ W.heap.size ≤ b) (hO8 : ∀ b, nv2.ownBlock = some b → nv1.ownBlock = some b ∨ w7.heap.size ≤ b) : WkPost W0 N0 Bs g cap k L sp u (⟨s, l⟩ :: r) ns nv W w8 := by
 refine wk_join h0 hs h1 (g2 := g2) (by rw [if_neg (by rw [hv]; simp)]; exact h2) (by rw [← List.append_assoc]; exact hS) ((hE.transN (ExQ.ofBelow (Q := fun _ => False) hb) fun _ h _ => h.elim).transN hE8 fun i hi hlt => ?_) fun b hb2 => ?_
 ·rcases hi with h | h
  ·exact Or.inl h
  ·rcases hO i h with h3 | h3
   ·exact Or.inr h3
   ·omega
 ·rcases hO8 b hb2 with h | h
  ·exact hO b h
  ·exact Or.inr (by have := hE.size; have := hb.size; omega)
set_option maxHeartbeats 4000000 in
theorem walkC2 {W0 : World} {N N0 Bs g cap M : Nat} {tv : Value} {L : List (List Sg)} {y : Lay} {sp : List (Sg × Nat)} {k : Nat} (hC : Ctx W0 N N0 Bs g cap M tv L y sp) {s : ByteArray} {l r : List Tm} (hr : WkC W0 N0 Bs g cap k L y sp r) (hlr : WkC W0 N0 Bs g cap k L y sp (l ++ r)) (hv : varB s = false)  (hs : s ≠ ⟨#[]⟩) (hnm : nameB s = true) (hsok : SgOk (s, l.length)) : WkC W0 N0 Bs g cap k L y sp (⟨s, l⟩ :: r) := by
 intro a u ns nv W hsp hu hD hS hz
 have h0 : ¬ (varB s = true ∧ k ≠ 0) := by simp [hv]
 have hget := hsp.get
 have hsg : sgT ⟨s, l⟩ = (s, l.length) := sgT_sym (t := ⟨s, l⟩) hv
 rw [hsg] at hget
 obtain ⟨q3, hq3⟩ : ∃ q3, q3 = a + 1 + sizeL l := ⟨_, rfl⟩
 have hget2 : sp[a]? = some ((s, l.length), q3) := by rw [hq3]; exact hget
 have HQ3 := hide hq3
 have halt := hsp.lt
 have hals := hC.short
 have hai : (a : Int) < (sp.length : Int) := by omega
 have hane : ((a : Int) == (sp.length : Int)) = false := by simp; omega
 have hane2 : ¬ (a : Int) = (sp.length : Int) := by omega
 have HSP := hide hsp
 have HU := hide hu
 have HD := hide hD
 have HZ := hide hz
 have HCx := hide hC
 have HB1 : Hid (Below W.heap.size W (W.alloc (.cells #[.pointer (some ⟨Bs, 0, none⟩)] 106))) := (Below.refl _ _).alloc (Nat.le_refl _) _
 have HS1 : Hid (SrS W0 N0 Bs g cap k sp ns nv (W.alloc (.cells #[.pointer (some ⟨Bs, 0, none⟩)] 106))) := hS.later hz HB1.out
 have HP1 : Hid (Blk (W.alloc (.cells #[.pointer (some ⟨Bs, 0, none⟩)] 106)) W.heap.size #[.pointer (some ⟨Bs, 0, none⟩)] 106) := Blk.new _ _ _
 obtain ⟨d0, d1, d2⟩ := HS1.out.spot hget2
 obtain ⟨na, nc, rfl⟩ := own_sliceI hS.row
 have HOW : Hid (∀ b, (Value.slice na ns.length nc).ownBlock = some b → b < W.heap.size) := fun b hb => (hS.row.lt b hb).2
 have HBL : Hid (Bs < W.heap.size) := hS.box.lt
 have s0 := HS1.out.box.c1
 have p0 := HP1.out.c0
 clear hS hz hu hsp hget hget2 hD halt hq3 hsg
 simp only [sgV, vsg] at d0 d1 d2
 unfold ndV
 generalize hPA : y.ad u = PA at *
 generalize hPO : ofN u = PO at *
 have HPA := hide hPA
 have HPO := hide hPO
 clear hPA hPO
 go_enter Tryz.func45, Tryz.ntmps45
 go_upto_region 3 with fail
 clear s0
 have s1 := HS1.out.box.c1
 have HB2 : Hid (Below W.heap.size W ((W.alloc (.cells #[.pointer (some ⟨Bs, 0, none⟩)] 106)).alloc (.cells #[.string s, .int .i64 (l.length : Int), .int .i64 (q3 : Int)] 87))) := HB1.out.alloc (by simp) _
 have HS2 : Hid (SrS W0 N0 Bs g cap k sp ns (.slice na ns.length nc) ((W.alloc (.cells #[.pointer (some ⟨Bs, 0, none⟩)] 106)).alloc (.cells #[.string s, .int .i64 (l.length : Int), .int .i64 (q3 : Int)] 87))) := HS1.out.later (by have := HZ.out; simp; omega) ((Below.refl _ _).alloc (Nat.le_refl _) _)
 have HP2 : Hid (Blk ((W.alloc (.cells #[.pointer (some ⟨Bs, 0, none⟩)] 106)).alloc (.cells #[.string s, .int .i64 (l.length : Int), .int .i64 (q3 : Int)] 87)) W.heap.size #[.pointer (some ⟨Bs, 0, none⟩)] 106) := HP1.out.alloc _
 have HH2 : Hid (Blk ((W.alloc (.cells #[.pointer (some ⟨Bs, 0, none⟩)] 106)).alloc (.cells #[.string s, .int .i64 (l.length : Int), .int .i64 (q3 : Int)] 87)) (W.alloc (.cells #[.pointer (some ⟨Bs, 0, none⟩)] 106)).heap.size #[.string s, .int .i64 (l.length : Int), .int .i64 (q3 : Int)] 87) := Blk.new _ _ _
 have HNE : Hid (W.heap.size < (W.alloc (.cells #[.pointer (some ⟨Bs, 0, none⟩)] 106)).heap.size) := by unfold Hid; simp
 generalize hw1 : W.alloc (.cells #[.pointer (some ⟨Bs, 0, none⟩)] 106) = w1 at *
 clear hw1
 go_upto_region 4 with fail
 clear d0 d1 d2 s1 p0 HS1 HP1
 generalize hBP : W.heap.size = BP at HP2 HNE HOW HBL HZ ⊢
 have HBP := hide hBP
 clear hBP
 generalize hBHB : w1.heap.size = BH at HH2 HNE ⊢
 generalize hw2 : w1.alloc (.cells #[.string s, .int .i64 (l.length : Int), .int .i64 (q3 : Int)] 87) = w2 at *
 clear hBHB hw2 HB1 w1
 have h20 := HH2.out.c0
 have h21 := HH2.out.c1
 have p2 := HP2.out.c0
 have k2 := HS2.out.box.c0
 go_upto_region 8 with (go_at_call 67; refine (signIsVar_any (s, l.length) w2).mono ?_; rintro e w3 ⟨rfl, hb3⟩; rw [show emB (s, l.length) = false from emB_ne hs]; have HB3 := hide hb3; clear hb3; have p3 := (HP2.out.below HB3.out HP2.out.lt).c0; have k3 := (HS2.out.box.below HB3.out HS2.out.box.lt).c0)
 clear h20 h21 p2 k2 p3 k3
 have HZ2 : Hid (N0 ≤ w2.heap.size) := Nat.le_trans HZ.out (by rw [← HBP.out]; exact HB2.out.size)
 have HS3 := hide (HS2.out.later HZ2.out HB3.out)
 have HP3 := hide (HP2.out.below HB3.out HP2.out.lt)
 have HH3 := hide (HH2.out.below HB3.out HH2.out.lt)
 have HW3 := hide (HB2.out.trans (HB3.out.mono HB2.out.size))
 have HZ3 : Hid (N0 ≤ w3.heap.size) := Nat.le_trans HZ2.out HB3.out.size
 obtain ⟨R1, hR1, hlk1⟩ := hC.look HU.out vsg ⟨Nat.zero_le _, Nat.zero_le _⟩
 have HND : Hid (∀ W', Below N0 W0 W' → W'.cell? ⟨PA, PO, none⟩ = some (.map (y.mp u))) := fun W' hb => by have h := (hC.nd hb HU.out).c0; rw [HPA.out, HPO.out] at h; exact h
 obtain ⟨R2, hR2, hlk2⟩ := hC.look HU.out (s, l.length) hsok
 generalize y.mp u = mu at HND hlk1 hlk2
 have HLK2 := hide hlk2
 have HR2 := hide hR2
 clear hlk2 hR2
 have c3 := HND.out w3 HS3.out.old
 have l3 : (Instr.lookup 55 (.map mu) (.agg #[.string ⟨#[]⟩, .int .i64 0]) false).run Tryz.prog w3 = .ok R1 w3 := hlk1 w3 HS3.out.old
 clear hlk1 HB2 HS2 HP2 HH2 HB3 HZ2 w2
 rcases hR1 with ⟨hc1, rfl⟩ | ⟨hc1, rfl⟩
 ·have HC1 := hide hc1
  clear hc1
  by_cases hk1 : k = 1
  ·have H1 : Hid (F1P L k u r []) := by unfold Hid F1P; rw [if_pos hk1]
   have HS5 : Hid (SrS W0 N0 Bs g cap k sp (ns ++ []) (.slice na ns.length nc) w3) := by rw [List.append_nil]; exact HS3.out
   have HE5 : Hid (ExQ (fun b => b = Bs ∨ (Value.slice na ns.length nc).ownBlock = some b) W w3) := ExQ.ofBelow HW3.out
   have HO5 : Hid (∀ b, (Value.slice na ns.length nc).ownBlock = some b → (Value.slice na ns.length nc).ownBlock = some b ∨ W.heap.size ≤ b) := fun b h => Or.inl h
   have p3 := HP3.out.c0
   have k3 := HS3.out.box.c0
   have hkb : ((k : Int) != 1) = false := by simp [hk1]
   have hkc : (k : Int) = 1 := by omega
   go_upto_region 11 with fail
   clear c3 l3 p3 k3 hkb hkc HS3 HW3 hk1
   refine wp_region_held_drew (S := fun w' => w'.cell? ⟨PA, PO, none⟩ = some (.map mu) ∧ w'.cell? ⟨BH, 0, none⟩ = some (.string s) ∧ w'.cell? ⟨BH, 1, none⟩ = some (.int .i64 (l.length : Int)) ∧ Below N0 W0 w') (by kernel_rfl) (by exact ⟨HND.out _ HS5.out.old.drew, HH3.out.c0, HH3.out.c1, HS5.out.old.drew⟩) (fun hHeld => ?_)
   refine tkq (v := ?_) 0 rfl ?_ ?_
   rotate_left
   ·intro w' hSw
    obtain ⟨x0, x1, x2, x3⟩ := hSw
    go_simp <;> with_reducible rfl
   try simp only [Act.put, sq]
   refine tkq (v := ?_) 1 rfl ?_ ?_
   rotate_left
   ·intro w' hSw
    obtain ⟨x0, x1, x2, x3⟩ := hSw
    go_simp <;> with_reducible rfl
   try simp only [Act.put, sq]
   refine tkq (v := ?_) 2 rfl ?_ ?_
   rotate_left
   ·intro w' hSw
    obtain ⟨x0, x1, x2, x3⟩ := hSw
    go_simp <;> with_reducible rfl
   try simp only [Act.put, sq]
   refine tkq (v := ?_) 3 rfl ?_ ?_
   rotate_left
   ·intro w' hSw
    obtain ⟨x0, x1, x2, x3⟩ := hSw
    go_simp <;> with_reducible rfl
   try simp only [Act.put, sq]
   refine tkq (v := ?_) 4 rfl ?_ ?_
   rotate_left
   ·intro w' hSw
    obtain ⟨x0, x1, x2, x3⟩ := hSw
    go_simp <;> with_reducible rfl
   try simp only [Act.put, sq]
   refine tkq (v := ?_) 5 rfl ?_ ?_
   rotate_left
   ·intro w' hSw
    obtain ⟨x0, x1, x2, x3⟩ := hSw
    go_simp <;> with_reducible rfl
   try simp only [Act.put, sq]
   refine tkq (v := ?_) 6 rfl ?_ ?_
   rotate_left
   ·intro w' hSw
    obtain ⟨x0, x1, x2, x3⟩ := hSw
    have hlk : (Instr.lookup 55 (.map mu) (.agg #[.string s, .int .i64 (l.length : Int)]) false).run Tryz.prog w' = .ok R2 w' := HLK2.out w' x3
    go_simp <;> with_reducible rfl
   try simp only [Act.put, sq]
   refine tkq (v := ?_) 7 rfl ?_ ?_
   rotate_left
   ·intro w' hSw
    obtain ⟨x0, x1, x2, x3⟩ := hSw
    go_simp <;> with_reducible rfl
   try simp only [Act.put, sq]
   refine wpAnyH_done (by kernel_rfl) ?_ _
   have HS6 : Hid (SrS W0 N0 Bs g cap k sp (ns ++ []) (.slice na ns.length nc) w3.drew) := ⟨HS5.out.old.drew, HS5.out.box, HS5.out.row, HS5.out.spo⟩
   have HE6 : Hid (ExQ (fun b => b = Bs ∨ (Value.slice na ns.length nc).ownBlock = some b) W w3.drew) := HE5.out.drew
   have HP6 : Hid (Blk w3.drew BP #[.pointer (some ⟨Bs, 0, none⟩)] 106) := HP3.out
   have HH6 : Hid (Blk w3.drew BH #[.string s, .int .i64 (l.length : Int), .int .i64 (q3 : Int)] 87) := HH3.out
   have HZ6 : Hid (N0 ≤ w3.drew.heap.size) := HZ3.out
   clear hHeld HS5 HE5 HP3 HH3
   generalize w3.drew = w6 at *
   rcases HR2.out with ⟨hc2, hr2⟩ | ⟨hc2, hr2⟩
   ·rw [hr2]
    clear hr2
    have HC2 := hide hc2
    clear hc2
    have h60 := HH6.out.c0
    have h61 := HH6.out.c1
    have p6 := HP6.out.c0
    go_upto_region 13 with (go_at_call 67; refine (signIsVar_any (s, l.length) w6).mono ?_; rintro e w7 ⟨rfl, hb7⟩; rw [show emB (s, l.length) = false from emB_ne hs]; have HB7 := hide hb7; clear hb7)
    clear h60 h61 p6
    have p7 := (HP6.out.below HB7.out HP6.out.lt).c0
    have CL := hlr (a + 1) (u ++ [(s, l.length)]) (ns ++ []) (.slice na ns.length nc) w7 HSP.out.down HC2.out (HD.out.sym h0 hs hv H1.out) (HS6.out.later HZ6.out HB7.out) (Nat.le_trans HZ6.out HB7.out.size)
    unfold ndV at CL
    rw [of_snoc, show ((a + 1 : Nat) : Int) = (a : Int) + 1 by omega] at CL
    have HCL := hide CL
    clear CL
    go_wp2_with fail
    refine HCL.out.mono ?_
    rintro e w8 ⟨rfl, g2, nv2, hg2, hS8, hE8, hO8⟩
    have HFIN : Hid (WkPost W0 N0 Bs g cap k L sp u (⟨s, l⟩ :: r) ns (.slice na ns.length nc) W w8) := wk_join2 h0 hs hv H1.out hg2 hS8 HE6.out HB7.out hE8 HO5.out hO8
    clear hg2 hS8 hE8 hO8 HCL p7
    go_wp2_with fail
    go_end0
    exact ⟨rfl, HFIN.out⟩
   ·rw [hr2]
    clear hr2
    have HFIN : Hid (WkPost W0 N0 Bs g cap k L sp u (⟨s, l⟩ :: r) ns (.slice na ns.length nc) W w6) := wk_join h0 hs H1.out (g2 := []) (by rw [if_neg (by rw [hv]; simp)]; exact SrP.none hc2) (by rw [← List.append_assoc, List.append_nil]; exact HS6.out) HE6.out HO5.out
    clear hc2
    go_wp2_with fail
    go_end0
    exact ⟨rfl, HFIN.out⟩
  ·have hkb : ((k : Int) != 1) = true := by simp; omega
   have hkc : ¬ (k : Int) = 1 := by omega
   have HK1 := hide hk1
   have CL := hr q3 (u ++ [vsg]) ns (.slice na ns.length nc) w3 (by rw [HQ3.out]; exact HSP.out.past) HC1.out (HD.out.var h0 hk1) HS3.out HZ3.out
   unfold ndV at CL
   rw [of_snoc] at CL
   have HCL := hide CL
   clear CL hk1
   have p3 := HP3.out.c0
   have k3 := HS3.out.box.c0
   have h32 := HH3.out.c2
   go_wp2_with fail
   refine HCL.out.mono ?_
   rintro e w5 ⟨rfl, G1, nv1, hg1, hS5, hE5, hO5⟩
   have H1 : Hid (F1P L k u r G1) := by unfold Hid F1P; rw [if_neg HK1.out]; exact hg1
   obtain ⟨n5, hn5⟩ : ∃ n5, n5 = (ns ++ G1).length := ⟨_, rfl⟩
   obtain ⟨n5a, n5c, hnv⟩ := own_sliceI hS5.row
   rw [← hn5] at hnv
   subst hnv
   have HS5 := hide hS5
   have HP5 : Hid (Blk w5 BP #[.pointer (some ⟨Bs, 0, none⟩)] 106) := HP3.out.exq hE5 (fun e => by rcases e with e | e; (have := HBL.out; omega); (have := HOW.out _ e; omega))
   have HH5 : Hid (Blk w5 BH #[.string s, .int .i64 (l.length : Int), .int .i64 (q3 : Int)] 87) := HH3.out.exq hE5 (fun e => by have h9 := HNE.out; rcases e with e | e; (have := HBL.out; omega); (have := HOW.out _ e; omega))
   have HE5 : Hid (ExQ (fun b => b = Bs ∨ (Value.slice na ns.length nc).ownBlock = some b) W w5) := (ExQ.ofBelow HW3.out).transN hE5 fun _ h _ => h
   have HO5 : Hid (∀ b, (Value.slice n5a n5 n5c).ownBlock = some b → (Value.slice na ns.length nc).ownBlock = some b ∨ W.heap.size ≤ b) := fun b hb => (hO5 b hb).elim Or.inl fun h => Or.inr (Nat.le_trans HW3.out.size h)
   have HZ5 : Hid (N0 ≤ w5.heap.size) := Nat.le_trans HZ3.out hE5.size
   clear hg1 hS5 hE5 hO5 HCL hn5 c3 l3 p3 k3 h32 HS3 HP3 HH3 HW3
   go_upto_region 11 with fail
   clear hkb hkc
   refine wp_region_held_drew (S := fun w' => w'.cell? ⟨PA, PO, none⟩ = some (.map mu) ∧ w'.cell? ⟨BH, 0, none⟩ = some (.string s) ∧ w'.cell? ⟨BH, 1, none⟩ = some (.int .i64 (l.length : Int)) ∧ Below N0 W0 w') (by kernel_rfl) (by exact ⟨HND.out _ HS5.out.old.drew, HH5.out.c0, HH5.out.c1, HS5.out.old.drew⟩) (fun hHeld => ?_)
   refine tkq (v := ?_) 0 rfl ?_ ?_
   rotate_left
   ·intro w' hSw
    obtain ⟨x0, x1, x2, x3⟩ := hSw
    go_simp <;> with_reducible rfl
   try simp only [Act.put, sq]
   refine tkq (v := ?_) 1 rfl ?_ ?_
   rotate_left
   ·intro w' hSw
    obtain ⟨x0, x1, x2, x3⟩ := hSw
    go_simp <;> with_reducible rfl
   try simp only [Act.put, sq]
   refine tkq (v := ?_) 2 rfl ?_ ?_
   rotate_left
   ·intro w' hSw
    obtain ⟨x0, x1, x2, x3⟩ := hSw
    go_simp <;> with_reducible rfl
   try simp only [Act.put, sq]
   refine tkq (v := ?_) 3 rfl ?_ ?_
   rotate_left
   ·intro w' hSw
    obtain ⟨x0, x1, x2, x3⟩ := hSw
    go_simp <;> with_reducible rfl
   try simp only [Act.put, sq]
   refine tkq (v := ?_) 4 rfl ?_ ?_
   rotate_left
   ·intro w' hSw
    obtain ⟨x0, x1, x2, x3⟩ := hSw
    go_simp <;> with_reducible rfl
   try simp only [Act.put, sq]
   refine tkq (v := ?_) 5 rfl ?_ ?_
   rotate_left
   ·intro w' hSw
    obtain ⟨x0, x1, x2, x3⟩ := hSw
    go_simp <;> with_reducible rfl
   try simp only [Act.put, sq]
   refine tkq (v := ?_) 6 rfl ?_ ?_
   rotate_left
   ·intro w' hSw
    obtain ⟨x0, x1, x2, x3⟩ := hSw
    have hlk : (Instr.lookup 55 (.map mu) (.agg #[.string s, .int .i64 (l.length : Int)]) false).run Tryz.prog w' = .ok R2 w' := HLK2.out w' x3
    go_simp <;> with_reducible rfl
   try simp only [Act.put, sq]
   refine tkq (v := ?_) 7 rfl ?_ ?_
   rotate_left
   ·intro w' hSw
    obtain ⟨x0, x1, x2, x3⟩ := hSw
    go_simp <;> with_reducible rfl
   try simp only [Act.put, sq]
   refine wpAnyH_done (by kernel_rfl) ?_ _
   have HS6 : Hid (SrS W0 N0 Bs g cap k sp (ns ++ G1) (.slice n5a n5 n5c) w5.drew) := ⟨HS5.out.old.drew, HS5.out.box, HS5.out.row, HS5.out.spo⟩
   have HE6 : Hid (ExQ (fun b => b = Bs ∨ (Value.slice na ns.length nc).ownBlock = some b) W w5.drew) := HE5.out.drew
   have HP6 : Hid (Blk w5.drew BP #[.pointer (some ⟨Bs, 0, none⟩)] 106) := HP5.out
   have HH6 : Hid (Blk w5.drew BH #[.string s, .int .i64 (l.length : Int), .int .i64 (q3 : Int)] 87) := HH5.out
   have HZ6 : Hid (N0 ≤ w5.drew.heap.size) := HZ5.out
   clear hHeld HS5 HE5 HP5 HH5
   generalize w5.drew = w6 at *
   rcases HR2.out with ⟨hc2, hr2⟩ | ⟨hc2, hr2⟩
   ·rw [hr2]
    clear hr2
    have HC2 := hide hc2
    clear hc2
    have h60 := HH6.out.c0
    have h61 := HH6.out.c1
    have p6 := HP6.out.c0
    go_upto_region 13 with (go_at_call 67; refine (signIsVar_any (s, l.length) w6).mono ?_; rintro e w7 ⟨rfl, hb7⟩; rw [show emB (s, l.length) = false from emB_ne hs]; have HB7 := hide hb7; clear hb7)
    clear h60 h61 p6
    have p7 := (HP6.out.below HB7.out HP6.out.lt).c0
    have CL := hlr (a + 1) (u ++ [(s, l.length)]) (ns ++ G1) (.slice n5a n5 n5c) w7 HSP.out.down HC2.out (HD.out.sym h0 hs hv H1.out) (HS6.out.later HZ6.out HB7.out) (Nat.le_trans HZ6.out HB7.out.size)
    unfold ndV at CL
    rw [of_snoc, show ((a + 1 : Nat) : Int) = (a : Int) + 1 by omega] at CL
    have HCL := hide CL
    clear CL
    go_wp2_with fail
    refine HCL.out.mono ?_
    rintro e w8 ⟨rfl, g2, nv2, hg2, hS8, hE8, hO8⟩
    have HFIN : Hid (WkPost W0 N0 Bs g cap k L sp u (⟨s, l⟩ :: r) ns (.slice na ns.length nc) W w8) := wk_join2 h0 hs hv H1.out hg2 hS8 HE6.out HB7.out hE8 HO5.out hO8
    clear hg2 hS8 hE8 hO8 HCL p7
    go_wp2_with fail
    go_end0
    exact ⟨rfl, HFIN.out⟩
   ·rw [hr2]
    clear hr2
    have HFIN : Hid (WkPost W0 N0 Bs g cap k L sp u (⟨s, l⟩ :: r) ns (.slice na ns.length nc) W w6) := wk_join h0 hs H1.out (g2 := []) (by rw [if_neg (by rw [hv]; simp)]; exact SrP.none hc2) (by rw [← List.append_assoc, List.append_nil]; exact HS6.out) HE6.out HO5.out
    clear hc2
    go_wp2_with fail
    go_end0
    exact ⟨rfl, HFIN.out⟩
 ·have H1 : Hid (F1P L k u r []) := by
   unfold Hid F1P
   split
   ·rfl
   ·exact SrP.none hc1
  have HS5 : Hid (SrS W0 N0 Bs g cap k sp (ns ++ []) (.slice na ns.length nc) w3) := by rw [List.append_nil]; exact HS3.out
  have HE5 : Hid (ExQ (fun b => b = Bs ∨ (Value.slice na ns.length nc).ownBlock = some b) W w3) := ExQ.ofBelow HW3.out
  have HO5 : Hid (∀ b, (Value.slice na ns.length nc).ownBlock = some b → (Value.slice na ns.length nc).ownBlock = some b ∨ W.heap.size ≤ b) := fun b h => Or.inl h
  go_upto_region 11 with fail
  clear c3 l3 HS3 HW3 hc1
  refine wp_region_held_drew (S := fun w' => w'.cell? ⟨PA, PO, none⟩ = some (.map mu) ∧ w'.cell? ⟨BH, 0, none⟩ = some (.string s) ∧ w'.cell? ⟨BH, 1, none⟩ = some (.int .i64 (l.length : Int)) ∧ Below N0 W0 w') (by kernel_rfl) (by exact ⟨HND.out _ HS5.out.old.drew, HH3.out.c0, HH3.out.c1, HS5.out.old.drew⟩) (fun hHeld => ?_)
  refine tkq (v := ?_) 0 rfl ?_ ?_
  rotate_left
  ·intro w' hSw
   obtain ⟨x0, x1, x2, x3⟩ := hSw
   go_simp <;> with_reducible rfl
  try simp only [Act.put, sq]
  refine tkq (v := ?_) 1 rfl ?_ ?_
  rotate_left
  ·intro w' hSw
   obtain ⟨x0, x1, x2, x3⟩ := hSw
   go_simp <;> with_reducible rfl
  try simp only [Act.put, sq]
  refine tkq (v := ?_) 2 rfl ?_ ?_
  rotate_left
  ·intro w' hSw
   obtain ⟨x0, x1, x2, x3⟩ := hSw
   go_simp <;> with_reducible rfl
  try simp only [Act.put, sq]
  refine tkq (v := ?_) 3 rfl ?_ ?_
  rotate_left
  ·intro w' hSw
   obtain ⟨x0, x1, x2, x3⟩ := hSw
   go_simp <;> with_reducible rfl
  try simp only [Act.put, sq]
  refine tkq (v := ?_) 4 rfl ?_ ?_
  rotate_left
  ·intro w' hSw
   obtain ⟨x0, x1, x2, x3⟩ := hSw
   go_simp <;> with_reducible rfl
  try simp only [Act.put, sq]
  refine tkq (v := ?_) 5 rfl ?_ ?_
  rotate_left
  ·intro w' hSw
   obtain ⟨x0, x1, x2, x3⟩ := hSw
   go_simp <;> with_reducible rfl
  try simp only [Act.put, sq]
  refine tkq (v := ?_) 6 rfl ?_ ?_
  rotate_left
  ·intro w' hSw
   obtain ⟨x0, x1, x2, x3⟩ := hSw
   have hlk : (Instr.lookup 55 (.map mu) (.agg #[.string s, .int .i64 (l.length : Int)]) false).run Tryz.prog w' = .ok R2 w' := HLK2.out w' x3
   go_simp <;> with_reducible rfl
  try simp only [Act.put, sq]
  refine tkq (v := ?_) 7 rfl ?_ ?_
  rotate_left
  ·intro w' hSw
   obtain ⟨x0, x1, x2, x3⟩ := hSw
   go_simp <;> with_reducible rfl
  try simp only [Act.put, sq]
  refine wpAnyH_done (by kernel_rfl) ?_ _
  have HS6 : Hid (SrS W0 N0 Bs g cap k sp (ns ++ []) (.slice na ns.length nc) w3.drew) := ⟨HS5.out.old.drew, HS5.out.box, HS5.out.row, HS5.out.spo⟩
  have HE6 : Hid (ExQ (fun b => b = Bs ∨ (Value.slice na ns.length nc).ownBlock = some b) W w3.drew) := HE5.out.drew
  have HP6 : Hid (Blk w3.drew BP #[.pointer (some ⟨Bs, 0, none⟩)] 106) := HP3.out
  have HH6 : Hid (Blk w3.drew BH #[.string s, .int .i64 (l.length : Int), .int .i64 (q3 : Int)] 87) := HH3.out
  have HZ6 : Hid (N0 ≤ w3.drew.heap.size) := HZ3.out
  clear hHeld HS5 HE5 HP3 HH3
  generalize w3.drew = w6 at *
  rcases HR2.out with ⟨hc2, hr2⟩ | ⟨hc2, hr2⟩
  ·rw [hr2]
   clear hr2
   have HC2 := hide hc2
   clear hc2
   have h60 := HH6.out.c0
   have h61 := HH6.out.c1
   have p6 := HP6.out.c0
   go_upto_region 13 with (go_at_call 67; refine (signIsVar_any (s, l.length) w6).mono ?_; rintro e w7 ⟨rfl, hb7⟩; rw [show emB (s, l.length) = false from emB_ne hs]; have HB7 := hide hb7; clear hb7)
   clear h60 h61 p6
   have p7 := (HP6.out.below HB7.out HP6.out.lt).c0
   have CL := hlr (a + 1) (u ++ [(s, l.length)]) (ns ++ []) (.slice na ns.length nc) w7 HSP.out.down HC2.out (HD.out.sym h0 hs hv H1.out) (HS6.out.later HZ6.out HB7.out) (Nat.le_trans HZ6.out HB7.out.size)
   unfold ndV at CL
   rw [of_snoc, show ((a + 1 : Nat) : Int) = (a : Int) + 1 by omega] at CL
   have HCL := hide CL
   clear CL
   go_wp2_with fail
   refine HCL.out.mono ?_
   rintro e w8 ⟨rfl, g2, nv2, hg2, hS8, hE8, hO8⟩
   have HFIN : Hid (WkPost W0 N0 Bs g cap k L sp u (⟨s, l⟩ :: r) ns (.slice na ns.length nc) W w8) := wk_join2 h0 hs hv H1.out hg2 hS8 HE6.out HB7.out hE8 HO5.out hO8
   clear hg2 hS8 hE8 hO8 HCL p7
   go_wp2_with fail
   go_end0
   exact ⟨rfl, HFIN.out⟩
  ·rw [hr2]
   clear hr2
   have HFIN : Hid (WkPost W0 N0 Bs g cap k L sp u (⟨s, l⟩ :: r) ns (.slice na ns.length nc) W w6) := wk_join h0 hs H1.out (g2 := []) (by rw [if_neg (by rw [hv]; simp)]; exact SrP.none hc2) (by rw [← List.append_assoc, List.append_nil]; exact HS6.out) HE6.out HO5.out
   clear hc2
   go_wp2_with fail
   go_end0
   exact ⟨rfl, HFIN.out⟩
set_option maxHeartbeats 4000000 in
theorem walkC1 {W0 : World} {N N0 Bs g cap M : Nat} {tv : Value} {L : List (List Sg)} {y : Lay} {sp : List (Sg × Nat)} (hC : Ctx W0 N N0 Bs g cap M tv L y sp) {s : ByteArray} {l r : List Tm} (hr : WkC W0 N0 Bs g cap 0 L y sp r) (hlr : WkC W0 N0 Bs g cap 0 L y sp (l ++ r)) (hv : varB s = true)  (hs : s ≠ ⟨#[]⟩) (hnm : nameB s = true) (hsok : SgOk vsg) : WkC W0 N0 Bs g cap 0 L y sp (⟨s, l⟩ :: r) := by
 intro a u ns nv W hsp hu hD hS hz
 have h0 : ¬ (varB s = true ∧ (0 : Nat) ≠ 0) := by simp
 have hget := hsp.get
 have hsg : sgT ⟨s, l⟩ = vsg := sgT_var (t := ⟨s, l⟩) hv
 rw [hsg] at hget
 obtain ⟨q3, hq3⟩ : ∃ q3, q3 = a + 1 + sizeL l := ⟨_, rfl⟩
 have hget2 : sp[a]? = some (vsg, q3) := by rw [hq3]; exact hget
 have HQ3 := hide hq3
 have halt := hsp.lt
 have hals := hC.short
 have hai : (a : Int) < (sp.length : Int) := by omega
 have hane : ((a : Int) == (sp.length : Int)) = false := by simp; omega
 have hane2 : ¬ (a : Int) = (sp.length : Int) := by omega
 have HSP := hide hsp
 have HU := hide hu
 have HD := hide hD
 have HZ := hide hz
 have HCx := hide hC
 have HB1 : Hid (Below W.heap.size W (W.alloc (.cells #[.pointer (some ⟨Bs, 0, none⟩)] 106))) := (Below.refl _ _).alloc (Nat.le_refl _) _
 have HS1 : Hid (SrS W0 N0 Bs g cap 0 sp ns nv (W.alloc (.cells #[.pointer (some ⟨Bs, 0, none⟩)] 106))) := hS.later hz HB1.out
 have HP1 : Hid (Blk (W.alloc (.cells #[.pointer (some ⟨Bs, 0, none⟩)] 106)) W.heap.size #[.pointer (some ⟨Bs, 0, none⟩)] 106) := Blk.new _ _ _
 obtain ⟨d0, d1, d2⟩ := HS1.out.spot hget2
 obtain ⟨na, nc, rfl⟩ := own_sliceI hS.row
 have HOW : Hid (∀ b, (Value.slice na ns.length nc).ownBlock = some b → b < W.heap.size) := fun b hb => (hS.row.lt b hb).2
 have HBL : Hid (Bs < W.heap.size) := hS.box.lt
 have s0 := HS1.out.box.c1
 have p0 := HP1.out.c0
 clear hS hz hu hsp hget hget2 hD halt hq3 hsg
 simp only [sgV, vsg] at d0 d1 d2
 unfold ndV
 generalize hPA : y.ad u = PA at *
 generalize hPO : ofN u = PO at *
 have HPA := hide hPA
 have HPO := hide hPO
 clear hPA hPO
 go_enter Tryz.func45, Tryz.ntmps45
 go_upto_region 3 with fail
 clear s0
 have s1 := HS1.out.box.c1
 have HB2 : Hid (Below W.heap.size W ((W.alloc (.cells #[.pointer (some ⟨Bs, 0, none⟩)] 106)).alloc (.cells #[.string ⟨#[]⟩, .int .i64 0, .int .i64 (q3 : Int)] 87))) := HB1.out.alloc (by simp) _
 have HS2 : Hid (SrS W0 N0 Bs g cap 0 sp ns (.slice na ns.length nc) ((W.alloc (.cells #[.pointer (some ⟨Bs, 0, none⟩)] 106)).alloc (.cells #[.string ⟨#[]⟩, .int .i64 0, .int .i64 (q3 : Int)] 87))) := HS1.out.later (by have := HZ.out; simp; omega) ((Below.refl _ _).alloc (Nat.le_refl _) _)
 have HP2 : Hid (Blk ((W.alloc (.cells #[.pointer (some ⟨Bs, 0, none⟩)] 106)).alloc (.cells #[.string ⟨#[]⟩, .int .i64 0, .int .i64 (q3 : Int)] 87)) W.heap.size #[.pointer (some ⟨Bs, 0, none⟩)] 106) := HP1.out.alloc _
 have HH2 : Hid (Blk ((W.alloc (.cells #[.pointer (some ⟨Bs, 0, none⟩)] 106)).alloc (.cells #[.string ⟨#[]⟩, .int .i64 0, .int .i64 (q3 : Int)] 87)) (W.alloc (.cells #[.pointer (some ⟨Bs, 0, none⟩)] 106)).heap.size #[.string ⟨#[]⟩, .int .i64 0, .int .i64 (q3 : Int)] 87) := Blk.new _ _ _
 have HNE : Hid (W.heap.size < (W.alloc (.cells #[.pointer (some ⟨Bs, 0, none⟩)] 106)).heap.size) := by unfold Hid; simp
 generalize hw1 : W.alloc (.cells #[.pointer (some ⟨Bs, 0, none⟩)] 106) = w1 at *
 clear hw1
 go_upto_region 4 with fail
 clear d0 d1 d2 s1 p0 HS1 HP1
 generalize hBP : W.heap.size = BP at HP2 HNE HOW HBL HZ ⊢
 have HBP := hide hBP
 clear hBP
 generalize hBHB : w1.heap.size = BH at HH2 HNE ⊢
 generalize hw2 : w1.alloc (.cells #[.string ⟨#[]⟩, .int .i64 0, .int .i64 (q3 : Int)] 87) = w2 at *
 clear hBHB hw2 HB1 w1
 have h20 := HH2.out.c0
 have h21 := HH2.out.c1
 have p2 := HP2.out.c0
 have k2 := HS2.out.box.c0
 go_upto_region 8 with (go_at_call 67; refine (signIsVar_any vsg w2).mono ?_; rintro e w3 ⟨rfl, hb3⟩; rw [emB_vsg]; have HB3 := hide hb3; clear hb3; have p3 := (HP2.out.below HB3.out HP2.out.lt).c0; have k3 := (HS2.out.box.below HB3.out HS2.out.box.lt).c0)
 clear h20 h21 p2 k2 p3 k3
 have HZ2 : Hid (N0 ≤ w2.heap.size) := Nat.le_trans HZ.out (by rw [← HBP.out]; exact HB2.out.size)
 have HS3 := hide (HS2.out.later HZ2.out HB3.out)
 have HP3 := hide (HP2.out.below HB3.out HP2.out.lt)
 have HH3 := hide (HH2.out.below HB3.out HH2.out.lt)
 have HW3 := hide (HB2.out.trans (HB3.out.mono HB2.out.size))
 have HZ3 : Hid (N0 ≤ w3.heap.size) := Nat.le_trans HZ2.out HB3.out.size
 obtain ⟨R1, hR1, hlk1⟩ := hC.look HU.out vsg ⟨Nat.zero_le _, Nat.zero_le _⟩
 have HND : Hid (∀ W', Below N0 W0 W' → W'.cell? ⟨PA, PO, none⟩ = some (.map (y.mp u))) := fun W' hb => by have h := (hC.nd hb HU.out).c0; rw [HPA.out, HPO.out] at h; exact h
 obtain ⟨R2, hR2, hlk2⟩ := hC.look HU.out vsg hsok
 generalize y.mp u = mu at HND hlk1 hlk2
 have HLK2 := hide hlk2
 have HR2 := hide hR2
 clear hlk2 hR2
 have c3 := HND.out w3 HS3.out.old
 have l3 : (Instr.lookup 55 (.map mu) (.agg #[.string ⟨#[]⟩, .int .i64 0]) false).run Tryz.prog w3 = .ok R1 w3 := hlk1 w3 HS3.out.old
 clear hlk1 HB2 HS2 HP2 HH2 HB3 HZ2 w2
 rcases hR1 with ⟨hc1, rfl⟩ | ⟨hc1, rfl⟩
 ·have HC1 := hide hc1
  clear hc1
  have hk1 : (0 : Nat) ≠ 1 := by omega
  have HK1 := hide hk1
  have CL := hr q3 (u ++ [vsg]) ns (.slice na ns.length nc) w3 (by rw [HQ3.out]; exact HSP.out.past) HC1.out (HD.out.var h0 hk1) HS3.out HZ3.out
  unfold ndV at CL
  rw [of_snoc] at CL
  have HCL := hide CL
  clear CL hk1
  have p3 := HP3.out.c0
  have k3 := HS3.out.box.c0
  have h32 := HH3.out.c2
  go_wp2_with fail
  refine HCL.out.mono ?_
  rintro e w5 ⟨rfl, G1, nv1, hg1, hS5, hE5, hO5⟩
  have H1 : Hid (F1P L 0 u r G1) := by unfold Hid F1P; rw [if_neg HK1.out]; exact hg1
  obtain ⟨n5, hn5⟩ : ∃ n5, n5 = (ns ++ G1).length := ⟨_, rfl⟩
  obtain ⟨n5a, n5c, hnv⟩ := own_sliceI hS5.row
  rw [← hn5] at hnv
  subst hnv
  have HS5 := hide hS5
  have HP5 : Hid (Blk w5 BP #[.pointer (some ⟨Bs, 0, none⟩)] 106) := HP3.out.exq hE5 (fun e => by rcases e with e | e; (have := HBL.out; omega); (have := HOW.out _ e; omega))
  have HH5 : Hid (Blk w5 BH #[.string ⟨#[]⟩, .int .i64 0, .int .i64 (q3 : Int)] 87) := HH3.out.exq hE5 (fun e => by have h9 := HNE.out; rcases e with e | e; (have := HBL.out; omega); (have := HOW.out _ e; omega))
  have HE5 : Hid (ExQ (fun b => b = Bs ∨ (Value.slice na ns.length nc).ownBlock = some b) W w5) := (ExQ.ofBelow HW3.out).transN hE5 fun _ h _ => h
  have HO5 : Hid (∀ b, (Value.slice n5a n5 n5c).ownBlock = some b → (Value.slice na ns.length nc).ownBlock = some b ∨ W.heap.size ≤ b) := fun b hb => (hO5 b hb).elim Or.inl fun h => Or.inr (Nat.le_trans HW3.out.size h)
  have HZ5 : Hid (N0 ≤ w5.heap.size) := Nat.le_trans HZ3.out hE5.size
  clear hg1 hS5 hE5 hO5 HCL hn5 c3 l3 p3 k3 h32 HS3 HP3 HH3 HW3
  go_upto_region 11 with fail
  refine wp_region_held_drew (S := fun w' => w'.cell? ⟨PA, PO, none⟩ = some (.map mu) ∧ w'.cell? ⟨BH, 0, none⟩ = some (.string ⟨#[]⟩) ∧ w'.cell? ⟨BH, 1, none⟩ = some (.int .i64 0) ∧ Below N0 W0 w') (by kernel_rfl) (by exact ⟨HND.out _ HS5.out.old.drew, HH5.out.c0, HH5.out.c1, HS5.out.old.drew⟩) (fun hHeld => ?_)
  refine tkq (v := ?_) 0 rfl ?_ ?_
  rotate_left
  ·intro w' hSw
   obtain ⟨x0, x1, x2, x3⟩ := hSw
   go_simp <;> with_reducible rfl
  try simp only [Act.put, sq]
  refine tkq (v := ?_) 1 rfl ?_ ?_
  rotate_left
  ·intro w' hSw
   obtain ⟨x0, x1, x2, x3⟩ := hSw
   go_simp <;> with_reducible rfl
  try simp only [Act.put, sq]
  refine tkq (v := ?_) 2 rfl ?_ ?_
  rotate_left
  ·intro w' hSw
   obtain ⟨x0, x1, x2, x3⟩ := hSw
   go_simp <;> with_reducible rfl
  try simp only [Act.put, sq]
  refine tkq (v := ?_) 3 rfl ?_ ?_
  rotate_left
  ·intro w' hSw
   obtain ⟨x0, x1, x2, x3⟩ := hSw
   go_simp <;> with_reducible rfl
  try simp only [Act.put, sq]
  refine tkq (v := ?_) 4 rfl ?_ ?_
  rotate_left
  ·intro w' hSw
   obtain ⟨x0, x1, x2, x3⟩ := hSw
   go_simp <;> with_reducible rfl
  try simp only [Act.put, sq]
  refine tkq (v := ?_) 5 rfl ?_ ?_
  rotate_left
  ·intro w' hSw
   obtain ⟨x0, x1, x2, x3⟩ := hSw
   go_simp <;> with_reducible rfl
  try simp only [Act.put, sq]
  refine tkq (v := ?_) 6 rfl ?_ ?_
  rotate_left
  ·intro w' hSw
   obtain ⟨x0, x1, x2, x3⟩ := hSw
   have hlk : (Instr.lookup 55 (.map mu) (.agg #[.string ⟨#[]⟩, .int .i64 0]) false).run Tryz.prog w' = .ok R2 w' := HLK2.out w' x3
   go_simp <;> with_reducible rfl
  try simp only [Act.put, sq]
  refine tkq (v := ?_) 7 rfl ?_ ?_
  rotate_left
  ·intro w' hSw
   obtain ⟨x0, x1, x2, x3⟩ := hSw
   go_simp <;> with_reducible rfl
  try simp only [Act.put, sq]
  refine wpAnyH_done (by kernel_rfl) ?_ _
  have HS6 : Hid (SrS W0 N0 Bs g cap 0 sp (ns ++ G1) (.slice n5a n5 n5c) w5.drew) := ⟨HS5.out.old.drew, HS5.out.box, HS5.out.row, HS5.out.spo⟩
  have HE6 : Hid (ExQ (fun b => b = Bs ∨ (Value.slice na ns.length nc).ownBlock = some b) W w5.drew) := HE5.out.drew
  have HP6 : Hid (Blk w5.drew BP #[.pointer (some ⟨Bs, 0, none⟩)] 106) := HP5.out
  have HH6 : Hid (Blk w5.drew BH #[.string ⟨#[]⟩, .int .i64 0, .int .i64 (q3 : Int)] 87) := HH5.out
  have HZ6 : Hid (N0 ≤ w5.drew.heap.size) := HZ5.out
  clear hHeld HS5 HE5 HP5 HH5
  generalize w5.drew = w6 at *
  rcases HR2.out with ⟨hc2, hr2⟩ | ⟨hc2, hr2⟩
  ·rw [hr2]
   clear hr2
   have HC2 := hide hc2
   clear hc2
   have h60 := HH6.out.c0
   have h61 := HH6.out.c1
   have p6 := HP6.out.c0
   have HFIN : Hid (∀ w7, Below w6.heap.size w6 w7 → WkPost W0 N0 Bs g cap 0 L sp u (⟨s, l⟩ :: r) ns (.slice na ns.length nc) W w7) := fun w7 hb => wk_join h0 hs H1.out (g2 := []) (by rw [if_pos hv]) (by rw [← List.append_assoc, List.append_nil]; exact HS6.out.later HZ6.out hb) (HE6.out.transN (ExQ.ofBelow (Q := fun _ => False) hb) fun _ h _ => h.elim) HO5.out
   go_wp2_with (go_at_call 67; refine (signIsVar_any vsg w6).mono ?_; rintro e w7 ⟨rfl, hb7⟩; rw [emB_vsg]; have HB7 := hide hb7; clear hb7)
   go_end0
   exact ⟨rfl, HFIN.out _ HB7.out⟩
  ·rw [hr2]
   clear hr2
   have HFIN : Hid (WkPost W0 N0 Bs g cap 0 L sp u (⟨s, l⟩ :: r) ns (.slice na ns.length nc) W w6) := wk_join h0 hs H1.out (g2 := []) (by rw [if_pos hv]) (by rw [← List.append_assoc, List.append_nil]; exact HS6.out) HE6.out HO5.out
   clear hc2
   go_wp2_with fail
   go_end0
   exact ⟨rfl, HFIN.out⟩
 ·have H1 : Hid (F1P L 0 u r []) := by
   unfold Hid F1P
   split
   ·rfl
   ·exact SrP.none hc1
  have HS5 : Hid (SrS W0 N0 Bs g cap 0 sp (ns ++ []) (.slice na ns.length nc) w3) := by rw [List.append_nil]; exact HS3.out
  have HE5 : Hid (ExQ (fun b => b = Bs ∨ (Value.slice na ns.length nc).ownBlock = some b) W w3) := ExQ.ofBelow HW3.out
  have HO5 : Hid (∀ b, (Value.slice na ns.length nc).ownBlock = some b → (Value.slice na ns.length nc).ownBlock = some b ∨ W.heap.size ≤ b) := fun b h => Or.inl h
  go_upto_region 11 with fail
  clear c3 l3 HS3 HW3 hc1
  refine wp_region_held_drew (S := fun w' => w'.cell? ⟨PA, PO, none⟩ = some (.map mu) ∧ w'.cell? ⟨BH, 0, none⟩ = some (.string ⟨#[]⟩) ∧ w'.cell? ⟨BH, 1, none⟩ = some (.int .i64 0) ∧ Below N0 W0 w') (by kernel_rfl) (by exact ⟨HND.out _ HS5.out.old.drew, HH3.out.c0, HH3.out.c1, HS5.out.old.drew⟩) (fun hHeld => ?_)
  refine tkq (v := ?_) 0 rfl ?_ ?_
  rotate_left
  ·intro w' hSw
   obtain ⟨x0, x1, x2, x3⟩ := hSw
   go_simp <;> with_reducible rfl
  try simp only [Act.put, sq]
  refine tkq (v := ?_) 1 rfl ?_ ?_
  rotate_left
  ·intro w' hSw
   obtain ⟨x0, x1, x2, x3⟩ := hSw
   go_simp <;> with_reducible rfl
  try simp only [Act.put, sq]
  refine tkq (v := ?_) 2 rfl ?_ ?_
  rotate_left
  ·intro w' hSw
   obtain ⟨x0, x1, x2, x3⟩ := hSw
   go_simp <;> with_reducible rfl
  try simp only [Act.put, sq]
  refine tkq (v := ?_) 3 rfl ?_ ?_
  rotate_left
  ·intro w' hSw
   obtain ⟨x0, x1, x2, x3⟩ := hSw
   go_simp <;> with_reducible rfl
  try simp only [Act.put, sq]
  refine tkq (v := ?_) 4 rfl ?_ ?_
  rotate_left
  ·intro w' hSw
   obtain ⟨x0, x1, x2, x3⟩ := hSw
   go_simp <;> with_reducible rfl
  try simp only [Act.put, sq]
  refine tkq (v := ?_) 5 rfl ?_ ?_
  rotate_left
  ·intro w' hSw
   obtain ⟨x0, x1, x2, x3⟩ := hSw
   go_simp <;> with_reducible rfl
  try simp only [Act.put, sq]
  refine tkq (v := ?_) 6 rfl ?_ ?_
  rotate_left
  ·intro w' hSw
   obtain ⟨x0, x1, x2, x3⟩ := hSw
   have hlk : (Instr.lookup 55 (.map mu) (.agg #[.string ⟨#[]⟩, .int .i64 0]) false).run Tryz.prog w' = .ok R2 w' := HLK2.out w' x3
   go_simp <;> with_reducible rfl
  try simp only [Act.put, sq]
  refine tkq (v := ?_) 7 rfl ?_ ?_
  rotate_left
  ·intro w' hSw
   obtain ⟨x0, x1, x2, x3⟩ := hSw
   go_simp <;> with_reducible rfl
  try simp only [Act.put, sq]
  refine wpAnyH_done (by kernel_rfl) ?_ _
  have HS6 : Hid (SrS W0 N0 Bs g cap 0 sp (ns ++ []) (.slice na ns.length nc) w3.drew) := ⟨HS5.out.old.drew, HS5.out.box, HS5.out.row, HS5.out.spo⟩
  have HE6 : Hid (ExQ (fun b => b = Bs ∨ (Value.slice na ns.length nc).ownBlock = some b) W w3.drew) := HE5.out.drew
  have HP6 : Hid (Blk w3.drew BP #[.pointer (some ⟨Bs, 0, none⟩)] 106) := HP3.out
  have HH6 : Hid (Blk w3.drew BH #[.string ⟨#[]⟩, .int .i64 0, .int .i64 (q3 : Int)] 87) := HH3.out
  have HZ6 : Hid (N0 ≤ w3.drew.heap.size) := HZ3.out
  clear hHeld HS5 HE5 HP3 HH3
  generalize w3.drew = w6 at *
  rcases HR2.out with ⟨hc2, hr2⟩ | ⟨hc2, hr2⟩
  ·rw [hr2]
   clear hr2
   have HC2 := hide hc2
   clear hc2
   have h60 := HH6.out.c0
   have h61 := HH6.out.c1
   have p6 := HP6.out.c0
   have HFIN : Hid (∀ w7, Below w6.heap.size w6 w7 → WkPost W0 N0 Bs g cap 0 L sp u (⟨s, l⟩ :: r) ns (.slice na ns.length nc) W w7) := fun w7 hb => wk_join h0 hs H1.out (g2 := []) (by rw [if_pos hv]) (by rw [← List.append_assoc, List.append_nil]; exact HS6.out.later HZ6.out hb) (HE6.out.transN (ExQ.ofBelow (Q := fun _ => False) hb) fun _ h _ => h.elim) HO5.out
   go_wp2_with (go_at_call 67; refine (signIsVar_any vsg w6).mono ?_; rintro e w7 ⟨rfl, hb7⟩; rw [emB_vsg]; have HB7 := hide hb7; clear hb7)
   go_end0
   exact ⟨rfl, HFIN.out _ HB7.out⟩
  ·rw [hr2]
   clear hr2
   have HFIN : Hid (WkPost W0 N0 Bs g cap 0 L sp u (⟨s, l⟩ :: r) ns (.slice na ns.length nc) W w6) := wk_join h0 hs H1.out (g2 := []) (by rw [if_pos hv]) (by rw [← List.append_assoc, List.append_nil]; exact HS6.out) HE6.out HO5.out
   clear hc2
   go_wp2_with fail
   go_end0
   exact ⟨rfl, HFIN.out⟩
attribute [local go_sem] Oper.semAt_some
theorem own_loop {W : World} {N0 n lp : Nat} {nv : Value} {xs : List Value} {r : Loop} (h : W.ownsRow N0 3 1 nv n xs) (hl : W.heap[lp]? = some (.loop r)) : nv.ownBlock ≠ some lp := fun e => by
 rcases h.2 with ⟨h2, _⟩ | ⟨g', cap', cur, h2, _, hg, _⟩
 ·rw [h2] at e; cases e
 ·rw [h2] at e
  have e2 : g' = lp := by simpa [Value.ownBlock] using e
  subst e2
  rw [hg] at hl; cases hl
theorem own_def {W : World} {N0 n D : Nat} {nv : Value} {xs : List Value} {d : Option (List Deferred)} (h : W.ownsRow N0 3 1 nv n xs) (hl : W.heap[D]? = some (.deferred d)) : nv.ownBlock ≠ some D := fun e => by
 rcases h.2 with ⟨h2, _⟩ | ⟨g', cap', cur, h2, _, hg, _⟩
 ·rw [h2] at e; cases e
 ·rw [h2] at e
  have e2 : g' = D := by simpa [Value.ownBlock] using e
  subst e2
  rw [hg] at hl; cases hl
theorem SrS.gloop {W0 : World} {N0 Bs g cap : Nat} {kk : Nat} {sp : List (Sg × Nat)} {ns : List Nat} {nv : Value} {W : World} {lp : Nat} {r : Loop} (h : SrS W0 N0 Bs g cap kk sp ns nv W) (hl : W.heap[lp]? = some (.loop r)) : g ≠ lp := fun e => by
 obtain ⟨cs, hg⟩ := h.gob
 unfold Blk at hg
 rw [e, hl] at hg; cases hg
theorem SrS.gdef {W0 : World} {N0 Bs g cap : Nat} {kk : Nat} {sp : List (Sg × Nat)} {ns : List Nat} {nv : Value} {W : World} {lp : Nat} {r : Option (List Deferred)} (h : SrS W0 N0 Bs g cap kk sp ns nv W) (hl : W.heap[lp]? = some (.deferred r)) : g ≠ lp := fun e => by
 obtain ⟨cs, hg⟩ := h.gob
 unfold Blk at hg
 rw [e, hl] at hg; cases hg
theorem SrS.kept {W0 : World} {N0 Bs g cap : Nat} {kk : Nat} {sp : List (Sg × Nat)} {ns : List Nat} {nv : Value} {W W' : World} (h : SrS W0 N0 Bs g cap kk sp ns nv W) (hb : Below N0 W W') (h1 : W'.heap[Bs]? = W.heap[Bs]?) (h2 : ∀ b, nv.ownBlock = some b → W'.heap[b]? = W.heap[b]?) (h3 : W'.heap[g]? = W.heap[g]?) : SrS W0 N0 Bs g cap kk sp ns nv W' :=
 ⟨h.old.trans hb, h1.trans h.box, ownsRow_at h.row h2, ownsRow_at h.spo fun b hb => by
  have e : g = b := by simpa [Value.ownBlock] using hb
  subst e; exact h3⟩
structure JwE (W0 : World) (N0 Bs g cap k : Nat) (L : List (List Sg)) (sp : List (Sg × Nat)) (u : List Sg) (r : List Tm) (ns : List Nat) (q3 BP BH D lp : Nat) (r' : Loop) (GO : Option Obj) (pre : List (List Sg)) (f : Nat → Prop) (W : World) (gs : List Nat) (nv : Value) : Prop where
 bh : ∀ z ∈ pre, Bh L u z
 got : SrG L k r pre gs
 srs : SrS W0 N0 Bs g cap k sp (ns ++ gs) nv W
 own : ∀ b, f b ↔ (b = Bs ∨ nv.ownBlock = some b ∨ b = BP ∨ b = BH ∨ b = D ∨ b = lp ∨ b = g)
 bp : Blk W BP #[.pointer (some ⟨Bs, 0, none⟩)] 106
 bb : Blk W BH #[.string ⟨#[]⟩, .int .i64 0, .int .i64 (q3 : Int)] 87
 df : W.heap[D]? = some (.deferred (some []))
 lo : W.heap[lp]? = some (.loop r')
 go_ : W.heap[g]? = GO
def Jw (W0 : World) (N0 Bs g cap k : Nat) (L : List (List Sg)) (sp : List (Sg × Nat)) (u : List Sg) (r : List Tm) (ns : List Nat) (q3 BP BH D lp : Nat) (r' : Loop) (GO : Option Obj) : TkX := fun pre f W => ∃ gs nv, JwE W0 N0 Bs g cap k L sp u r ns q3 BP BH D lp r' GO pre f W gs nv
theorem Jw.ok {W0 : World} {N0 Bs g cap k : Nat} {L : List (List Sg)} {sp : List (Sg × Nat)} {u : List Sg} {r : List Tm} {ns : List Nat} {q3 BP BH D lp : Nat} {r' : Loop} {GO : Option Obj} (h0 : N0 ≤ Bs) (h1 : N0 ≤ BP) (h2 : N0 ≤ BH) (h3 : N0 ≤ D) (h4 : N0 ≤ lp) (h5 : N0 ≤ g) : TkXOk N0 W0 (Jw W0 N0 Bs g cap k L sp u r ns q3 BP BH D lp r' GO) where
 old := fun ⟨gs, nv, h⟩ => h.srs.old
 inside := fun ⟨gs, nv, h⟩ b hb => by
  rcases (h.own b).1 hb with rfl | hb | rfl | rfl | rfl | rfl | rfl
  ·exact ⟨h.srs.box.lt, h0⟩
  ·exact ⟨(h.srs.row.lt b hb).2, (h.srs.row.lt b hb).1⟩
  ·exact ⟨h.bp.lt, h1⟩
  ·exact ⟨h.bb.lt, h2⟩
  ·exact ⟨(Array.getElem?_eq_some_iff.1 h.df).1, h3⟩
  ·exact ⟨(Array.getElem?_eq_some_iff.1 h.lo).1, h4⟩
  ·exact ⟨(h.srs.spo.lt _ rfl).2, h5⟩
 abide := fun ⟨gs, nv, h⟩ hz hb hk => ⟨gs, nv, h.bh, h.got, h.srs.kept hb (hk _ ((h.own _).2 (Or.inl rfl))) (fun b hv => hk _ ((h.own _).2 (Or.inr (Or.inl hv)))) (hk _ ((h.own _).2 (Or.inr (Or.inr (Or.inr (Or.inr (Or.inr (Or.inr rfl)))))))), h.own,
  (hk _ ((h.own _).2 (Or.inr (Or.inr (Or.inl rfl))))).trans h.bp, (hk _ ((h.own _).2 (Or.inr (Or.inr (Or.inr (Or.inl rfl)))))).trans h.bb, (hk _ ((h.own _).2 (Or.inr (Or.inr (Or.inr (Or.inr (Or.inl rfl))))))).trans h.df, (hk _ ((h.own _).2 (Or.inr (Or.inr (Or.inr (Or.inr (Or.inr (Or.inl rfl)))))))).trans h.lo, (hk _ ((h.own _).2 (Or.inr (Or.inr (Or.inr (Or.inr (Or.inr (Or.inr rfl)))))))).trans h.go_⟩
theorem JwE.add {W0 : World} {N0 Bs g cap k : Nat} {L : List (List Sg)} {sp : List (Sg × Nat)} {u : List Sg} {r : List Tm} {ns : List Nat} {q3 BP BH D lp : Nat} {r' rb : Loop} {GO : Option Obj} {pre : List (List Sg)} {f : Nat → Prop} {W W6 : World} {gs : List Nat} {nv : Value} {x : List Sg} (h : JwE W0 N0 Bs g cap k L sp u r ns q3 BP BH D lp r' GO pre f W gs nv) (hz : N0 ≤ W.heap.size) (h4 : N0 ≤ lp) (hBs : Bs ≠ BP ∧ Bs ≠ BH ∧ Bs ≠ D ∧ Bs ≠ lp) (hl : BP ≠ lp ∧ BH ≠ lp ∧ D ≠ lp)
  (hx : Bh L u x) (hn : x ∉ pre) (hw : WkPost W0 N0 Bs g cap k L sp x r (ns ++ gs) nv (W.putObj lp (.loop rb)) W6) :
  W6.heap[lp]? = some (.loop rb) ∧ ∃ f', Jw W0 N0 Bs g cap k L sp u r ns q3 BP BH D lp r' GO (pre ++ [x]) f' (W6.putObj lp (.loop r')) ∧ ExQ f W (W6.putObj lp (.loop r')) ∧ ∀ b, f' b → f b ∨ W.heap.size ≤ b := by
 obtain ⟨g2, nv2, w1, w2, w3, w4⟩ := hw
 have hlt : lp < W.heap.size := (Array.getElem?_eq_some_iff.1 h.lo).1
 have hzV : (W.putObj lp (.loop rb)).heap.size = W.heap.size := by simp
 have kV : ∀ b, b ≠ lp → (W.putObj lp (.loop rb)).heap[b]? = W.heap[b]? := fun b hb => World.putObj_heap_other hb
 have nlo := own_loop h.srs.row h.lo
 have ndf := own_def h.srs.row h.df
 have nbp := own_blk h.srs.row (by decide) h.bp
 have nbb := own_blk h.srs.row (by decide) h.bb
 have k6 : ∀ b, b < W.heap.size → b ≠ Bs → nv.ownBlock ≠ some b → W6.heap[b]? = (W.putObj lp (.loop rb)).heap[b]? := fun b hb h1 h2 => w3.block b (by rw [hzV]; exact hb) (fun e => e.elim h1 h2)
 have hs6 := w3.size
 rw [hzV] at hs6
 have lo6 : W6.heap[lp]? = some (.loop rb) := (k6 lp hlt (Ne.symm hBs.2.2.2) nlo).trans (World.putObj_heap_same hlt)
 have k7 : ∀ b, b ≠ lp → (W6.putObj lp (.loop r')).heap[b]? = W6.heap[b]? := fun b hb => World.putObj_heap_other hb
 have n2lo : nv2.ownBlock ≠ some lp := own_loop w2.row lo6
 have all : ∀ b, b < W.heap.size → b ≠ Bs → nv.ownBlock ≠ some b → b ≠ lp → (W6.putObj lp (.loop r')).heap[b]? = W.heap[b]? := fun b hb h1 h2 h3 => (k7 b h3).trans ((k6 b hb h1 h2).trans (kV b h3))
 refine ⟨lo6, fun b => (b = Bs ∨ nv2.ownBlock = some b ∨ b = BP ∨ b = BH ∨ b = D ∨ b = lp ∨ b = g), ⟨gs ++ g2, nv2, fun z hz => ?_, h.got.add h.bh hx hn w1, ?_, fun b => Iff.rfl, ?_, ?_, ?_, ?_, ?_⟩, ?_, fun b hb => ?_⟩
 ·rcases List.mem_append.1 hz with hz | hz
  ·exact h.bh z hz
  ·have e : z = x := by simpa using hz
   rw [e]; exact hx
 ·rw [← List.append_assoc]
  refine w2.kept ⟨rfl, rfl, rfl, by simp, fun b hb => k7 b (by omega)⟩ (k7 _ hBs.2.2.2) (fun b hv => k7 b fun e => n2lo (by rw [← e]; exact hv)) (k7 _ (w2.gloop lo6))
 ·exact (all BP h.bp.lt (Ne.symm hBs.1) nbp hl.1).trans h.bp
 ·exact (all BH h.bb.lt (Ne.symm hBs.2.1) nbb hl.2.1).trans h.bb
 ·exact (all D (Array.getElem?_eq_some_iff.1 h.df).1 (Ne.symm hBs.2.2.1) ndf hl.2.2).trans h.df
 ·exact World.putObj_heap_same (by omega)
 ·exact (all g (h.srs.spo.lt g rfl).2 h.srs.gne.1 h.srs.gne.2 (h.srs.gloop h.lo)).trans h.go_
 ·refine ⟨w3.os, w3.tape, w3.output, by simp; omega, fun b hb hn2 => all b hb (fun e => hn2 ((h.own b).2 (Or.inl e))) (fun e => hn2 ((h.own b).2 (Or.inr (Or.inl e)))) (fun e => hn2 ((h.own b).2 (Or.inr (Or.inr (Or.inr (Or.inr (Or.inr (Or.inl e))))))))⟩
 ·rcases hb with hb | hb | hb
  ·exact Or.inl ((h.own b).2 (Or.inl hb))
  ·rcases w4 b hb with h5 | h5
   ·exact Or.inl ((h.own b).2 (Or.inr (Or.inl h5)))
   ·exact Or.inr (by rw [hzV] at h5; exact h5)
  ·exact Or.inl ((h.own b).2 (Or.inr (Or.inr hb)))
set_option maxHeartbeats 8000000 in
theorem walkB {W0 : World} {N N0 Bs g cap M : Nat} {tv : Value} {L : List (List Sg)} {y : Lay} {sp : List (Sg × Nat)} {k : Nat} (hC : Ctx W0 N N0 Bs g cap M tv L y sp) {s : ByteArray} {l r : List Tm} (hr : WkC W0 N0 Bs g cap k L y sp r) (hv : varB s = true) (hk : k ≠ 0) : WkC W0 N0 Bs g cap k L y sp (⟨s, l⟩ :: r) := by
 intro a u ns nv W hsp hu hD hS hz
 have hget := hsp.get
 have hsg : sgT ⟨s, l⟩ = vsg := sgT_var (t := ⟨s, l⟩) hv
 rw [hsg] at hget
 obtain ⟨q3, hq3⟩ : ∃ q3, q3 = a + 1 + sizeL l := ⟨_, rfl⟩
 have hget2 : sp[a]? = some (vsg, q3) := by rw [hq3]; exact hget
 have HQ3 := hide hq3
 have halt := hsp.lt
 have hals := hC.short
 have hai : (a : Int) < (sp.length : Int) := by omega
 have hane : ((a : Int) == (sp.length : Int)) = false := by simp; omega
 have hane2 : ¬ (a : Int) = (sp.length : Int) := by omega
 have hkb : ((k : Int) != 0) = true := by simp; omega
 have hkc : ¬ (k : Int) = 0 := by omega
 have HSP := hide hsp
 have HU := hide hu
 have HD := hide hD
 have HZ := hide hz
 have HB1 : Hid (Below W.heap.size W (W.alloc (.cells #[.pointer (some ⟨Bs, 0, none⟩)] 106))) := (Below.refl _ _).alloc (Nat.le_refl _) _
 have HS1 : Hid (SrS W0 N0 Bs g cap k sp ns nv (W.alloc (.cells #[.pointer (some ⟨Bs, 0, none⟩)] 106))) := hS.later hz HB1.out
 have HP1 : Hid (Blk (W.alloc (.cells #[.pointer (some ⟨Bs, 0, none⟩)] 106)) W.heap.size #[.pointer (some ⟨Bs, 0, none⟩)] 106) := Blk.new _ _ _
 obtain ⟨d0, d1, d2⟩ := HS1.out.spot hget2
 obtain ⟨na, nc, rfl⟩ := own_sliceI hS.row
 have HOW : Hid (∀ b, (Value.slice na ns.length nc).ownBlock = some b → b < W.heap.size ∧ N0 ≤ b) := fun b hb => ⟨(hS.row.lt b hb).2, (hS.row.lt b hb).1⟩
 have HBL : Hid (Bs < W.heap.size) := hS.box.lt
 have s0 := HS1.out.box.c1
 have p0 := HP1.out.c0
 clear hS hz hu hsp hget hget2 hD halt hq3 hsg
 simp only [sgV, vsg] at d0 d1 d2
 refine (callsIn_wide (n := 9)).1 ?_
 refine callsIn_of_wp_marks Tryz.func45 rfl trivial ?_ rfl
 simp only [Tryz.ntmps45, List.size_toArray, List.length_cons, List.length_nil, Nat.reduceAdd, Nat.reduceSub, Array.replicate_succ, Array.replicate_zero, List.push_toArray, List.append_toArray, List.nil_append, List.cons_append]
 have HB2 : Hid (Below W.heap.size W ((W.alloc (.cells #[.pointer (some ⟨Bs, 0, none⟩)] 106)).alloc (.cells #[.string ⟨#[]⟩, .int .i64 0, .int .i64 (q3 : Int)] 87))) := HB1.out.alloc (by simp) _
 have HS2 : Hid (SrS W0 N0 Bs g cap k sp ns (.slice na ns.length nc) ((W.alloc (.cells #[.pointer (some ⟨Bs, 0, none⟩)] 106)).alloc (.cells #[.string ⟨#[]⟩, .int .i64 0, .int .i64 (q3 : Int)] 87))) := HS1.out.later (by have := HZ.out; simp; omega) ((Below.refl _ _).alloc (Nat.le_refl _) _)
 have HP2 : Hid (Blk ((W.alloc (.cells #[.pointer (some ⟨Bs, 0, none⟩)] 106)).alloc (.cells #[.string ⟨#[]⟩, .int .i64 0, .int .i64 (q3 : Int)] 87)) W.heap.size #[.pointer (some ⟨Bs, 0, none⟩)] 106) := HP1.out.alloc _
 have HH2 : Hid (Blk ((W.alloc (.cells #[.pointer (some ⟨Bs, 0, none⟩)] 106)).alloc (.cells #[.string ⟨#[]⟩, .int .i64 0, .int .i64 (q3 : Int)] 87)) (W.heap.size + 1) #[.string ⟨#[]⟩, .int .i64 0, .int .i64 (q3 : Int)] 87) := by
  have h := Blk.new (W.alloc (.cells #[.pointer (some ⟨Bs, 0, none⟩)] 106)) #[.string ⟨#[]⟩, .int .i64 0, .int .i64 (q3 : Int)] 87
  rw [World.size_alloc] at h
  exact h
 have hz2 : ((W.alloc (.cells #[.pointer (some ⟨Bs, 0, none⟩)] 106)).alloc (.cells #[.string ⟨#[]⟩, .int .i64 0, .int .i64 (q3 : Int)] 87)).heap.size = W.heap.size + 2 := by simp
 gi_wp2
 clear d0 d1 d2 s0 p0 HS1 HP1 HB1
 generalize ((W.alloc (.cells #[.pointer (some ⟨Bs, 0, none⟩)] 106)).alloc (.cells #[.string ⟨#[]⟩, .int .i64 0, .int .i64 (q3 : Int)] 87)) = w2 at *
 refine ⟨trivial, (callsIn_wide.2 (signIsVar_any vsg w2)).mono ?_⟩
 rintro e w3 ⟨rfl, hb3⟩
 rw [emB_vsg]
 have HS3 := hide (HS2.out.later (by have := HZ.out; omega) hb3)
 have HP3 := hide (HP2.out.below hb3 HP2.out.lt)
 have HH3 := hide (HH2.out.below hb3 HH2.out.lt)
 have HW3 := hide (HB2.out.trans (hb3.mono HB2.out.size))
 have hz3 : W.heap.size + 2 ≤ w3.heap.size := by have := hb3.size; omega
 clear hb3 HB2 HS2 HP2 HH2 hz2
 clear w2
 have p3 := HP3.out.c0
 have k3 := HS3.out.box.c0
 gi_wp2
 clear p3 k3
 refine ⟨trivial, (callsIn_wide.2 (behind_any y u w3)).mono ?_⟩
 rintro e w4 ⟨rfl, hw4⟩
 have HS4 : Hid (SrS W0 N0 Bs g cap k sp ns (.slice na ns.length nc) w4) := by rw [hw4]; exact HS3.out.later (by have := HZ.out; omega) ((Below.refl _ _).alloc (Nat.le_refl _) _)
 have HP4 : Hid (Blk w4 W.heap.size #[.pointer (some ⟨Bs, 0, none⟩)] 106) := by rw [hw4]; exact HP3.out.alloc _
 have HH4 : Hid (Blk w4 (W.heap.size + 1) #[.string ⟨#[]⟩, .int .i64 0, .int .i64 (q3 : Int)] 87) := by rw [hw4]; exact HH3.out.alloc _
 have HN4 : Hid (Blk w4 w3.heap.size #[ndV y u] 83) := by rw [hw4]; exact Blk.new _ _ _
 have HW4 : Hid (Below W.heap.size W w4) := by rw [hw4]; exact HW3.out.alloc (by omega) _
 have hz4 : w4.heap.size = w3.heap.size + 1 := by rw [hw4]; simp
 clear hw4 HS3 HP3 HH3 HW3
 gi_wp2
 have HHR := hide hr
 clear hr
 refine wp_range (gf := 83) (lb := #[.pointer (some ⟨w3.heap.size, 0, none⟩)]) rfl (enters_of Tryz.func83 (by kernel_rfl) rfl) ?_
 intro r' hr1 hr2 hr3 hr4 hr5 hr6
 have HZ0 := HZ.out
 have hz5 : ((w4.alloc (.deferred (some []))).alloc (.loop r')).heap.size = w4.heap.size + 2 := by simp
 have HB5 : Hid (Below w4.heap.size w4 ((w4.alloc (.deferred (some []))).alloc (.loop r'))) := ((Below.refl _ _).alloc (Nat.le_refl _) _).alloc (by simp) _
 have HD5 : Hid (((w4.alloc (.deferred (some []))).alloc (.loop r')).heap[w4.heap.size]? = some (.deferred (some []))) := (Below.heap_alloc _ _ _ (by simp)).trans (heap_alloc_new _ _)
 have HL5 : Hid (((w4.alloc (.deferred (some []))).alloc (.loop r')).heap[w4.heap.size + 1]? = some (.loop r')) := by
  have h := heap_alloc_new (w4.alloc (.deferred (some []))) (.loop r')
  rw [World.size_alloc] at h
  exact h
 generalize ((w4.alloc (.deferred (some []))).alloc (.loop r')) = W5 at *
 have hD3 : W.heap.size + 3 ≤ w4.heap.size := by omega
 have HS5 := hide (HS4.out.later (by omega) HB5.out)
 have HP5 := hide (HP4.out.below HB5.out HP4.out.lt)
 have HH5 := hide (HH4.out.below HB5.out HH4.out.lt)
 have HN5 := hide (HN4.out.below HB5.out HN4.out.lt)
 have HW5 := hide (HW4.out.trans (HB5.out.mono (by omega)))
 clear hz4 HS4 HP4 HH4 HN4 HW4 HB5 hz3
 generalize hDD : w4.heap.size = D at *
 have HZ5 := hide hz5
 clear hDD hz5
 obtain ⟨rb, hrb⟩ : ∃ rb : Loop, rb = { r' with state := .busy } := ⟨_, rfl⟩
 have HJ5 : Hid (Jw W0 N0 Bs g cap k L sp u r ns q3 W.heap.size (W.heap.size + 1) D (D + 1) r' W5.heap[g]? [] (fun b => b = Bs ∨ (Value.slice na ns.length nc).ownBlock = some b ∨ b = W.heap.size ∨ b = W.heap.size + 1 ∨ b = D ∨ b = D + 1 ∨ b = g) W5) :=
  ⟨[], .slice na ns.length nc, (fun z hz => by cases hz), SrG.nil L k r, by rw [List.append_nil]; exact HS5.out, fun b => Iff.rfl, HP5.out, HH5.out, HD5.out, HL5.out, rfl⟩
 have hbl := HBL.out
 have RH : RndX (D + 1) y (Bh L u) (Jw W0 N0 Bs g cap k L sp u r ns q3 W.heap.size (W.heap.size + 1) D (D + 1) r' W5.heap[g]?) := by
  intro n pre x f W' hxn hxb hpre hj
  obtain ⟨gs, nv', hj⟩ := hj
  have hzW : N0 ≤ W'.heap.size := by have := (Array.getElem?_eq_some_iff.1 hj.lo).1; omega
  have HSV : Hid (SrS W0 N0 Bs g cap k sp (ns ++ gs) nv' (W'.putObj (D + 1) (.loop rb))) := hj.srs.kept ⟨rfl, rfl, rfl, by simp, fun b hb => World.putObj_heap_other (by omega)⟩ (World.putObj_heap_other (by omega)) (fun b hb => World.putObj_heap_other (fun e => own_loop hj.srs.row hj.lo (by rw [← e]; exact hb))) (World.putObj_heap_other (hj.srs.gloop hj.lo))
  have HPV : Hid (Blk (W'.putObj (D + 1) (.loop rb)) W.heap.size #[.pointer (some ⟨Bs, 0, none⟩)] 106) := (World.putObj_heap_other (by omega)).trans hj.bp
  have HHV : Hid (Blk (W'.putObj (D + 1) (.loop rb)) (W.heap.size + 1) #[.string ⟨#[]⟩, .int .i64 0, .int .i64 (q3 : Int)] 87) := (World.putObj_heap_other (by omega)).trans hj.bb
  have CL := HHR.out q3 x (ns ++ gs) nv' (W'.putObj (D + 1) (.loop rb)) (by rw [HQ3.out]; exact HSP.out.past) hxb.1 (HD.out.past hv hk hj.got hj.bh hxb hxn) HSV.out (by simp; exact hzW)
  have HCL := hide CL
  have HADD : Hid (∀ W6, WkPost W0 N0 Bs g cap k L sp x r (ns ++ gs) nv' (W'.putObj (D + 1) (.loop rb)) W6 → W6.heap[D + 1]? = some (.loop rb) ∧ ∃ f', Jw W0 N0 Bs g cap k L sp u r ns q3 W.heap.size (W.heap.size + 1) D (D + 1) r' W5.heap[g]? (pre ++ [x]) f' (W6.putObj (D + 1) (.loop r')) ∧ ExQ f W' (W6.putObj (D + 1) (.loop r')) ∧ ∀ b, f' b → f b ∨ W'.heap.size ≤ b) := fun W6 hw => hj.add hzW (by omega) ⟨by omega, by omega, by omega, by omega⟩ ⟨by omega, by omega, by omega⟩ hxb hxn hw
  have hlo := hj.lo
  clear CL hj HJ5 HN5 HS5 HP5 HH5 HW5 HD5 HL5
  refine yield_on hrb hr5 hr6 hr4 hr3 hlo hr1 hr2 rfl ?_
  clear hr1 hr2 hr3 hr4 hr5 hr6
  gi_wp2
  refine ⟨hlo, ?_⟩
  clear hlo hrb
  have pV := HPV.out.c0
  have hV := HHV.out.c2
  generalize W'.putObj (D + 1) (.loop rb) = V at *
  gi_wp2
  refine ⟨trivial, fun h => by simp [Fence.wide] at h, (CallsIn.inRound (D + 1) (callsIn_wide.2 HCL.out)).mono ?_⟩
  rintro e W6 ⟨rfl, hw⟩
  obtain ⟨ha1, ha2⟩ := HADD.out W6 hw
  have HA1 := hide ha1
  have HA2 := hide ha2
  clear ha1 ha2 hw HCL HADD pV hV
  gi_wp2
  exact ⟨HA1.out, HA2.out⟩
 refine (behind1_any hC.tri hC.size (Jw.ok hC.here (by omega) (by omega) (by omega) (by omega) hC.gat) RH hC.len u HU.out (fun x h => h) w3.heap.size _ W5 HJ5.out HN5.out).mono ?_
 rintro e Wf ⟨hret, vs, f', hps, ⟨gs, nv', hJ⟩, hex, hf⟩
 refine ⟨hret, hJ.lo, ?_⟩
 have kg : ∀ b, b ≠ D + 1 → (Wf.putObj (D + 1) (.loop { r' with state := .exhausted })).heap[b]? = Wf.heap[b]? := fun b h => World.putObj_heap_other h
 have HGD : Hid ((Wf.putObj (D + 1) (.loop { r' with state := .exhausted })).heap[D]? = some (.deferred (some []))) := (kg D (by omega)).trans hJ.df
 have HFIN : Hid (WkPost W0 N0 Bs g cap k L sp u (⟨s, l⟩ :: r) ns (.slice na ns.length nc) W ((Wf.putObj (D + 1) (.loop { r' with state := .exhausted })).putObj D (.deferred none))) := by
  have kh : ∀ b, b ≠ D → b ≠ D + 1 → ((Wf.putObj (D + 1) (.loop { r' with state := .exhausted })).putObj D (.deferred none)).heap[b]? = Wf.heap[b]? := fun b h1 h2 => (World.putObj_heap_other h1).trans (kg b h2)
  have nlo := own_loop hJ.srs.row hJ.lo
  have ndf := own_def hJ.srs.row hJ.df
  refine ⟨gs, nv', hJ.got.done hps hv hk, hJ.srs.kept ⟨rfl, rfl, rfl, by simp, fun b hb => kh b (by omega) (by omega)⟩ (kh Bs (by omega) (by omega)) (fun b hb => kh b (fun e => ndf (by rw [← e]; exact hb)) (fun e => nlo (by rw [← e]; exact hb))) (kh g (hJ.srs.gdef hJ.df) (hJ.srs.gloop hJ.lo)), ⟨hex.os.trans HW5.out.os, hex.tape.trans HW5.out.tape, hex.output.trans HW5.out.output, by have h1 := hex.size; have h2 := HW5.out.size; simp; omega, fun b hb hn => ?_⟩, fun b hb => ?_⟩
  ·by_cases hbg : b = g
   ·rw [hbg]
    exact (kh g (hJ.srs.gdef hJ.df) (hJ.srs.gloop hJ.lo)).trans (hJ.go_.trans (HW5.out.block g (by rw [← hbg]; exact hb)))
   refine (kh b (by omega) (by omega)).trans ((hex.block b (by have := HW5.out.size; omega) (fun e => ?_)).trans (HW5.out.block b hb))
   rcases e with e | e | e | e | e | e | e
   ·exact hn (Or.inl e)
   ·exact hn (Or.inr e)
   ·omega
   ·omega
   ·omega
   ·omega
   ·exact hbg e
  ·rcases hf b ((hJ.own b).2 (Or.inr (Or.inl hb))) with h | h
   ·rcases h with e | e | e | e | e | e | e
    ·exact absurd (by rw [← e]; exact hb) hJ.srs.own_ne
    ·exact Or.inl e
    ·exact Or.inr (by omega)
    ·exact Or.inr (by omega)
    ·exact Or.inr (by omega)
    ·exact Or.inr (by omega)
    ·exact absurd (by rw [← e]; exact hb) hJ.srs.gne.2
   ·exact Or.inr (by have := HW5.out.size; omega)
 clear hret hps hJ hex hf RH hr1 hr2 hr3 hr4 hr5 hr6 kg hrb HJ5 HN5 HS5 HP5 HH5 HW5 HD5 HL5
 generalize (Wf.putObj (D + 1) (.loop { r' with state := .exhausted })) = Wg at *
 gi_wp2
 refine ⟨by simp, .inl ⟨_, _, rfl, run_takeDeferred HGD.out, ?_⟩⟩
 refine ⟨.tuple #[], ?_, rfl, HFIN.out⟩
 simp [results, Tryz.results45, go_sem]
theorem walk_any {W0 : World} {N N0 Bs g cap M : Nat} {tv : Value} {L : List (List Sg)} {y : Lay} {sp : List (Sg × Nat)} {k : Nat} (hC : Ctx W0 N N0 Bs g cap M tv L y sp) : ∀ (m : Nat) (ts : List Tm), sizeL ts ≤ m → errL ts = 0 → sizeL ts ≤ 1000 → WkC W0 N0 Bs g cap k L y sp ts
 | _, [], _, _, _ => walkA hC
 | 0, t :: r, hm, _, _ => by rw [sizeI_cons] at hm; omega
 | m + 1, ⟨s, l⟩ :: r, hm, he, hz => by
  rw [sizeI_cons] at hm hz
  have hm2 : 1 + (sizeL l + sizeL r) ≤ m + 1 := hm
  have hz2 : 1 + (sizeL l + sizeL r) ≤ 1000 := hz
  obtain ⟨h1, h2⟩ := errL_cons_zero.1 he
  obtain ⟨hn, _, hl⟩ := errL_knot h1
  have hr := walk_any (k := k) hC m r (by omega) h2 (by omega)
  have hlr := walk_any (k := k) hC m (l ++ r) (by rw [sizeL_append]; omega) (errL_append_zero.2 ⟨hl, h2⟩) (by rw [sizeL_append]; omega)
  have hs : s ≠ ⟨#[]⟩ := fun e => by rw [e] at hn; exact absurd hn (by decide)
  by_cases hv : varB s = true
  ·by_cases hk : k = 0
   ·subst hk
    exact walkC1 hC hr hlr hv hs hn ⟨Nat.zero_le _, Nat.zero_le _⟩
   ·exact walkB hC hr hv hk
  ·have hv' : varB s = false := by simpa using hv
   have h3 : s.size ≤ 8 := by simp [nameB] at hn; omega
   have h4 := sizeL_len l
   exact walkC2 hC hr hlr hv' hs hn ⟨by show s.size ≤ _; omega, by show l.length ≤ _; omega⟩
open Go.RowKit
def KlSet (Mt : Nat → Prop) (w : World) (F O : Nat) (s : ByteArray) (u : Value) (cF : Array Value) (wr : World) : Prop :=
 ExQ (fun b => b = F ∨ Mt b) w wr ∧ Blk wr (w.heap.size + 1) #[.string ⟨#[]⟩, .slice none 0 0] 26 ∧ Blk wr O #[.string s, u] 26 ∧ Blk wr F cF 191 ∧ O < wr.heap.size
theorem kl_set {Mt : Nat → Prop} {w wr w1 w3 : World} {F O : Nat} {s : ByteArray} {u v : Value} {cF cF' : Array Value} {o2 : Obj} (hFw : F < w.heap.size) (hM : ∀ b, Mt b → b < w.heap.size) (hO : w.heap.size + 2 ≤ O) (h : KlSet Mt w F O s u cF wr) (hu : ∀ k, u.ownBlock = some k → O + 1 ≤ k)
  (he1 : ExQ (fun b => b = F ∨ Mt b) wr w1) (hF1 : Blk w1 F cF' 191) (hg : (w1.alloc o2).grownBy w3 u.ownBlock) : KlSet Mt w F O s v cF' (w3.setCell ⟨O, 1, none⟩ v) := by
 obtain ⟨h1, h2, h3, h4, h5⟩ := h
 have hne : ∀ b, b < O + 1 → some b ≠ u.ownBlock := fun b hb e => by have := hu b e.symm; omega
 have hQ : ∀ b, w.heap.size ≤ b → ¬ (b = F ∨ Mt b) := fun b hb h => by
  rcases h with h | h
  ·omega
  ·have := hM b h; omega
 have hs1 := he1.size
 have hs3 := hg.size
 simp at hs3
 refine ⟨(((h1.trans he1).alloc o2).grown hg (fun k hk => Or.inl (by have := hu k hk; omega))).setNew (by omega) _ _, ?_, ?_, ?_, by simp [World.setCell]; omega⟩
 ·exact (((h2.exq he1 (hQ _ (by omega))).alloc o2).grown hg (hne _ (by omega))).setOther _ _ (by omega)
 ·exact (((h3.exq he1 (hQ _ (by omega))).alloc o2).grown hg (hne _ (by omega))).set 1 _
 ·exact ((hF1.alloc o2).grown hg (hne _ (by omega))).setOther _ _ (by omega)
theorem kl_row {Q : Nat → Prop} {wr w1 w3 : World} {O : Nat} {u : Value} {L : List Tm} {xs : List Value} {o2 : Obj} {s' : ByteArray} {a1 : Option Addr} {n1 c1 g cap : Nat} {t : Tm} (hQ : ∀ b, Q b → b < O) (hOr : O < wr.heap.size) (hrow : Row wr (O + 1) 26 (fun _ => False) u L xs)
  (he1 : ExQ Q wr w1) (ht : TV w1 (fun b => wr.heap.size ≤ b) (.agg #[.string s', .slice a1 n1 c1]) t)
  (hown : w3.ownsRow (O + 1) 26 2 (.slice (some ⟨g, 0, none⟩) (L.length + 1) cap) (L.length + 1) (xs ++ [.string s', .slice a1 n1 c1])) (hg : (w1.alloc o2).grownBy w3 u.ownBlock) (hat : u.ownBlock = some g ∨ g = (w1.alloc o2).heap.size) :
  Row (w3.setCell ⟨O, 1, none⟩ (.slice (some ⟨g, 0, none⟩) (L.length + 1) cap)) (O + 1) 26 (fun _ => False) (.slice (some ⟨g, 0, none⟩) (L.length + 1) cap) (L ++ [t]) (xs ++ [.string s', .slice a1 n1 c1]) := by
 obtain ⟨wm, hbm, hsm, hem⟩ := he1.mid
 have hrm := hrow.exq hem (fun b hb => by have := hQ b hb; omega) (fun _ _ h => h)
 exact (hrm.push (w1 := w1) (w2 := w1.alloc o2) (w3 := w3) (by omega) (fun _ h => h.elim) hbm (ht.mono fun b h _ => Or.inr (by omega)) o2 rfl hown hg hat).setCell (by omega) (fun h => h) _
def KlE (E : Ev) (O : Nat) (f : Bool) (Y : Nat → Prop) (u : Value) (f' : Bool) (Y' : Nat → Prop) (wr : World) : Prop :=
 E f' Y' wr ∧ (∀ b, Y' b → Y b ∨ O + 1 ≤ b) ∧ (∀ b, Y' b → some b ≠ u.ownBlock) ∧ (f = true → f' = true)
def KlInv (E : Ev) (Mt : Nat → Prop) (lk : ByteArray → Option Tm) (w : World) (F O : Nat) (s : ByteArray) (sv : Value) (l : List Tm) (n : Nat) (f : Bool) (Y : Nat → Prop) (i : Value) (wr : World) : Prop :=
 ∃ (k : Nat) (u : Value) (f' : Bool) (Y' : Nat → Prop), k ≤ l.length ∧ i = .int .i64 (k : Int) ∧ KlE E O f Y u f' Y' wr ∧
  ((∃ (m : Nat) (xs : List Value) (Mk : List Tm), Mk.length = k ∧ (m : Int) = (n : Int) - 1 - sizeL Mk ∧ KlSet Mt w F O s u #[.int .i64 (m : Int), sv] wr ∧ Row wr (O + 1) 26 (fun _ => False) u Mk xs ∧ (f' = false → Mk = gL lk (l.take k))) ∨
   (KlSet Mt w F O s u #[.int .i64 (-1), sv] wr ∧ (∃ a9 l9 c9, u = .slice a9 l9 c9) ∧ (f' = false → n < 1 + sizeL (gL lk l))))
theorem kl_ev {E : Ev} {Mt : Nat → Prop} (hE : EvOk E Mt) {O : Nat} {f f' f1 : Bool} {Y Y' Y1 : Nat → Prop} {u : Value} {wr w1 w3 : World} {o2 : Obj} {g cap n9 : Nat} {x : Value} (hYw : ∀ b, Y b → b < O) (h : KlE E O f Y u f' Y' wr) (hu : ∀ k, u.ownBlock = some k → k < wr.heap.size) (hOr : O < wr.heap.size) (hsz : wr.heap.size ≤ w1.heap.size)
  (hE1 : E f1 Y1 w1) (hsub : ∀ b, Y1 b → Y' b ∨ wr.heap.size ≤ b) (hff : f' = true → f1 = true) (hg : (w1.alloc o2).grownBy w3 u.ownBlock) (hat : u.ownBlock = some g ∨ g = (w1.alloc o2).heap.size) :
  KlE E O f Y (.slice (some ⟨g, 0, none⟩) n9 cap) f1 Y1 (w3.setCell ⟨O, 1, none⟩ x) := by
 obtain ⟨h1, h2, h3, h4⟩ := h
 have hin := hE.inY _ _ _ hE1
 have hno : ∀ b, Y1 b → some b ≠ u.ownBlock := fun b hb e => by
  rcases hsub b hb with h | h
  ·exact h3 b h e
  ·have := hu b e.symm; omega
 have hsb : ∀ b, Y1 b → Y b ∨ O + 1 ≤ b := fun b hb => by
  rcases hsub b hb with h | h
  ·exact h2 b h
  ·right; omega
 refine ⟨hE.keep _ _ _ _ hE1 fun b hb => ?_, hsb, fun b hb e => ?_, fun h => hff (h4 h)⟩
 ·have hbO : b ≠ O := fun e => by
   rcases hsb b hb with h | h
   ·have := hYw b h; omega
   ·omega
  have hbl := hin b hb
  rw [Below.heap_setCell _ _ _ _ (by simpa using hbO), hg.block b (by simp; omega) (hno b hb), Below.heap_alloc _ _ _ hbl]
 ·have e2 : b = g := by simpa [Value.ownBlock] using e
  subst e2
  rcases hat with h | h
  ·exact hno b hb h.symm
  ·have := hin b hb; simp at h; omega
theorem kl_end {E : Ev} {Mt : Nat → Prop} (hE : EvOk E Mt) {w wr : World} {F O : Nat} {s : ByteArray} {u sv : Value} {tgt : Tm} {n : Nat} {f f' : Bool} {Y Y' : Nat → Prop} {a' : Option Addr} {l' c' : Nat} {m : Int} {v0 v1 : Value} (hF : F < w.heap.size) (hY : ∀ b, Y b → b < w.heap.size) (hO : w.heap.size + 2 ≤ O)
  (h1 : KlSet Mt w F O s u #[.int .i64 m, sv] wr) (h2 : KlE E O f Y u f' Y' wr) (hc : FlC w tgt n f' s a' l' m 2 wr) :
  FlPost E Mt F sv tgt n f Y w (.returned (.agg #[.string s, .slice a' l' c'])) ((wr.setCell ⟨w.heap.size + 1, 0, none⟩ v0).setCell ⟨w.heap.size + 1, 1, none⟩ v1) :=
 fl_end hE hF hY h1.2.2.2.1 h1.1 h2.1 (fun b hb => (h2.2.1 b hb).imp id fun h => by omega) h2.2.2.2 hc
theorem fl_alloc {E : Ev} {Mt : Nat → Prop} (hE : EvOk E Mt) {w w' : World} {F : Nat} {sv : Value} {tgt : Tm} {n : Nat} {f : Bool} {Y : Nat → Prop} {e : Ending} (h : FlPost E Mt F sv tgt n f Y w e w') (o : Obj) : FlPost E Mt F sv tgt n f Y w e (w'.alloc o) := by
 obtain ⟨s', a', l', c', m, f', Y', he, h1, h2, h3, h4, h5, h6⟩ := h
 refine ⟨s', a', l', c', m, f', Y', he, h1.alloc o, h2.alloc o, hE.below h3 ((Below.refl _ _).alloc (Nat.le_refl _) o), h4, h5, ?_⟩
 rcases h6 with ⟨y, e1, e2, e3, e4, e5, e6⟩ | h6
 ·exact Or.inl ⟨y, e1, e2, e3, e4, e5.later ((Below.refl _ _).alloc (Nat.le_refl _) o), e6⟩
 ·exact Or.inr h6
theorem occ_get {nm : ByteArray} {l : List Tm} {k : Nat} (h : k < l.length) (ho : occL nm [l[k]]) : occL nm l := by
 have : l = l.take k ++ (l[k] :: l.drop (k + 1)) := by rw [List.getElem_cons_drop, List.take_append_drop]
 rw [this, occL_append, occL_cons]
 exact Or.inr (Or.inl ho)
set_option maxHeartbeats 1000000 in
theorem knotL_any {E : Ev} {Mt : Nat → Prop} (hE : EvOk E Mt) (F S : Nat) (lk : ByteArray → Option Tm) (t : Tm) : ∀ (n : Nat) (v : Value) (w : World) (X Y : Nat → Prop) (f : Bool), TV w X v t → (∀ b, X b → b ≠ F ∧ ¬ Mt b) → n ≤ 1000000 → Blk w F #[.int .i64 (n : Int), sV S] 191 → E f Y w → ¬ Y F → (∀ nm, occL nm t.args → varB nm = true → LkC E Mt S (lk nm) nm) →
  Calls Tryz.prog 147 #[.pointer (some ⟨F, 0, none⟩), v, .func (.func 136) #[.pointer (some ⟨F, 0, none⟩)] #[]] w fun e w' => FlPost E Mt F (sV S) ⟨t.name, gL lk t.args⟩ n f Y w e w' := by
 induction t using Tm.ind with
 | h s l ih =>
  intro n v w X Y f hv hXF hn hF hEv hYF hL
  obtain ⟨a, c, rfl, hs⟩ := hv
  dsimp only
  have HYW : Hid (∀ b, Y b → b < w.heap.size) := hE.inY _ _ _ hEv
  have HMT : Hid (∀ b, Mt b → b < w.heap.size) := fun b hb => HYW.out b (hE.mt _ _ _ hEv b hb)
  have HL := hide hL
  have HEV := hide hEv
  clear hL hEv
  generalize hsv : sV S = sv at *
  have IH := hide ih
  clear ih
  obtain ⟨i0, hi0, hz0, hz1, hz2⟩ := info_parts Tryz.infoTerm
  have f0 : ∀ o, (w.alloc o).cell? ⟨F, 0, none⟩ = some (.int .i64 (n : Int)) := fun o => (hF.alloc o).cell 0
  have ff : ∀ o, (w.alloc o).frozen? ⟨F, 0, none⟩ = false := fun o => (hF.alloc o).frozen 0
  have hFl : F < w.heap.size := hF.lt
  go_enter Tryz.func147, Tryz.ntmps147
  go_wp2_with fail
  have E3 : Hid (KlSet Mt w F (w.heap.size + 1 + 1) s (.slice none 0 0) #[.int .i64 ((n : Int) - 1), sv] ((((w.setCell ⟨F, 0, none⟩ (.int .i64 ((n : Int) - 1))).alloc (.cells #[.string s, .slice a l.length c] 26)).alloc (.cells #[.string ⟨#[]⟩, .slice none 0 0] 26)).alloc (.cells #[.string s, .slice none 0 0] 26))) := by
   refine ⟨((((ExQ.refl _ w).set (Or.inl rfl) 0 _).alloc _).alloc _).alloc _, ?_, ?_, (((hF.set 0 _).alloc _).alloc _).alloc _, by simp [World.setCell]⟩
   ·have h := (Blk.new ((w.setCell ⟨F, 0, none⟩ (.int .i64 ((n : Int) - 1))).alloc (.cells #[.string s, .slice a l.length c] 26)) #[.string ⟨#[]⟩, .slice none 0 0] 26).alloc (.cells #[.string s, .slice none 0 0] 26)
    simpa [World.setCell] using h
   ·have h := Blk.new (((w.setCell ⟨F, 0, none⟩ (.int .i64 ((n : Int) - 1))).alloc (.cells #[.string s, .slice a l.length c] 26)).alloc (.cells #[.string ⟨#[]⟩, .slice none 0 0] 26)) #[.string s, .slice none 0 0] 26
    simpa [World.setCell] using h
  have EV3 : Hid (KlE E (w.heap.size + 1 + 1) f Y (.slice none 0 0) f Y ((((w.setCell ⟨F, 0, none⟩ (.int .i64 ((n : Int) - 1))).alloc (.cells #[.string s, .slice a l.length c] 26)).alloc (.cells #[.string ⟨#[]⟩, .slice none 0 0] 26)).alloc (.cells #[.string s, .slice none 0 0] 26))) := by
   refine ⟨hE.keep _ _ _ _ HEV.out fun b hb => ?_, fun b hb => Or.inl hb, fun b _ e => by simp [Value.ownBlock] at e, fun h => h⟩
   have h1 := HYW.out b hb
   rw [Below.heap_alloc _ _ _ (by simp [World.setCell]; omega), Below.heap_alloc _ _ _ (by simp [World.setCell]; omega), Below.heap_alloc _ _ _ (by simpa [World.setCell] using h1), Below.heap_setCell _ _ _ _ (by simp; intro e; subst e; exact hYF hb)]
  generalize ((((w.setCell ⟨F, 0, none⟩ (.int .i64 ((n : Int) - 1))).alloc (.cells #[.string s, .slice a l.length c] 26)).alloc (.cells #[.string ⟨#[]⟩, .slice none 0 0] 26)).alloc (.cells #[.string s, .slice none 0 0] 26)) = w3 at *
  generalize hOe : w.heap.size + 1 + 1 = O at *
  have hO : w.heap.size + 2 ≤ O := by omega
  clear hOe
  clear f0 ff
  have HS := hide hs
  have hl := hs.1
  have HXF := hide hXF
  clear hs hXF
  have HQ : Hid (∀ b, w.heap.size ≤ b → ¬ (b = F ∨ Mt b)) := fun b hb h => by
   rcases h with h | h
   ·omega
   ·have := HMT.out b h; omega
  go_loopw [23] (fun i wr => KlInv E Mt lk w F O s sv l n f Y i wr) (fun i wr => l.length - (intOf i).toNat)
  case atStart =>
   refine ⟨0, .slice none 0 0, f, Y, Nat.zero_le _, rfl, EV3.out, ?_⟩
   by_cases hn0 : n = 0
   ·subst hn0
    exact Or.inr ⟨E3.out, ⟨none, 0, 0, rfl⟩, fun _ => by omega⟩
   ·refine Or.inl ⟨n - 1, [], [], rfl, by simp [sizeL]; omega, ?_, Row.start _ _ _ _, fun _ => by simp [gL]⟩
    rw [show ((n - 1 : Nat) : Int) = (n : Int) - 1 by omega]
    exact E3.out
  case round =>
   obtain ⟨k, u, f', Y', hk, rfl, hev, hcase⟩ := hrel
   have EV := hide hev
   clear hev
   rcases hcase with ⟨m, xs, Mk, hMk, hm, hset, hrow, hgd⟩ | ⟨hset, ⟨a9, l9, c9, rfl⟩, hbig⟩
   ·have XS := hide hset
    have XW := hide hrow
    have HMM := hide hm
    have HGD := hide hgd
    clear hset hrow hgd
    by_cases hlt : k < l.length
    ·obtain ⟨b, o, a', c', rfl, d0, d1, hx⟩ := (HS.out.exq XS.out.1 (fun b hb h => by rcases h with h | h; exact (HXF.out b hb).1 h; exact (HXF.out b hb).2 h)).get (Below.refl _ _) (fun _ _ h => h) k hlt
     obtain ⟨av, cv, ev, hsx⟩ := hx
     simp at ev
     obtain ⟨rfl, rfl⟩ := ev
     have hmn : m ≤ 1000000 := by omega
     have hOF : ¬ (O = F ∨ Mt O) := HQ.out O (by omega)
     have HQO : Hid (∀ b, (b = F ∨ Mt b) → b < O) := fun b h => by
      rcases h with h | h
      ·omega
      ·have := HMT.out b h; omega
     have hkn : k ≤ 1000000 := by have h1 := sizeL_len Mk; rw [hMk] at h1; omega
     have HL1 : Hid (Mk.length + 1 ≤ maxLen ∧ (Mk.length + 1) * 40 ≤ 140737488355328) := by unfold Hid; rw [hMk]; exact ⟨by unfold maxLen; omega, by omega⟩
     have hY'F : ¬ Y' F := fun h => by
      rcases EV.out.2.1 F h with h1 | h1
      ·exact hYF h1
      ·omega
     have IHQ : Hid (Calls Tryz.prog 136 #[.pointer (some ⟨F, 0, none⟩), .agg #[.string l[k].name, .slice a' l[k].args.length c']] (wr.alloc (.cells #[.string l[k].name, .slice a' l[k].args.length c'] 26)).drew fun e w'' => FlPost E Mt F sv (gT lk l[k]) m f' Y' (wr.alloc (.cells #[.string l[k].name, .slice a' l[k].args.length c'] 26)).drew e w'') := by
      have hB1 : Below wr.heap.size wr (wr.alloc (.cells #[.string l[k].name, .slice a' l[k].args.length c'] 26)).drew := ((Below.refl _ _).alloc (Nat.le_refl _) _).drew
      have hEr : E f' Y' (wr.alloc (.cells #[.string l[k].name, .slice a' l[k].args.length c'] 26)).drew := hE.below EV.out.1 hB1
      have hFr : Blk (wr.alloc (.cells #[.string l[k].name, .slice a' l[k].args.length c'] 26)).drew F #[.int .i64 (m : Int), sv] 191 := (XS.out.2.2.2.1.alloc _).drewN 1
      have hSr : Sl (wr.alloc (.cells #[.string l[k].name, .slice a' l[k].args.length c'] 26)).drew X a' l[k].args := hsx.later hB1
      have IH2 := IH.out l[k] (List.getElem_mem hlt) m
      clear HMM XS XW
      subst hsv
      refine ffillL_of hE F S lk l[k] m a' c' _ X Y' f' hmn HXF.out hY'F hSr hFr hEr (fun hv => HL.out _ (occ_get hlt ?_) hv) (fun w' f2 Y2 h1 h2 h3 h4 => IH2 _ w' X Y2 f2 ⟨a', c', rfl, h1⟩ HXF.out hmn h2 h3 h4 (fun nm ho hv => HL.out nm (occ_get hlt ?_) hv))
      ·generalize l[k] = y
       obtain ⟨n1, k1⟩ := y
       exact occL_node.2 (Or.inl rfl)
      ·generalize l[k] = y at ho ⊢
       obtain ⟨n1, k1⟩ := y
       exact occL_node.2 (Or.inr (Or.inl ho))
     have f0 : ∀ o, (wr.alloc o).cell? ⟨F, 0, none⟩ = some (.int .i64 (m : Int)) := fun o => (XS.out.2.2.2.1.alloc o).cell 0
     have o1 : ∀ o, (wr.alloc o).cell? ⟨O, 1, none⟩ = some u := fun o => (XS.out.2.2.1.alloc o).cell 1
     have hm0 : ¬ (m : Int) < 0 := by omega
     go_wp2_with fail
     go_region_law (first
      | (go_simp; go_at_call 136; refine IHQ.out.mono ?_; rintro e w1 ⟨s1, a1, l1, c1, m1, f1, Y1, rfl, hF1, he0, hE1, hsub1, hff1, hc1⟩; have he1 := (((ExQ.refl (fun b => b = F ∨ Mt b) wr).alloc (.cells #[.string l[k].name, .slice a' l[k].args.length c'] 26)).drew).trans he0; have HSUB := hide hsub1; have HFF := hide hff1; have HC1 := hide hc1; have HE1 := hide hE1; clear he0 hsub1 hff1 hc1 hE1; have hc3 : ∀ o, (w1.alloc o).cell? ⟨O, 1, none⟩ = some u := fun o => ((Blk.exq XS.out.2.2.1 he1 hOF).alloc o).cell 1; have hc4 : w1.cell? ⟨O, 1, none⟩ = some u := (Blk.exq XS.out.2.2.1 he1 hOF).cell 1)
      | (refine step_append_lies _ rfl _ _ 23 rfl (O + 1) 26 i0 _ 2 40 Tryz.underlying23 hi0 hz0 hz1 hz2 rfl (by decide) u Mk.length xs rfl (by exact (Row.exq XW.out he1 (fun b hb => by have := HQO.out b hb; omega) (fun _ _ h => h)).own.alloc _) ⟨w1.heap.size, 0, none⟩ 1 1 [.string s1, .slice a1 l1 c1] rfl rfl (cell_two_new _ _ _ _) (fun x hx => by simp at hx; rcases hx with rfl | rfl <;> rfl) (by decide) HL1.out.1 HL1.out.2 (by have := he1.size; have := XS.out.2.2.2.2; simp; omega) _ rfl ?_; intro g cap w3 hown3 hgrow3 hat3 hlt3; have hB3 := hide (((Blk.exq XS.out.2.2.1 he1 hOF).alloc _).grown hgrow3 (XW.out.ne (Nat.lt_succ_self _))); have hc5 : w3.cell? ⟨O, 1, none⟩ = some u := hB3.out.cell 1; have hf5 := hB3.out.frozen 1))
     all_goals
      have HK := hide (kl_set (v := .slice (some ⟨g, 0, none⟩) (Mk.length + 1) cap) hFl HMT.out hO XS.out (fun j hj => (XW.out.own.lt j hj).1) he1 hF1 hgrow3)
      have HEV2 := hide (kl_ev (n9 := Mk.length + 1) (cap := cap) (x := .slice (some ⟨g, 0, none⟩) (Mk.length + 1) cap) hE (fun b hb => by have := HYW.out b hb; omega) EV.out (fun j hj => (XW.out.own.lt j hj).2) XS.out.2.2.2.2 he1.size HE1.out (fun b hb => (HSUB.out b hb).imp id fun h => by simp at h; omega) HFF.out hgrow3 hat3)
      have HRW : Hid (∀ y : Tm, TV w1 (fun b => wr.heap.size ≤ b) (.agg #[.string s1, .slice a1 l1 c1]) y → Row (w3.setCell ⟨O, 1, none⟩ (.slice (some ⟨g, 0, none⟩) (Mk.length + 1) cap)) (O + 1) 26 (fun _ => False) (.slice (some ⟨g, 0, none⟩) (Mk.length + 1) cap) (Mk ++ [y]) (xs ++ [.string s1, .slice a1 l1 c1])) := fun y hy => kl_row HQO.out XS.out.2.2.2.2 XW.out he1 hy hown3 hgrow3 hat3
      clear hown3 hgrow3 hat3 hc3 hc4 hc5 hf5 hB3 hF1 he1 hlt3
      go_wp2_with fail
      go_roundw
      case rel =>
       have h1 := HK.out
       have h2 := HRW.out
       have h3 := HEV2.out
       have hmm := HMM.out
       simp only [hMk] at h1 h2 h3
       refine ⟨k + 1, .slice (some ⟨g, 0, none⟩) (k + 1) cap, f1, Y1, by omega, by go_num, h3, ?_⟩
       have hgl : gL lk (l.take (k + 1)) = gL lk (l.take k) ++ [gT lk l[k]] := by rw [List.take_succ_eq_append_getElem hlt, gL_append]; simp [gL_map]
       have hf1 : f1 = false → f' = false := fun hf => by
        cases h : f' with
        | false => rfl
        | true => have := HFF.out h; rw [hf] at this; cases this
       rcases HC1.out with ⟨y, rfl, rfl, rfl, e4, e5, e6⟩ | ⟨rfl, e2⟩
       ·refine Or.inl ⟨m - sizeL [y], xs ++ [.string y.name, .slice a1 y.args.length c1], Mk ++ [y], by simp [hMk], by rw [sizeL_append]; omega, ?_, h2 y ⟨a1, c1, rfl, e5.mono fun b hb _ => by simp at hb; omega⟩, fun hf => by rw [hgl, HGD.out (hf1 hf), e6 hf]⟩
        rw [show ((m - sizeL [y] : Nat) : Int) = (m : Int) - sizeL [y] by omega]
        exact h1
       ·refine Or.inr ⟨h1, ⟨_, _, _, rfl⟩, fun hf => ?_⟩
        have h4 := e2 hf
        have h5 := HGD.out (hf1 hf)
        have h6 : sizeL (gL lk (l.take (k + 1))) = sizeL Mk + sizeL [gT lk l[k]] := by rw [hgl, sizeL_append, h5]
        have h7 : gL lk l = gL lk (l.take (k + 1)) ++ gL lk (l.drop (k + 1)) := by rw [← gL_append, List.take_append_drop]
        rw [h7, sizeL_append]
        omega
      case measure => simp [intOf]; omega
    ·have htk : l.take k = l := List.take_of_length_le (by omega)
     rw [htk] at HGD
     obtain ⟨a9, c9, hu9, hsl9⟩ := XW.out.sl
     subst hu9
     have S9 := hide hsl9
     clear hsl9
     have r0 := XS.out.2.1.c0
     have r1 := XS.out.2.1.c1
     have rf := XS.out.2.1.frozen
     have o0 := XS.out.2.2.1.c0
     have o1 := XS.out.2.2.1.c1
     go_wp2_with fail
     refine bodyPost_ret (v := .agg #[.string s, .slice a9 Mk.length c9]) (by simp [results, Tryz.results147, go_sem, World.cell?_setCell_same, World.cell?_setCell_other, r0, r1, hMk]) rfl ?_
     have hmm := HMM.out
     have hzy : sizeL [(⟨s, Mk⟩ : Tm)] = 1 + sizeL Mk := by simp [sizeL]
     refine kl_end hE hFl HYW.out hO XS.out EV.out (Or.inl ⟨⟨s, Mk⟩, rfl, rfl, by rw [hzy]; omega, by rw [hzy]; omega, S9.out.mono fun b hb _ => ?_, fun hf => by rw [HGD.out hf]⟩)
     have hb' : O + 1 ≤ b := hb.elim False.elim id
     omega
   ·have XS := hide hset
    have HBIG := hide hbig
    clear hset hbig
    have hzt : sizeL [(⟨s, gL lk l⟩ : Tm)] = 1 + sizeL (gL lk l) := by simp [sizeL]
    have f0 : ∀ o, (wr.alloc o).cell? ⟨F, 0, none⟩ = some (.int .i64 (-1)) := fun o => (XS.out.2.2.2.1.alloc o).cell 0
    by_cases hlt : k < l.length
    ·obtain ⟨b, o, a', c', rfl, d0, d1, hx⟩ := (HS.out.exq XS.out.1 (fun b hb h => by rcases h with h | h; exact (HXF.out b hb).1 h; exact (HXF.out b hb).2 h)).get (Below.refl _ _) (fun _ _ h => h) k hlt
     clear hx
     have o0 : ∀ o, (wr.alloc o).cell? ⟨O, 0, none⟩ = some (.string s) := fun o => (XS.out.2.2.1.alloc o).cell 0
     have o1 : ∀ o, (wr.alloc o).cell? ⟨O, 1, none⟩ = some (.slice a9 l9 c9) := fun o => (XS.out.2.2.1.alloc o).cell 1
     have r0 := XS.out.2.1.c0
     have r1 := XS.out.2.1.c1
     have rf := XS.out.2.1.frozen
     have hRl : w.heap.size + 1 < wr.heap.size := XS.out.2.1.lt
     go_wp2_with fail
     refine bodyPost_ret (v := .agg #[.string s, .slice a9 l9 c9]) (by simp [results, Tryz.results147, go_sem, World.cell?_setCell_same, World.cell?_setCell_other, r0, r1, hRl, World.cell?_alloc_old]) rfl ?_
     exact fl_alloc hE (kl_end hE hFl HYW.out hO XS.out EV.out (Or.inr ⟨rfl, fun hf => by rw [hzt]; exact HBIG.out hf⟩)) _
    ·have r0 := XS.out.2.1.c0
     have r1 := XS.out.2.1.c1
     have rf := XS.out.2.1.frozen
     have o0 := XS.out.2.2.1.c0
     have o1 := XS.out.2.2.1.c1
     go_wp2_with fail
     refine bodyPost_ret (v := .agg #[.string s, .slice a9 l9 c9]) (by simp [results, Tryz.results147, go_sem, World.cell?_setCell_same, World.cell?_setCell_other, r0, r1]) rfl ?_
     exact kl_end hE hFl HYW.out hO XS.out EV.out (Or.inr ⟨rfl, fun hf => by rw [hzt]; exact HBIG.out hf⟩)
theorem ffillL_any {E : Ev} {Mt : Nat → Prop} (hE : EvOk E Mt) (F S : Nat) (lk : ByteArray → Option Tm) (t : Tm) (n : Nat) (a : Option Addr) (c : Nat) (w : World) (X Y : Nat → Prop) (f : Bool) (hn : n ≤ 1000000) (hXF : ∀ b, X b → b ≠ F ∧ ¬ Mt b) (hYF : ¬ Y F) (hs : Sl w X a t.args) (hF : Blk w F #[.int .i64 (n : Int), sV S] 191) (hEv : E f Y w)
  (hL : ∀ nm, occL nm [t] → varB nm = true → LkC E Mt S (lk nm) nm) :
  Calls Tryz.prog 136 #[.pointer (some ⟨F, 0, none⟩), .agg #[.string t.name, .slice a t.args.length c]] w fun e w' => FlPost E Mt F (sV S) (gT lk t) n f Y w e w' :=
 ffillL_of hE F S lk t n a c w X Y f hn hXF hYF hs hF hEv (fun hv => hL _ (by obtain ⟨s, l⟩ := t; exact occL_node.2 (Or.inl rfl)) hv)
  (fun w' f' Y' h1 h2 h3 h4 => knotL_any hE F S lk t n _ w' X Y' f' ⟨a, c, rfl, h1⟩ hXF hn h2 h3 h4 (fun nm ho hv => hL nm (by obtain ⟨s, l⟩ := t; exact occL_node.2 (Or.inr (Or.inl ho))) hv))
def FiPost (E : Ev) (Mt : Nat → Prop) (tgt : Tm) (n : Nat) (f : Bool) (Y : Nat → Prop) (w : World) (e : Ending) (w' : World) : Prop :=
 ∃ (s' : ByteArray) (a' : Option Addr) (l' c' : Nat) (ok : Bool) (f' : Bool) (Y' : Nat → Prop), e = .returned (.tuple #[.agg #[.string s', .slice a' l' c'], .bool ok]) ∧ E f' Y' w' ∧ (∀ b, Y' b → Y b ∨ w.heap.size ≤ b) ∧ (f = true → f' = true) ∧ ExQ Mt w w' ∧
  ((ok = true ∧ ∃ y : Tm, s' = y.name ∧ l' = y.args.length ∧ sizeL [y] ≤ n ∧ Sl w' (fun b => w.heap.size ≤ b) a' y.args ∧ (f' = false → y = tgt)) ∨ (ok = false ∧ s' = ⟨#[]⟩ ∧ a' = none ∧ l' = 0 ∧ c' = 0 ∧ (f' = false → n < sizeL [tgt])))
set_option maxHeartbeats 1000000 in
theorem fillL_any {E : Ev} {Mt : Nat → Prop} (hE : EvOk E Mt) (S : Nat) (lk : ByteArray → Option Tm) (t : Tm) (n : Nat) (a : Option Addr) (c : Nat) (w : World) (X Y : Nat → Prop) (f : Bool) (hn : n ≤ 1000000) (hXM : ∀ b, X b → ¬ Mt b) (hs : Sl w X a t.args) (hEv : E f Y w)
  (hL : ∀ nm, occL nm [t] → varB nm = true → LkC E Mt S (lk nm) nm) :
  Calls Tryz.prog 128 #[.agg #[.string t.name, .slice a t.args.length c], .int .i64 (n : Int), sV S] w fun e w' => FiPost E Mt (gT lk t) n f Y w e w' := by
 have hmf : ∀ (fn : Fn) (first cap : Array Value) (w : World), (Instr.makeFunc fn first cap).run Tryz.prog w = .ok (.func fn first cap) w := fun _ _ _ _ => rfl
 have HS := hide (hs.mono (Y := fun b => X b ∧ b < w.heap.size) fun b h1 h2 => ⟨h1, h2⟩)
 have HE := hide hEv
 have HL := hide hL
 have HXM := hide hXM
 have HYW : Hid (∀ b, Y b → b < w.heap.size) := hE.inY _ _ _ hEv
 have HMT : Hid (∀ b, Mt b → b < w.heap.size) := fun b hb => HYW.out b (hE.mt _ _ _ hEv b hb)
 clear hs hEv hL hXM
 have HSV : Hid (sV S = .func (.func 129) #[.pointer (some ⟨S, 0, none⟩)] #[]) := rfl
 rw [HSV.out]
 go_enter Tryz.func128, Tryz.ntmps128
 go_wp2_with fail
 rw [← HSV.out]
 have HB3 : Hid (Below w.heap.size w (((w.alloc (.cells #[.string t.name, .slice a t.args.length c] 26)).alloc (.cells #[.string ⟨#[]⟩, .slice none 0 0] 26)).alloc (.cells #[.int .i64 (n : Int), sV S] 191))) := ((((Below.refl w.heap.size w).alloc (Nat.le_refl _) _).alloc (by simp) _).alloc (by simp; omega) _)
 have F3 : Hid (Blk (((w.alloc (.cells #[.string t.name, .slice a t.args.length c] 26)).alloc (.cells #[.string ⟨#[]⟩, .slice none 0 0] 26)).alloc (.cells #[.int .i64 (n : Int), sV S] 191)) (w.heap.size + 1 + 1) #[.int .i64 (n : Int), sV S] 191) := by
  have h := Blk.new ((w.alloc (.cells #[.string t.name, .slice a t.args.length c] 26)).alloc (.cells #[.string ⟨#[]⟩, .slice none 0 0] 26)) #[.int .i64 (n : Int), sV S] 191
  unfold Hid
  simpa using h
 have R3 : Hid (Blk (((w.alloc (.cells #[.string t.name, .slice a t.args.length c] 26)).alloc (.cells #[.string ⟨#[]⟩, .slice none 0 0] 26)).alloc (.cells #[.int .i64 (n : Int), sV S] 191)) (w.heap.size + 1) #[.string ⟨#[]⟩, .slice none 0 0] 26) := by
  have h := (Blk.new (w.alloc (.cells #[.string t.name, .slice a t.args.length c] 26)) #[.string ⟨#[]⟩, .slice none 0 0] 26).alloc (.cells #[.int .i64 (n : Int), sV S] 191)
  unfold Hid
  simpa using h
 have z3 : (((w.alloc (.cells #[.string t.name, .slice a t.args.length c] 26)).alloc (.cells #[.string ⟨#[]⟩, .slice none 0 0] 26)).alloc (.cells #[.int .i64 (n : Int), sV S] 191)).heap.size = w.heap.size + 3 := by simp
 generalize (((w.alloc (.cells #[.string t.name, .slice a t.args.length c] 26)).alloc (.cells #[.string ⟨#[]⟩, .slice none 0 0] 26)).alloc (.cells #[.int .i64 (n : Int), sV S] 191)) = w3 at *
 refine (ffillL_any hE (w.heap.size + 1 + 1) S lk t n a c w3 (fun b => X b ∧ b < w.heap.size) Y f hn (fun b hb => ⟨by have := hb.2; omega, HXM.out b hb.1⟩) (fun h => by have := HYW.out _ h; omega) (HS.out.later HB3.out) F3.out (hE.below HE.out HB3.out) HL.out).mono ?_
 rintro e w9 ⟨s', a', l', c', m, f', Y', rfl, hF9, hx9, hE9, hsub9, hff9, hc9⟩
 have HF9 := hide hF9
 have R9 := hide (R3.out.exq hx9 (fun h => by rcases h with h | h; omega; have := HMT.out _ h; omega))
 have hz9 := hx9.size
 have HXW : Hid (ExQ Mt w w9) := (ExQ.ofBelow HB3.out).transN hx9 (fun i hi hl => by rcases hi with h | h; omega; exact h)
 have HE9 := hide hE9
 have HSUB : Hid (∀ b, Y' b → Y b ∨ w.heap.size + 3 ≤ b) := fun b hb => (hsub9 b hb).imp id fun h => by omega
 have HFF := hide hff9
 have HC := hide hc9
 clear hF9 hx9 hE9 hsub9 hff9 hc9
 have r0 := R9.out.c0
 have r1 := R9.out.c1
 have rf := R9.out.frozen
 have hRl : w.heap.size + 1 < w9.heap.size := R9.out.lt
 have HKE : Hid (∀ v0 v1 o, E f' Y' (((w9.setCell ⟨w.heap.size + 1, 0, none⟩ v0).setCell ⟨w.heap.size + 1, 1, none⟩ v1).alloc o)) := fun v0 v1 o => hE.keep _ _ _ _ HE9.out fun b hb => by
  have hne : b ≠ w.heap.size + 1 := fun e => by
   rcases HSUB.out b hb with h | h
   ·have := HYW.out b h; omega
   ·omega
  have hl := hE.inY _ _ _ HE9.out b hb
  rw [Below.heap_alloc _ _ _ (by simpa [World.setCell] using hl), Below.heap_setCell _ _ _ _ (by simpa using hne), Below.heap_setCell _ _ _ _ (by simpa using hne)]
 have HSUB2 : Hid (∀ b, Y' b → Y b ∨ w.heap.size ≤ b) := fun b hb => (HSUB.out b hb).imp id fun h => by omega
 rcases HC.out with ⟨y, rfl, rfl, rfl, hle, hsl, hgd⟩ | ⟨rfl, hgd⟩
 ·have HSL := hide hsl
  have HGD := hide hgd
  clear hsl hgd
  have f0 : ∀ o, (w9.alloc o).cell? ⟨w.heap.size + 1 + 1, 0, none⟩ = some (.int .i64 ((n : Int) - sizeL [y])) := fun o => (HF9.out.alloc o).cell 0
  have hlt : ¬ ((n : Int) - sizeL [y]) < 0 := by omega
  go_wp2_with fail
  refine bodyPost_ret (v := .tuple #[.agg #[.string y.name, .slice a' y.args.length c'], .bool true]) (by simp [results, Tryz.results128, go_sem, World.cell?_setCell_same, World.cell?_setCell_other, r0, r1, hRl, World.cell?_alloc_old]) rfl ?_
  refine ⟨y.name, a', y.args.length, c', true, f', Y', rfl, HKE.out _ _ _, HSUB2.out, HFF.out, ((HXW.out.setNew (by omega) _ _).setNew (by omega) _ _).alloc _, Or.inl ⟨rfl, y, rfl, rfl, hle, ((HSL.out.kept fun b hb => ?_).later ((Below.refl _ _).alloc (Nat.le_refl _) _)).mono fun b hb _ => by omega, HGD.out⟩⟩
  rw [Below.heap_setCell _ _ _ _ (by simp; omega), Below.heap_setCell _ _ _ _ (by simp; omega)]
 ·have HGD := hide hgd
  clear hgd
  have f0 : ∀ o, (w9.alloc o).cell? ⟨w.heap.size + 1 + 1, 0, none⟩ = some (.int .i64 (-1)) := fun o => (HF9.out.alloc o).cell 0
  go_wp2_with fail
  refine bodyPost_ret (v := .tuple #[.agg #[.string ⟨#[]⟩, .slice none 0 0], .bool false]) (by simp [results, Tryz.results128, go_sem, World.cell?_setCell_same, World.cell?_setCell_other, r0, r1, hRl, World.cell?_alloc_old]) rfl ?_
  exact ⟨⟨#[]⟩, none, 0, 0, false, f', Y', rfl, HKE.out _ _ _, HSUB2.out, HFF.out, ((HXW.out.setNew (by omega) _ _).setNew (by omega) _ _).alloc _, Or.inr ⟨rfl, rfl, rfl, rfl, rfl, HGD.out⟩⟩
def FsPost (S q : Nat) (td : Value) (h : List (ByteArray × Tm)) (tgt : Tm) (f : Bool) (Y : Nat → Prop) (w : World) (e : Ending) (w' : World) : Prop :=
 ∃ (y : Tm) (a' : Option Addr) (c' : Nat) (ok : Bool) (f' : Bool) (Y' : Nat → Prop), e = .returned (.tuple #[.agg #[.string y.name, .slice a' y.args.length c'], .bool ok]) ∧ SolE S q td h f' Y' w' ∧ (∀ b, Y' b → Y b ∨ w.heap.size ≤ b) ∧ (f = true → f' = true) ∧ ExQ (SolM S q) w w' ∧ Sl w' (fun b => w.heap.size ≤ b) a' y.args ∧
  (ok = true → f' = false ∧ y = tgt ∧ sizeL [y] ≤ 2000) ∧ (ok = false → f' = true ∨ 2000 < sizeL [tgt])
theorem fs_end {S q : Nat} {td : Value} {h : List (ByteArray × Tm)} {f f' : Bool} {Y Y' : Nat → Prop} {w w1 : World} {o : Obj} {y tgt : Tm} {a' : Option Addr} {c' : Nat} {ok : Bool} {v0 v1 : Value} (hE : SolE S q td h f' Y' w1) (hY : ∀ b, Y b → b < w.heap.size) (hsub : ∀ b, Y' b → Y b ∨ w.heap.size + 2 ≤ b) (hff : f = true → f' = true) (hx : ExQ (SolM S q) w w1) (hs : Sl w1 (fun b => w.heap.size + 2 ≤ b) a' y.args)
  (h1 : ok = true → f' = false ∧ y = tgt ∧ sizeL [y] ≤ 2000) (h2 : ok = false → f' = true ∨ 2000 < sizeL [tgt]) :
  FsPost S q td h tgt f Y w (.returned (.tuple #[.agg #[.string y.name, .slice a' y.args.length c'], .bool ok])) (((w1.alloc o).setCell ⟨w.heap.size + 1, 0, none⟩ v0).setCell ⟨w.heap.size + 1, 1, none⟩ v1).drew := by
 have hk : ∀ b, b < w1.heap.size → b ≠ w.heap.size + 1 → ((((w1.alloc o).setCell ⟨w.heap.size + 1, 0, none⟩ v0).setCell ⟨w.heap.size + 1, 1, none⟩ v1).drew).heap[b]? = w1.heap[b]? := fun b hb hn => by
  show (((w1.alloc o).setCell ⟨w.heap.size + 1, 0, none⟩ v0).setCell ⟨w.heap.size + 1, 1, none⟩ v1).heap[b]? = _
  rw [Below.heap_setCell _ _ _ _ (by simpa using hn), Below.heap_setCell _ _ _ _ (by simpa using hn), Below.heap_alloc _ _ _ hb]
 refine ⟨y, a', c', ok, f', Y', rfl, (solE_ok S q td h).keep _ _ _ _ hE fun b hb => hk b (hE.2.2.2.1 b hb) fun e => ?_, fun b hb => (hsub b hb).imp id fun h => by omega, hff, (((hx.alloc o).setNew (by omega) _ _).setNew (by omega) _ _).drew, ((hs.mono (Y := fun b => w.heap.size + 2 ≤ b ∧ b < w1.heap.size) fun b h1 h2 => ⟨h1, h2⟩).kept fun b hb => hk b hb.2 (by omega)).mono fun b hb _ => by omega, h1, h2⟩
 rcases hsub b hb with h | h
 ·have := hY b h; omega
 ·omega
set_option maxHeartbeats 1000000 in
theorem sfill_of (S q : Nat) (td : Value) (h : List (ByteArray × Tm)) (t : Tm) (a : Option Addr) (c : Nat) (w : World) (X Y : Nat → Prop) (f : Bool) (hXM : ∀ b, X b → ¬ SolM S q b) (hs : Sl w X a t.args) (hEv : SolE S q td h f Y w)
  (hL : ∀ nm, occL nm [t] → varB nm = true → LkC (SolE S q td h) (SolM S q) S (forT (sAt h) nm) nm) :
  Calls Tryz.prog 113 #[.pointer (some ⟨S, 0, none⟩), .agg #[.string t.name, .slice a t.args.length c]] w fun e w' => FsPost S q td h (gT (forT (sAt h)) t) f Y w e w' := by
 have hmf : ∀ (fn : Fn) (first cap : Array Value) (w : World), (Instr.makeFunc fn first cap).run Tryz.prog w = .ok (.func fn first cap) w := fun _ _ _ _ => rfl
 have HS := hide hs
 have HE := hide hEv
 have HL := hide hL
 have HXM := hide hXM
 have hSl : S < w.heap.size := hEv.2.2.2.1 S hEv.2.1
 clear hs hEv hL hXM
 have HYW : Hid (∀ b, Y b → b < w.heap.size) := HE.out.2.2.2.1
 have HMT : Hid (∀ b, SolM S q b → b < w.heap.size) := fun b hb => HYW.out b ((solE_ok S q td h).mt _ _ _ HE.out b hb)
 have FA : Hid (∀ w', Below w.heap.size w w' → Calls Tryz.prog 128 #[.agg #[.string t.name, .slice a t.args.length c], .int .i64 2000, .func (.func 129) #[.pointer (some ⟨S, 0, none⟩)] #[]] w' fun e w'' => FiPost (SolE S q td h) (SolM S q) (gT (forT (sAt h)) t) 2000 f Y w' e w'') := fun w' hb =>
  fillL_any (solE_ok S q td h) S (forT (sAt h)) t 2000 a c w' X Y f (by omega) HXM.out (HS.out.later hb) ((solE_ok S q td h).below HE.out hb) HL.out
 have HB2 : Hid (Below w.heap.size w ((w.alloc (.cells #[.string t.name, .slice a t.args.length c] 26)).alloc (.cells #[.string ⟨#[]⟩, .slice none 0 0] 26))) := below2 _ _
 have R2 : Hid (Blk ((w.alloc (.cells #[.string t.name, .slice a t.args.length c] 26)).alloc (.cells #[.string ⟨#[]⟩, .slice none 0 0] 26)) (w.heap.size + 1) #[.string ⟨#[]⟩, .slice none 0 0] 26) := by
  have h := Blk.new (w.alloc (.cells #[.string t.name, .slice a t.args.length c] 26)) #[.string ⟨#[]⟩, .slice none 0 0] 26
  unfold Hid
  simpa using h
 have z2 : ((w.alloc (.cells #[.string t.name, .slice a t.args.length c] 26)).alloc (.cells #[.string ⟨#[]⟩, .slice none 0 0] 26)).heap.size = w.heap.size + 2 := by simp
 go_enter Tryz.func113, Tryz.ntmps113
 go_wp2_with fail
 generalize ((w.alloc (.cells #[.string t.name, .slice a t.args.length c] 26)).alloc (.cells #[.string ⟨#[]⟩, .slice none 0 0] 26)) = w2 at *
 refine (FA.out _ HB2.out).mono ?_
 rintro e w1 ⟨s', a', l', c', ok, f', Y', rfl, hE1, hsub, hff, hx, hc⟩
 have HE1 := hide hE1
 have HSUB : Hid (∀ b, Y' b → Y b ∨ w.heap.size + 2 ≤ b) := fun b hb => (hsub b hb).imp id fun h => by omega
 have HFF := hide hff
 have HX : Hid (ExQ (SolM S q) w w1) := (ExQ.ofBelow HB2.out).trans hx
 have R1 := hide (R2.out.exq hx (fun h => by have := HMT.out _ h; omega))
 have HZ1 : Hid (w.heap.size + 2 ≤ w1.heap.size) := by have := hx.size; unfold Hid; omega
 have HC := hide hc
 obtain ⟨⟨L, hB1, _, _⟩, _⟩ := hE1
 have b2 : ∀ o, (w1.alloc o).cell? ⟨S, 2, none⟩ = some (.bool f') := fun o => (hB1.alloc o).cell 2
 have r0 : ∀ o, (w1.alloc o).cell? ⟨w.heap.size + 1, 0, none⟩ = some (.string ⟨#[]⟩) := fun o => (R1.out.alloc o).cell 0
 have r1 : ∀ o, (w1.alloc o).cell? ⟨w.heap.size + 1, 1, none⟩ = some (.slice none 0 0) := fun o => (R1.out.alloc o).cell 1
 have rf := R1.out.frozen
 clear hB1 hsub hff hx hc FA
 go_wp2_with fail
 have p0 : ∀ o, (w1.alloc o).frozen? ⟨w.heap.size + 1, 0, none⟩ = false := fun o => (R1.out.alloc o).frozen 0
 have p1 : ∀ o, (w1.alloc o).frozen? ⟨w.heap.size + 1, 1, none⟩ = false := fun o => (R1.out.alloc o).frozen 1
 rcases HC.out with ⟨rfl, y, rfl, rfl, hz, hsl, hgd⟩ | ⟨rfl, rfl, rfl, rfl, rfl, hgd⟩
 ·have HSL : Hid (Sl w1 (fun b => w.heap.size + 2 ≤ b) a' y.args) := hsl.mono fun b hb _ => by omega
  have HGD := hide hgd
  have HZ := hide hz
  clear hsl hgd hz
  cases f' with
  | true =>
   go_region
   all_goals
    go_wp2_with fail
    refine bodyPost_ret (v := .tuple #[.agg #[.string y.name, .slice a' y.args.length c'], .bool false]) (by simp [results, Tryz.results113, go_sem, World.cell?_setCell_same, World.cell?_setCell_other, r0, r1]) rfl ?_
    exact fs_end HE1.out HYW.out HSUB.out (fun _ => rfl) HX.out HSL.out (fun h => by cases h) (fun _ => Or.inl rfl)
  | false =>
   go_region
   all_goals
    go_wp2_with fail
    refine bodyPost_ret (v := .tuple #[.agg #[.string y.name, .slice a' y.args.length c'], .bool true]) (by simp [results, Tryz.results113, go_sem, World.cell?_setCell_same, World.cell?_setCell_other, r0, r1]) rfl ?_
    exact fs_end HE1.out HYW.out HSUB.out HFF.out HX.out HSL.out (fun _ => ⟨rfl, HGD.out trivial, HZ.out⟩) (fun h => by cases h)
 ·have HGD := hide hgd
  clear hgd
  have HSL : Hid (Sl w1 (fun b => w.heap.size + 2 ≤ b) none (⟨⟨#[]⟩, []⟩ : Tm).args) := ⟨by simp, Or.inl rfl⟩
  go_region
  all_goals
   go_wp2_with fail
   refine bodyPost_ret (v := .tuple #[.agg #[.string (⟨⟨#[]⟩, []⟩ : Tm).name, .slice none (⟨⟨#[]⟩, []⟩ : Tm).args.length 0], .bool false]) (by simp [results, Tryz.results113, go_sem, World.cell?_setCell_same, World.cell?_setCell_other, r0, r1]) rfl ?_
   exact fs_end HE1.out HYW.out HSUB.out HFF.out HX.out HSL.out (fun h => by cases h) (fun _ => by
    cases hf : f' with
    | true => exact Or.inl rfl
    | false => exact Or.inr (HGD.out hf))
theorem stE_lit {w : World} {Y : Nat → Prop} {h : List (ByteArray × Tm)} {i : Nat} {hi : i < h.length} {v : Value} (e : StE w Y h i hi v) : ∃ (T : Tm) (j : Nat) (a : Option Addr) (c : Nat), T = stood h i (max j (i + 1)) hi ∧ j ≤ h.length ∧ v = .agg #[.string T.name, .slice a T.args.length c, .int .i64 (j : Int)] ∧ Sl w Y a T.args := by
 obtain ⟨j, a, c, h1, h2, h3⟩ := e
 exact ⟨_, j, a, c, rfl, h1, h2, h3⟩
theorem run_len {P : Program} {w : World} {T kt et : TypeId} {r : Nat} {L : List (ByteArray × Value)} (hm : P.underlying T = some (.map kt et)) (h : MapAt w r L) (ty : TypeId) : (Builtin.len_ #[T] ty #[.map (some r)]).run P w = .ok (.int .i64 (L.length : Int)) w := by
 obtain ⟨es, clk, hb, he, _⟩ := h
 have hl : es.size = L.length := by have := congrArg List.length he; simpa using this
 simp [Builtin.len_, run_underlying hm, MapKept.run_getObj_map hb, goInt, Result.andThen, hl]
set_option maxHeartbeats 1000000 in
theorem look_free (S q : Nat) (td : Value) (h : List (ByteArray × Tm)) (g : GoodH h) (nm : ByteArray) (hn : ∀ i (hi : i < h.length), h[i].1 ≠ nm) : LkC (SolE S q td h) (SolM S q) S (forT (sAt h) nm) nm := by
 intro f Y w hE
 have HE := hide hE
 obtain ⟨⟨L, hB, hM, hSt⟩, hYS, hYq, hY, hg⟩ := hE
 have hz : ∀ w', (zeroValue 167).run Tryz.prog w' = .ok (.agg #[.string ⟨#[]⟩, .slice none 0 0, .int .i64 0]) w' := fun w' => Tryz.zeroValue167 w'
 have hml := hM.lt
 have hSl := hB.lt
 have HF := hide (forT_free g hn)
 have b1 : ∀ o, (w.alloc o).cell? ⟨S, 1, none⟩ = some (.map (some q)) := fun o => (hB.alloc o).cell 1
 have hlk : ∀ o, (Instr.lookup 121 (.map (some q)) (.string nm) true).run Tryz.prog (w.alloc o) = .ok (.tuple #[.agg #[.string ⟨#[]⟩, .slice none 0 0, .int .i64 0], .bool false]) (w.alloc o) := fun o => by
  rw [run_look (P := Tryz.prog) Tryz.underlying121 Tryz.underlying9 (hz _) (hM.kept (Below.heap_alloc _ _ _ hml)) nm, hSt.none hn]; rfl
 have HB := hide hB
 clear hB hM hSt hg
 go_enter Tryz.func129, Tryz.ntmps129
 go_wp2_with fail
 go_region
 all_goals go_wp2_with fail
 all_goals
  refine bodyPost_ret (v := .tuple #[.agg #[.string ⟨#[]⟩, .slice none 0 0], .bool false]) (by simp [results, Tryz.results129, go_sem]) rfl ?_
  exact ⟨⟨#[]⟩, none, 0, 0, false, f, Y, rfl, (solE_ok S q td h).below HE.out (((Below.refl _ _).alloc (Nat.le_refl _) _).alloc (by simp) _).drew, fun b hb => Or.inl hb, fun h => h, (((ExQ.refl _ _).alloc _).alloc _).drew, Or.inr ⟨rfl, fun _ => HF.out⟩⟩
theorem look_put {S q : Nat} {td : Value} {h : List (ByteArray × Tm)} (g : GoodH h) {i : Nat} (hi : i < h.length) {f' : Bool} {Y' Z : Nat → Prop} {w1 WS : World} (hE : SolE S q td h f' Y' w1) (hk : ∀ b, Y' b → WS.heap[b]? = w1.heap[b]?) {a' : Option Addr} {c' : Nat} {y : Tm} (hy : y = stood h i h.length hi) (hZ : ∀ b, Z b → b < WS.heap.size ∧ b ≠ S ∧ b ≠ q) (hs : Sl WS Z a' y.args) {nm : ByteArray} (hnm : h[i].1 = nm) :
  ∃ w5, (Instr.mapUpdate 121 (.map (some q)) (.string nm) (.agg #[.string y.name, .slice a' y.args.length c', .int .i64 (h.length : Int)])).run Tryz.prog WS = .ok () w5 ∧ SolE S q td h f' (fun b => Y' b ∨ Z b) w5 ∧ w5.heap.size = WS.heap.size ∧ w5.os = WS.os ∧ w5.tape = WS.tape ∧ w5.output = WS.output ∧ ∀ b, b ≠ q → w5.heap[b]? = WS.heap[b]? := by
 have hE2 := (solE_ok S q td h).keep _ _ _ _ hE hk
 obtain ⟨⟨L, e1, e2, e3⟩, e4, e5, e6, e7⟩ := hE2
 obtain ⟨v0, hv0, _⟩ := e3.get g hi
 have hSq : S ≠ q := fun e => by
  obtain ⟨es, clk, h1, _⟩ := e2
  subst e
  unfold Blk at e1
  rw [h1] at e1; cases e1
 obtain ⟨w5, h1, h2, h3, h4, h5, h6, h7⟩ := run_set (P := Tryz.prog) Tryz.underlying121 Tryz.underlying9 e2 h[i].1 (.agg #[.string y.name, .slice a' y.args.length c', .int .i64 (h.length : Int)]) v0 hv0
 refine ⟨w5, by rw [← hnm]; exact h1, ⟨⟨_, ?_, h2, ?_⟩, Or.inl e4, Or.inl e5, fun b hb => ?_, e7⟩, h3, h4, h5, h6, h7⟩
 ·unfold Blk at *; rw [h7 S hSq]; exact e1
 ·have kp : ∀ (X : Nat → Prop) a l, (∀ b, X b → (Y' b ∨ Z b) ∧ b ≠ S ∧ b ≠ q) → Sl WS X a l → Sl w5 (fun b => (Y' b ∨ Z b) ∧ b ≠ S ∧ b ≠ q) a l := fun X a l hX hsl => (hsl.kept fun b hb => h7 b (hX b hb).2.2).mono fun b hb _ => hX b hb
  refine (e3.imp fun a l hsl => kp _ a l (fun b hb => ⟨Or.inl hb.1, hb.2⟩) hsl).set g hi ⟨h.length, a', c', Nat.le_refl _, ?_, ?_⟩
  ·rw [Nat.max_eq_left (by omega), ← hy]
  ·rw [Nat.max_eq_left (by omega), ← hy]
   exact kp _ _ _ (fun b hb => ⟨Or.inr hb, (hZ b hb).2⟩) hs
 ·rw [h3]
  rcases hb with hb | hb
  ·exact e6 b hb
  ·exact (hZ b hb).1
theorem look_full {S q : Nat} {td : Value} {h : List (ByteArray × Tm)} {f' : Bool} {Y' Z : Nat → Prop} {w1 WS : World} (hE : SolE S q td h f' Y' w1) (hk : ∀ b, Y' b → WS.heap[b]? = w1.heap[b]?) (hg : grtB (sAt h) = true) (hZ : ∀ b, Z b → b < WS.heap.size ∧ b ≠ S ∧ b ≠ q) : SolE S q td h true (fun b => Y' b ∨ Z b) (WS.setCell ⟨S, 2, none⟩ (.bool true)) := by
 have hE2 := (solE_ok S q td h).keep _ _ _ _ hE hk
 obtain ⟨⟨L, e1, e2, e3⟩, e4, e5, e6, e7⟩ := hE2
 have hSq : S ≠ q := fun e => by
  obtain ⟨es, clk, h1, _⟩ := e2
  subst e
  unfold Blk at e1
  rw [h1] at e1; cases e1
 have hk2 : ∀ b, b ≠ S → (WS.setCell ⟨S, 2, none⟩ (.bool true)).heap[b]? = WS.heap[b]? := fun b hb => Below.heap_setCell _ _ _ _ (by simpa using hb)
 refine ⟨⟨L, ?_, e2.kept (hk2 q (Ne.symm hSq)), e3.imp fun a l hsl => (hsl.kept fun b hb => hk2 b hb.2.1).mono fun b hb _ => ⟨Or.inl hb.1, hb.2⟩⟩, Or.inl e4, Or.inl e5, fun b hb => ?_, fun _ => hg⟩
 ·have := e1.set 2 (.bool true)
  simpa using this
 ·have hz : (WS.setCell ⟨S, 2, none⟩ (.bool true)).heap.size = WS.heap.size := by simp [World.setCell]
  rw [hz]
  rcases hb with hb | hb
  ·exact e6 b hb
  ·exact (hZ b hb).1
set_option maxHeartbeats 1000000 in
theorem look_at (S q : Nat) (td : Value) (h : List (ByteArray × Tm)) (g : GoodH h) (hN : NamesH h) (i : Nat) (hi : i < h.length)
  (hrec : ∀ k (hk : k < h.length), i < k → LkC (SolE S q td h) (SolM S q) S (forT (sAt h) h[k].1) h[k].1) : LkC (SolE S q td h) (SolM S q) S (forT (sAt h) h[i].1) h[i].1 := by
 intro f Y w hE
 have HE := hide hE
 obtain ⟨⟨L, hB, hM, hSt⟩, hYS, hYq, hY, hg⟩ := hE
 obtain ⟨v, hgv, hst⟩ := hSt.get g hi
 obtain ⟨T, j, a, c, hT, hj, rfl, hsl⟩ := stE_lit hst
 have HST := hide hSt
 have HSL := hide hsl
 have HGV := hide hgv
 have HMM := hide hM
 have HG := hide hg
 have HY := hide hY
 have hz : ∀ w', (zeroValue 167).run Tryz.prog w' = .ok (.agg #[.string ⟨#[]⟩, .slice none 0 0, .int .i64 0]) w' := fun w' => Tryz.zeroValue167 w'
 have hml := hM.lt
 have hSl := hB.lt
 have hF := forT_at g hi
 obtain ⟨nm, hnm⟩ : ∃ nm, h[i].1 = nm := ⟨_, rfl⟩
 rw [hnm] at hgv hF HGV ⊢
 have HF := hide hF
 clear hF
 have HNM := hide hnm
 have HT := hide hT
 have hSq : S ≠ q := fun e => by
  obtain ⟨es, clk, h1, _⟩ := hM
  subst e
  unfold Blk at hB
  rw [h1] at hB; cases hB
 have HB := hide hB
 have b1 : ∀ o o', ((w.alloc o).alloc o').cell? ⟨S, 1, none⟩ = some (.map (some q)) := fun o o' => ((hB.alloc o).alloc o').cell 1
 have b1' : ∀ o, (w.alloc o).cell? ⟨S, 1, none⟩ = some (.map (some q)) := fun o => (hB.alloc o).cell 1
 have b2 : ∀ o o', ((w.alloc o).alloc o').cell? ⟨S, 2, none⟩ = some (.bool f) := fun o o' => ((hB.alloc o).alloc o').cell 2
 have hlk : ∀ o, (Instr.lookup 121 (.map (some q)) (.string nm) true).run Tryz.prog (w.alloc o) = .ok (.tuple #[.agg #[.string T.name, .slice a T.args.length c, .int .i64 (j : Int)], .bool true]) (w.alloc o) := fun o => by
  rw [run_look (P := Tryz.prog) Tryz.underlying121 Tryz.underlying9 (hz _) (hM.kept (Below.heap_alloc _ _ _ hml)) nm, hgv]; rfl
 have hln : Hid (L.length = h.length) := hSt.1
 have hlen : ∀ o o', Sem.run Tryz.prog (Builtin.len_ #[121] 3 #[.map (some q)]) ((w.alloc o).alloc o').drew = .ok (.int .i64 (h.length : Int)) ((w.alloc o).alloc o').drew := fun o o' => by
  have h1 : MapAt ((w.alloc o).alloc o').drew q L := HMM.out.below ((((Below.refl w.heap.size w).alloc (Nat.le_refl _) o).alloc (by simp) o').drew) hml
  rw [run_len Tryz.underlying121 h1, hln.out]
 clear hB hSt hg hY hsl hgv hst hnm hT hM
 cases f with
 | true =>
  go_enter Tryz.func129, Tryz.ntmps129
  go_wp2_with fail
  go_region
  all_goals go_wp2_with fail
  all_goals
   refine bodyPost_ret (v := .tuple #[.agg #[.string T.name, .slice a T.args.length c], .bool true]) (by simp [results, Tryz.results129, go_sem]) rfl ?_
   exact ⟨T.name, a, T.args.length, c, true, true, Y, rfl, (solE_ok S q td h).below HE.out (((Below.refl _ _).alloc (Nat.le_refl _) _).alloc (by simp) _).drew, fun b hb => Or.inl hb, fun h => h, (((ExQ.refl _ _).alloc _).alloc _).drew, Or.inl ⟨rfl, T, rfl, rfl, (HSL.out.later (((Below.refl _ _).alloc (Nat.le_refl _) _).alloc (by simp) _).drew).mono fun b hb _ => hb.1, fun h => by cases h⟩⟩
 | false =>
  by_cases hjl : j = h.length
  ·have HJ := hide hjl
   have hT2 : Hid (forT (sAt h) nm = some T) := by
    unfold Hid
    rw [HF.out, HT.out, hjl, Nat.max_eq_left (by omega)]
   have hje : ((j : Int) == (h.length : Int)) = true := by rw [hjl]; simp
   clear hjl
   go_enter Tryz.func129, Tryz.ntmps129
   go_wp2_with fail
   go_region
   all_goals go_wp2_with fail
   all_goals
    refine bodyPost_ret (v := .tuple #[.agg #[.string T.name, .slice a T.args.length c], .bool true]) (by simp [results, Tryz.results129, go_sem]) rfl ?_
    exact ⟨T.name, a, T.args.length, c, true, false, Y, rfl, (solE_ok S q td h).below HE.out (((Below.refl _ _).alloc (Nat.le_refl _) _).alloc (by simp) _).drew, fun b hb => Or.inl hb, fun h => h, (((ExQ.refl _ _).alloc _).alloc _).drew, Or.inl ⟨rfl, T, rfl, rfl, (HSL.out.later (((Below.refl _ _).alloc (Nat.le_refl _) _).alloc (by simp) _).drew).mono fun b hb _ => hb.1, fun _ => hT2.out⟩⟩
  ·have HJ := hide hjl
   have hje : ((j : Int) == (h.length : Int)) = false := beq_eq_false_iff_ne.2 (by omega)
   clear hjl
   go_enter Tryz.func129, Tryz.ntmps129
   go_wp2_with fail
   go_region
   go_wp2_with fail
   have HB0 : Hid (Below w.heap.size w ((w.alloc (.cells #[.string ⟨#[]⟩, .slice none 0 0] 26)).alloc (.cells #[.string T.name, .slice a T.args.length c, .int .i64 (h.length : Int)] 167)).drew) := (((Below.refl _ _).alloc (Nat.le_refl _) _).alloc (by simp) _).drew
   have R0 : Hid (Blk ((w.alloc (.cells #[.string ⟨#[]⟩, .slice none 0 0] 26)).alloc (.cells #[.string T.name, .slice a T.args.length c, .int .i64 (h.length : Int)] 167)).drew w.heap.size #[.string ⟨#[]⟩, .slice none 0 0] 26) := ((Blk.new w _ _).alloc _).drewN 1
   have X0 : Hid (Blk ((w.alloc (.cells #[.string ⟨#[]⟩, .slice none 0 0] 26)).alloc (.cells #[.string T.name, .slice a T.args.length c, .int .i64 (h.length : Int)] 167)).drew (w.heap.size + 1) #[.string T.name, .slice a T.args.length c, .int .i64 (h.length : Int)] 167) := by
    have h1 := Blk.new (w.alloc (.cells #[.string ⟨#[]⟩, .slice none 0 0] 26)) #[.string T.name, .slice a T.args.length c, .int .i64 (h.length : Int)] 167
    rw [World.size_alloc] at h1
    exact h1
   have z0 : ((w.alloc (.cells #[.string ⟨#[]⟩, .slice none 0 0] 26)).alloc (.cells #[.string T.name, .slice a T.args.length c, .int .i64 (h.length : Int)] 167)).drew.heap.size = w.heap.size + 2 := by simp
   generalize ((w.alloc (.cells #[.string ⟨#[]⟩, .slice none 0 0] 26)).alloc (.cells #[.string T.name, .slice a T.args.length c, .int .i64 (h.length : Int)] 167)).drew = w0 at *
   have HTG : Hid (gT (forT (sAt h)) T = stood h i h.length hi) := by
    unfold Hid
    rw [HT.out]
    exact stood_fill g hN hi (Nat.max_le.2 ⟨hj, hi⟩)
   have SF := sfill_of S q td h T a c w0 (fun b => Y b ∧ b ≠ S ∧ b ≠ q) Y false (fun b hb hm => by rcases hm with h | h; exact hb.2.1 h; exact hb.2.2 h) (HSL.out.later HB0.out) ((solE_ok S q td h).below HE.out HB0.out) (fun n2 ho hv => by
    by_cases hbd : ∃ k, ∃ hk : k < h.length, h[k].1 = n2
    ·obtain ⟨k, hk, rfl⟩ := hbd
     rw [HT.out] at ho
     have h1 := stood_later g hi (Nat.max_le.2 ⟨hj, hi⟩) (hN i hi) hk ho
     exact hrec k hk (by omega)
    ·exact look_free S q td h g n2 fun k hk e => hbd ⟨k, hk, e⟩)
   rw [HTG.out] at SF
   refine SF.mono ?_
   clear SF
   rintro e w1 ⟨y, a', c', ok, f', Y', rfl, hE1, hsub, hff, hx, hs1, hk1, hk2⟩
   have HX1 : Hid (ExQ (SolM S q) w w1) := (ExQ.ofBelow HB0.out).trans hx
   have hmn : ∀ b, SolM S q b → b < w.heap.size := fun b hb => by rcases hb with rfl | rfl; exact hSl; exact hml
   have R1 := hide (R0.out.exq hx (fun h => by have := hmn _ h; omega))
   have X1 := hide (X0.out.exq hx (fun h => by have := hmn _ h; omega))
   have HZ1 : Hid (w.heap.size + 2 ≤ w1.heap.size) := by have := hx.size; unfold Hid; omega
   have HSUB : Hid (∀ b, Y' b → Y b ∨ w.heap.size + 2 ≤ b) := fun b hb => (hsub b hb).imp id fun h => by omega
   have HS1 : Hid (Sl w1 (fun b => w.heap.size + 2 ≤ b ∧ b < w1.heap.size) a' y.args) := hs1.mono fun b hb h2 => ⟨by omega, h2⟩
   have HE1 := hide hE1
   have HYX : Hid (∀ b, Y' b → b ≠ w.heap.size ∧ b ≠ w.heap.size + 1) := fun b hb => by
    rcases HSUB.out b hb with h1 | h1
    ·have := HY.out b h1; omega
    ·omega
   have x0 := X1.out.c0
   have x1 := X1.out.c1
   have x2 := X1.out.c2
   have xf := X1.out.frozen
   have HK1 := hide hk1
   have HK2 := hide hk2
   clear hsub hx hs1 hk1 hk2 hE1 hff hmn
   cases ok with
   | true =>
    obtain ⟨rfl, hyT, hyz⟩ := HK1.out rfl
    have HYT := hide hyT
    clear hyT hyz HK1 HK2
    have hkS : ∀ b, b ≠ w.heap.size + 1 → ((w1.setCell ⟨w.heap.size + 1, 0, none⟩ (.string y.name)).setCell ⟨w.heap.size + 1, 1, none⟩ (.slice a' y.args.length c')).drew.heap[b]? = w1.heap[b]? := fun b hb => by
     show ((w1.setCell ⟨w.heap.size + 1, 0, none⟩ (.string y.name)).setCell ⟨w.heap.size + 1, 1, none⟩ (.slice a' y.args.length c')).heap[b]? = _
     rw [Below.heap_setCell _ _ _ _ (by simpa using hb), Below.heap_setCell _ _ _ _ (by simpa using hb)]
    have hzS : ((w1.setCell ⟨w.heap.size + 1, 0, none⟩ (.string y.name)).setCell ⟨w.heap.size + 1, 1, none⟩ (.slice a' y.args.length c')).drew.heap.size = w1.heap.size := by simp [World.setCell]
    obtain ⟨w5, hput, hE5, hz5, ho5, ht5, hu5, hk5⟩ := look_put (WS := ((w1.setCell ⟨w.heap.size + 1, 0, none⟩ (.string y.name)).setCell ⟨w.heap.size + 1, 1, none⟩ (.slice a' y.args.length c')).drew) (Z := fun b => w.heap.size + 2 ≤ b ∧ b < w1.heap.size) (c' := c') g hi HE1.out (fun b hb => hkS b (HYX.out b hb).2) HYT.out (fun b hb => ⟨by rw [hzS]; exact hb.2, by omega, by omega⟩) (HS1.out.kept fun b hb => hkS b (by omega)) HNM.out
    have HE5 := hide hE5
    have XS : Hid (Blk w5 (w.heap.size + 1) #[.string y.name, .slice a' y.args.length c', .int .i64 (h.length : Int)] 167) := by
     have h1 := (X1.out.set 0 (.string y.name)).set 1 (.slice a' y.args.length c')
     unfold Hid Blk
     rw [hk5 _ (by omega)]
     show ((w1.setCell ⟨w.heap.size + 1, 0, none⟩ (.string y.name)).setCell ⟨w.heap.size + 1, 1, none⟩ (.slice a' y.args.length c')).heap[w.heap.size + 1]? = _
     unfold Blk at h1
     rw [h1]
     simp
    have RS : Hid (Blk w5 w.heap.size #[.string ⟨#[]⟩, .slice none 0 0] 26) := by
     unfold Hid Blk
     rw [hk5 _ (by omega), hkS _ (by omega)]
     exact R1.out
    have HX5 : Hid (ExQ (SolM S q) w w5) := by
     have h1 := ((HX1.out.setNew (b := w.heap.size + 1) (by omega) 0 (.string y.name)).setNew (b := w.heap.size + 1) (by omega) 1 (.slice a' y.args.length c')).drew
     exact ⟨ho5.trans h1.os, ht5.trans h1.tape, hu5.trans h1.output, by rw [hz5]; exact h1.size, fun b hb hn => (hk5 b (fun e => hn (Or.inr e))).trans (h1.block b hb hn)⟩
    have s1 : ((w1.setCell ⟨w.heap.size + 1, 0, none⟩ (.string y.name)).setCell ⟨w.heap.size + 1, 1, none⟩ (.slice a' y.args.length c')).cell? ⟨S, 1, none⟩ = some (.map (some q)) := by
     obtain ⟨⟨L1, hB1, _⟩, _⟩ := HE1.out
     exact ((hB1.setOther _ _ (by omega)).setOther _ _ (by omega)).cell 1
    have y0 : ((w1.setCell ⟨w.heap.size + 1, 0, none⟩ (.string y.name)).setCell ⟨w.heap.size + 1, 1, none⟩ (.slice a' y.args.length c')).cell? ⟨w.heap.size + 1, 0, none⟩ = some (.string y.name) := by
     have := ((X1.out.set 0 (.string y.name)).set 1 (.slice a' y.args.length c')).cell 0
     simpa using this
    have y1 : ((w1.setCell ⟨w.heap.size + 1, 0, none⟩ (.string y.name)).setCell ⟨w.heap.size + 1, 1, none⟩ (.slice a' y.args.length c')).cell? ⟨w.heap.size + 1, 1, none⟩ = some (.slice a' y.args.length c') := by
     have := ((X1.out.set 0 (.string y.name)).set 1 (.slice a' y.args.length c')).cell 1
     simpa using this
    have y2 : ((w1.setCell ⟨w.heap.size + 1, 0, none⟩ (.string y.name)).setCell ⟨w.heap.size + 1, 1, none⟩ (.slice a' y.args.length c')).cell? ⟨w.heap.size + 1, 2, none⟩ = some (.int .i64 (h.length : Int)) := by
     have := ((X1.out.set 0 (.string y.name)).set 1 (.slice a' y.args.length c')).cell 2
     simpa using this
    have q0 := XS.out.c0
    have q1 := XS.out.c1
    have r0 := RS.out.c0
    have r1 := RS.out.c1
    have rf := RS.out.frozen
    have HZ5 : Hid (w5.heap.size = w1.heap.size) := by unfold Hid; rw [hz5, hzS]
    have HS5 : Hid (Sl w5 (fun b => w.heap.size + 2 ≤ b ∧ b < w1.heap.size) a' y.args) := (HS1.out.kept fun b hb => hkS b (by omega)).kept fun b hb => hk5 b (by omega)
    clear hE5 hz5 ho5 ht5 hu5 hk5 hzS hkS
    go_wp2_with fail
    go_region
    all_goals go_wp2_with fail
    all_goals
     refine bodyPost_ret (v := .tuple #[.agg #[.string y.name, .slice a' y.args.length c'], .bool true]) (by simp [results, Tryz.results129, go_sem, World.cell?_setCell_same, World.cell?_setCell_other, r0, r1]) rfl ?_
     have hkF : ∀ b, b ≠ w.heap.size → ((w5.setCell ⟨w.heap.size, 0, none⟩ (.string y.name)).setCell ⟨w.heap.size, 1, none⟩ (.slice a' y.args.length c')).heap[b]? = w5.heap[b]? := fun b hb => by
      rw [Below.heap_setCell _ _ _ _ (by simpa using hb), Below.heap_setCell _ _ _ _ (by simpa using hb)]
     refine ⟨y.name, a', y.args.length, c', true, false, _, rfl, (solE_ok S q td h).keep _ _ _ _ HE5.out (fun b hb => hkF b ?_), fun b hb => ?_, fun h => h, (HX5.out.setNew (by omega) _ _).setNew (by omega) _ _, Or.inl ⟨rfl, y, rfl, rfl, (HS5.out.kept fun b hb => hkF b (by omega)).mono fun b hb _ => Or.inr hb, fun _ => by rw [HF.out, HYT.out]⟩⟩
     ·rcases hb with hb | hb
      ·exact (HYX.out b hb).1
      ·omega
     ·rcases hb with hb | hb
      ·exact (HSUB.out b hb).imp id fun h => by omega
      ·right; omega
   | false =>
    have HGR : Hid (grtB (sAt h) = true) := by
     rcases HK2.out rfl with h1 | h1
     ·exact HE1.out.2.2.2.2 h1
     ·exact stood_great g hi h1
    have hkS : ∀ b, b ≠ w.heap.size + 1 → ((w1.setCell ⟨w.heap.size + 1, 0, none⟩ (.string y.name)).setCell ⟨w.heap.size + 1, 1, none⟩ (.slice a' y.args.length c')).heap[b]? = w1.heap[b]? := fun b hb => by
     rw [Below.heap_setCell _ _ _ _ (by simpa using hb), Below.heap_setCell _ _ _ _ (by simpa using hb)]
    have hzS : ((w1.setCell ⟨w.heap.size + 1, 0, none⟩ (.string y.name)).setCell ⟨w.heap.size + 1, 1, none⟩ (.slice a' y.args.length c')).heap.size = w1.heap.size := by simp [World.setCell]
    have HE5 := hide (look_full (WS := ((w1.setCell ⟨w.heap.size + 1, 0, none⟩ (.string y.name)).setCell ⟨w.heap.size + 1, 1, none⟩ (.slice a' y.args.length c'))) (Z := fun b => w.heap.size + 2 ≤ b ∧ b < w1.heap.size) HE1.out (fun b hb => hkS b (HYX.out b hb).2) HGR.out (fun b hb => ⟨by rw [hzS]; exact hb.2, by omega, by omega⟩))
    obtain ⟨⟨L1, hB1, hM1, hST1⟩, hYS1, hrest1⟩ := HE1.out
    have BS := hide ((hB1.setOther (b' := w.heap.size + 1) 0 (.string y.name) (by omega)).setOther (b' := w.heap.size + 1) 1 (.slice a' y.args.length c') (by omega))
    have XS := hide ((X1.out.set 0 (.string y.name)).set 1 (.slice a' y.args.length c'))
    have RS := hide ((R1.out.setOther (b' := w.heap.size + 1) 0 (.string y.name) (by omega)).setOther (b' := w.heap.size + 1) 1 (.slice a' y.args.length c') (by omega))
    have HX5 := hide ((HX1.out.setNew (b := w.heap.size + 1) (by omega) 0 (.string y.name)).setNew (b := w.heap.size + 1) (by omega) 1 (.slice a' y.args.length c'))
    have HS5 : Hid (Sl ((w1.setCell ⟨w.heap.size + 1, 0, none⟩ (.string y.name)).setCell ⟨w.heap.size + 1, 1, none⟩ (.slice a' y.args.length c')) (fun b => w.heap.size + 2 ≤ b ∧ b < w1.heap.size) a' y.args) := HS1.out.kept fun b hb => hkS b (by omega)
    have s2 : ((w1.setCell ⟨w.heap.size + 1, 0, none⟩ (.string y.name)).setCell ⟨w.heap.size + 1, 1, none⟩ (.slice a' y.args.length c')).cell? ⟨S, 2, none⟩ = some (.bool f') := BS.out.cell 2
    have sf := BS.out.frozen 2
    have y0 : (((w1.setCell ⟨w.heap.size + 1, 0, none⟩ (.string y.name)).setCell ⟨w.heap.size + 1, 1, none⟩ (.slice a' y.args.length c')).setCell ⟨S, 2, none⟩ (.bool true)).cell? ⟨w.heap.size + 1, 0, none⟩ = some (.string y.name) := by
     have := (XS.out.setOther (b' := S) 2 (.bool true) (by omega)).cell 0
     simpa using this
    have y1 : (((w1.setCell ⟨w.heap.size + 1, 0, none⟩ (.string y.name)).setCell ⟨w.heap.size + 1, 1, none⟩ (.slice a' y.args.length c')).setCell ⟨S, 2, none⟩ (.bool true)).cell? ⟨w.heap.size + 1, 1, none⟩ = some (.slice a' y.args.length c') := by
     have := (XS.out.setOther (b' := S) 2 (.bool true) (by omega)).cell 1
     simpa using this
    have r0 : (((w1.setCell ⟨w.heap.size + 1, 0, none⟩ (.string y.name)).setCell ⟨w.heap.size + 1, 1, none⟩ (.slice a' y.args.length c')).setCell ⟨S, 2, none⟩ (.bool true)).cell? ⟨w.heap.size, 0, none⟩ = some (.string ⟨#[]⟩) := (RS.out.setOther (b' := S) 2 (.bool true) (by omega)).cell 0
    have r1 : (((w1.setCell ⟨w.heap.size + 1, 0, none⟩ (.string y.name)).setCell ⟨w.heap.size + 1, 1, none⟩ (.slice a' y.args.length c')).setCell ⟨S, 2, none⟩ (.bool true)).cell? ⟨w.heap.size, 1, none⟩ = some (.slice none 0 0) := (RS.out.setOther (b' := S) 2 (.bool true) (by omega)).cell 1
    have rf := R1.out.frozen
    have hnS : w.heap.size + 1 ≠ S := by omega
    have hnS2 : w.heap.size ≠ S := by omega
    clear hB1 hM1 hST1 hYS1 hrest1 HK2 hkS hzS
    go_wp2_with fail
    refine bodyPost_ret (v := .tuple #[.agg #[.string y.name, .slice a' y.args.length c'], .bool true]) (by simp [results, Tryz.results129, go_sem, World.cell?_setCell_same, World.cell?_setCell_other, r0, r1]) rfl ?_
    have hkF : ∀ b, b ≠ w.heap.size → (((((w1.setCell ⟨w.heap.size + 1, 0, none⟩ (.string y.name)).setCell ⟨w.heap.size + 1, 1, none⟩ (.slice a' y.args.length c')).setCell ⟨S, 2, none⟩ (.bool true)).setCell ⟨w.heap.size, 0, none⟩ (.string y.name)).setCell ⟨w.heap.size, 1, none⟩ (.slice a' y.args.length c')).heap[b]? = (((w1.setCell ⟨w.heap.size + 1, 0, none⟩ (.string y.name)).setCell ⟨w.heap.size + 1, 1, none⟩ (.slice a' y.args.length c')).setCell ⟨S, 2, none⟩ (.bool true)).heap[b]? := fun b hb => by
     rw [Below.heap_setCell _ _ _ _ (by simpa using hb), Below.heap_setCell _ _ _ _ (by simpa using hb)]
    refine ⟨y.name, a', y.args.length, c', true, true, _, rfl, (solE_ok S q td h).keep _ _ _ _ HE5.out (fun b hb => hkF b ?_), fun b hb => ?_, fun h => rfl, ((HX5.out.set (Or.inl rfl) _ _).setNew (by omega) _ _).setNew (by omega) _ _, Or.inl ⟨rfl, y, rfl, rfl, ((HS5.out.kept fun b hb => Below.heap_setCell _ _ _ _ (by simp; omega)).kept fun b hb => hkF b (by omega)).mono fun b hb _ => Or.inr hb, fun h => by cases h⟩⟩
    ·rcases hb with hb | hb
     ·exact (HYX.out b hb).1
     ·omega
    ·rcases hb with hb | hb
     ·exact (HSUB.out b hb).imp id fun h => by omega
     ·right; omega
theorem look_all (S q : Nat) (td : Value) (h : List (ByteArray × Tm)) (g : GoodH h) (hN : NamesH h) : ∀ (d i : Nat) (hi : i < h.length), h.length - i ≤ d → LkC (SolE S q td h) (SolM S q) S (forT (sAt h) h[i].1) h[i].1
 | 0, i, hi, hd => by omega
 | d + 1, i, hi, hd => look_at S q td h g hN i hi fun k hk hik => look_all S q td h g hN d k hk (by omega)
theorem look_any2 (S q : Nat) (td : Value) (h : List (ByteArray × Tm)) (g : GoodH h) (hN : NamesH h) (nm : ByteArray) : LkC (SolE S q td h) (SolM S q) S (forT (sAt h) nm) nm := by
 by_cases hbd : ∃ k, ∃ hk : k < h.length, h[k].1 = nm
 ·obtain ⟨k, hk, rfl⟩ := hbd
  exact look_all S q td h g hN _ k hk (Nat.le_refl _)
 ·exact look_free S q td h g nm fun k hk e => hbd ⟨k, hk, e⟩
theorem ufill_any (S q : Nat) (td : Value) (h : List (ByteArray × Tm)) (g : GoodH h) (hN : NamesH h) (t : Tm) (he : errL [t] = 0) (a : Option Addr) (c : Nat) (w : World) (X Y : Nat → Prop) (f : Bool) (hXM : ∀ b, X b → ¬ SolM S q b) (hs : Sl w X a t.args) (hEv : SolE S q td h f Y w) :
  Calls Tryz.prog 113 #[.pointer (some ⟨S, 0, none⟩), .agg #[.string t.name, .slice a t.args.length c]] w fun e w' => FsPost S q td h (onT (sAt h) t) f Y w e w' := by
 have h1 := sfill_of S q td h t a c w X Y f hXM hs hEv fun nm _ _ => look_any2 S q td h g hN nm
 rw [gT_onT g.all.vars he] at h1
 exact h1
def cmpN (a b : ByteArray) : Int := if ltB a b = true then -1 else if ltB b a = true then 1 else 0
theorem isNaN_any (a : ByteArray) (w : World) : Calls Tryz.prog 74 #[.string a] w fun e w' => e = .returned (.bool false) ∧ w' = w := by
 go_enter Tryz.func74, Tryz.ntmps74
 go_wp2_with fail
 go_ret
 exact ⟨by simp, rfl⟩
theorem compare_any (a b : ByteArray) (w : World) : Calls Tryz.prog 56 #[.string a, .string b] w fun e w' => e = .returned (.int .i64 (cmpN a b)) ∧ w' = w := by
 cases h1 : Op.bytesLess a.toList b.toList with
 | true =>
  have HN : Hid (cmpN a b = -1) := by unfold Hid cmpN ltB; rw [h1]; rfl
  go_enter Tryz.func56, Tryz.ntmps56
  go_wp2_with (go_at_call 74; refine (isNaN_any _ _).mono ?_; rintro e w' ⟨rfl, rfl⟩)
  go_ret
  exact ⟨by rw [HN.out]; rfl, rfl⟩
 | false =>
  by_cases he : a = b
  ·have HN : Hid (cmpN a b = 0) := by unfold Hid cmpN ltB; rw [h1, he, bl_irrefl]; rfl
   have h2 : (a.toList == b.toList) = true := bytes_yes he
   clear he
   go_enter Tryz.func56, Tryz.ntmps56
   go_wp2_with (go_at_call 74; refine (isNaN_any _ _).mono ?_; rintro e w' ⟨rfl, rfl⟩)
   go_ret
   exact ⟨by rw [HN.out]; rfl, rfl⟩
  ·have HN : Hid (cmpN a b = 1) := by
    unfold Hid cmpN
    have h3 : ltB b a = true := by
     cases h : ltB b a with
     | true => rfl
     | false => exact absurd (ltB_conn h1 h) he
    rw [if_neg (by unfold ltB; rw [h1]; simp), if_pos h3]
   have h2 : (a.toList == b.toList) = false := bytes_no he
   clear he
   go_enter Tryz.func56, Tryz.ntmps56
   go_wp2_with (go_at_call 74; refine (isNaN_any _ _).mono ?_; rintro e w' ⟨rfl, rfl⟩)
   go_ret
   exact ⟨by rw [HN.out]; rfl, rfl⟩
open Go.Sort in
theorem inOrder1_any (x y : Bc) (w : World) : Calls Tryz.prog 55 #[.agg (enc3 x).toArray, .agg (enc3 y).toArray] w fun e w' => e = .returned (.int .i64 (cmpN x.1.nm y.1.nm)) ∧ ∃ q os', w' = grow (w.drewN q) os' := by
 have HC := hide (fun w' => compare_any x.1.nm y.1.nm w')
 generalize cmpN x.1.nm y.1.nm = z at *
 unfold enc3
 go_enter Tryz.func55, Tryz.ntmps55
 go_wp2_with (go_at_call 56; refine (HC.out _).mono ?_; rintro e w' ⟨rfl, rfl⟩)
 go_ret
 exact ⟨rfl, 0, _, by rw [alloc_eq_grow, alloc_eq_grow, grow_grow]; rfl⟩
open Go.ChangeMaps (setBlock)
def RangeAt (w : World) (b r : Nat) (L rem : List (ByteArray × Value)) : Prop :=
 ∃ es clk since seen c0, w.heap[b]? = some (.map es clk) ∧ es.toList.map (fun e => (e.key, e.val)) = L.map (fun p => (Value.string p.1, p.2)) ∧ Stamps es clk ∧
  w.heap[r]? = some (.mapIter (some b) since seen c0) ∧ (∀ x ∈ es.toList, x.born < since) ∧ since ≤ c0 ∧ since ≤ clk ∧
  (leftOf es seen).toList.map (fun e => (e.key, e.val)) = rem.map (fun p => (Value.string p.1, p.2))
def leftAt (w : World) (b r : Nat) : Nat :=
 match w.heap[b]?, w.heap[r]? with
 | some (.map es _), some (.mapIter _ _ seen _) => (leftOf es seen).size
 | _, _ => 0
theorem RangeAt.left {w : World} {b r : Nat} {L rem : List (ByteArray × Value)} (h : RangeAt w b r L rem) : leftAt w b r = rem.length := by
 obtain ⟨es, clk, since, seen, c0, hb, _, _, hr, _, _, _, hl⟩ := h
 have := congrArg List.length hl
 simp only [List.length_map, Array.length_toList] at this
 simp only [leftAt, hb, hr]
 exact this
theorem RangeAt.map {w : World} {b r : Nat} {L rem : List (ByteArray × Value)} (h : RangeAt w b r L rem) : MapAt w b L := by
 obtain ⟨es, clk, since, seen, c0, hb, he, hs, _⟩ := h
 exact ⟨es, clk, hb, he, hs⟩
theorem RangeAt.ne {w : World} {b r : Nat} {L rem : List (ByteArray × Value)} (h : RangeAt w b r L rem) : r ≠ b := by
 obtain ⟨es, clk, since, seen, c0, hb, he, hs, hr, _⟩ := h
 intro e
 rw [e, hb] at hr
 cases hr
theorem RangeAt.lt {w : World} {b r : Nat} {L rem : List (ByteArray × Value)} (h : RangeAt w b r L rem) : r < w.heap.size := by
 obtain ⟨es, clk, since, seen, c0, hb, he, hs, hr, _⟩ := h
 exact (Array.getElem?_eq_some_iff.1 hr).1
theorem RangeAt.kept {w w' : World} {b r : Nat} {L rem : List (ByteArray × Value)} (h : RangeAt w b r L rem) (hb' : w'.heap[b]? = w.heap[b]?) (hr' : w'.heap[r]? = w.heap[r]?) : RangeAt w' b r L rem := by
 obtain ⟨es, clk, since, seen, c0, hb, he, hs, hr, rest⟩ := h
 exact ⟨es, clk, since, seen, c0, hb'.trans hb, he, hs, hr'.trans hr, rest⟩
theorem RangeAt.below {w w' : World} {b r B : Nat} {L rem : List (ByteArray × Value)} (h : RangeAt w b r L rem) (hb : Below B w w') (h1 : b < B) (h2 : r < B) : RangeAt w' b r L rem := h.kept (hb.block b h1) (hb.block r h2)
theorem MapAt.range {P : Program} {w : World} {T kt et : TypeId} {b : Nat} {L : List (ByteArray × Value)} (h : MapAt w b L) (hm : P.underlying T = some (.map kt et)) :
  ∃ o, (Instr.range T (.map (some b))).run P w = .ok (.pointer (some ⟨w.heap.size, 0, none⟩)) (w.alloc o) ∧ RangeAt (w.alloc o) b w.heap.size L L := by
 have hlt := h.lt
 obtain ⟨es, clk, hb, he, hs⟩ := h
 refine ⟨_, run_range_map w T kt et b es clk hm hb, es, clk, clk, #[], clk, (Below.heap_alloc _ _ _ hlt).trans hb, he, hs, heap_alloc_new w _, hs.1, Nat.le_refl _, Nat.le_refl _, ?_⟩
 rw [← he]
 congr 1
 simp [leftOf]
theorem kv_inj {l : List MapEntry} {L : List (ByteArray × Value)} (h : l.map (fun e => (e.key, e.val)) = L.map (fun p => (Value.string p.1, p.2))) {e : MapEntry} (he : e ∈ l) : ∃ p ∈ L, e.key = .string p.1 ∧ e.val = p.2 := by
 have : (e.key, e.val) ∈ L.map (fun p => (Value.string p.1, p.2)) := by rw [← h]; exact List.mem_map.2 ⟨e, he, rfl⟩
 obtain ⟨p, hp, e2⟩ := List.mem_map.1 this
 simp only [Prod.mk.injEq] at e2
 exact ⟨p, hp, e2.1.symm, e2.2.symm⟩
theorem left_out (seen : Array Nat) (e : MapEntry) : ∀ (l : List MapEntry) (R : List (ByteArray × Value)), (l.map (·.born)).Nodup → e ∈ l → seen.contains e.born = false → (l.filter fun x => !seen.contains x.born).map (fun e => (e.key, e.val)) = R.map (fun p => (Value.string p.1, p.2)) →
  ∃ p R', e.key = .string p.1 ∧ e.val = p.2 ∧ R.Perm (p :: R') ∧ (l.filter fun x => !(seen.push e.born).contains x.born).map (fun e => (e.key, e.val)) = R'.map (fun p => (Value.string p.1, p.2))
 | [], R, _, he, _, _ => by cases he
 | a :: l, R, hn, he, hs, hR => by
  simp only [List.map_cons, List.nodup_cons] at hn
  obtain ⟨hn1, hn2⟩ := hn
  by_cases ha : a.born = e.born
  ·have hae : e = a := by
    rcases List.mem_cons.1 he with h | h
    ·exact h
    ·exact absurd (List.mem_map.2 ⟨e, h, ha.symm⟩) hn1
   subst hae
   have hs' : (!seen.contains e.born) = true := by rw [hs]; rfl
   rw [List.filter_cons_of_pos (by simpa using hs')] at hR
   match R, hR with
   | p :: R', hR =>
    simp only [List.map_cons, List.cons.injEq, Prod.mk.injEq] at hR
    refine ⟨p, R', hR.1.1, hR.1.2, List.Perm.refl _, ?_⟩
    rw [List.filter_cons_of_neg (by simp), ← hR.2]
    congr 1
    refine List.filter_congr fun x hx => ?_
    have hne : x.born ≠ e.born := fun h => hn1 (List.mem_map.2 ⟨x, hx, h⟩)
    simp [hne]
  ·have he' : e ∈ l := by
    rcases List.mem_cons.1 he with h | h
    ·exact absurd (by rw [h]) ha
    ·exact h
   by_cases hsa : seen.contains a.born = true
   ·rw [List.filter_cons_of_neg (by simpa using hsa)] at hR
    obtain ⟨p, R', h1, h2, h3, h4⟩ := left_out seen e l R hn2 he' hs hR
    refine ⟨p, R', h1, h2, h3, ?_⟩
    rw [List.filter_cons_of_neg (by simp at hsa ⊢; exact fun h => absurd hsa h), h4]
   ·have hsa' : seen.contains a.born = false := by simpa using hsa
    rw [List.filter_cons_of_pos (by simpa using hsa')] at hR
    match R, hR with
    | q :: R0, hR =>
     simp only [List.map_cons, List.cons.injEq] at hR
     obtain ⟨p, R', h1, h2, h3, h4⟩ := left_out seen e l R0 hn2 he' hs hR.2
     refine ⟨p, q :: R', h1, h2, (List.Perm.cons q h3).trans (List.Perm.swap p q R'), ?_⟩
     rw [List.filter_cons_of_pos (by simp at hsa' ⊢; exact ⟨hsa', ha⟩), List.map_cons, List.map_cons, h4, hR.1]
theorem RangeAt.next {P : Program} {w : World} {b r : Nat} {L rem : List (ByteArray × Value)} (h : RangeAt w b r L rem) (ty : TypeId) :
  (rem = [] ∧ (Instr.next (.pointer (some ⟨r, 0, none⟩)) false ty).run P w = .ok (.tuple #[.bool false]) w) ∨
  ∃ p rem' w', rem.Perm (p :: rem') ∧ (Instr.next (.pointer (some ⟨r, 0, none⟩)) false ty).run P w = .ok (.tuple #[.bool true, .string p.1, p.2]) w' ∧ RangeAt w' b r L rem' ∧
   w'.heap.size = w.heap.size ∧ w'.os = w.os ∧ w'.tape = w.tape ∧ w'.output = w.output ∧ (∀ j, j ≠ r → w'.heap[j]? = w.heap[j]?) ∧ (Instr.entry (.pointer (some ⟨r, 0, none⟩))).run P w' = .ok (.tuple #[.string p.1, p.2]) w' := by
 have hne := h.ne
 obtain ⟨es, clk, since, seen, c0, hb, he, hs, hr, hold, hsc, hsk, hl⟩ := h
 rcases run_next_at (P := P) w ty r b since c0 seen es clk hr hb hold hsc with ⟨h0, hrun⟩ | ⟨e, hem, w1, hal, hrun⟩
 ·refine Or.inl ⟨?_, hrun⟩
  have := congrArg List.length hl
  simp only [List.length_map, Array.length_toList, h0] at this
  exact List.length_eq_zero_iff.1 this.symm
 ·obtain ⟨hm1, hm2⟩ := mem_left hem
  have hl' : (es.toList.filter fun x => !seen.contains x.born).map (fun e => (e.key, e.val)) = rem.map (fun p => (Value.string p.1, p.2)) := by
   rw [← hl]; unfold leftOf; rw [Array.toList_filter]
  obtain ⟨p, rem', hk, hv, hperm, hrem⟩ := left_out seen e es.toList rem hs.2 hm1 hm2 hl'
  have hr1 : w1.heap[r]? = some (.mapIter (some b) since seen c0) := by rcases hal with rfl | rfl <;> exact hr
  have hb1 : w1.heap[b]? = some (.map es clk) := by rcases hal with rfl | rfl <;> exact hb
  have hset := MapKept.heap_set (o' := .mapIter (some b) since (seen.push e.born) clk) hr1
  have hb' : (setBlock w1 r (.mapIter (some b) since (seen.push e.born) clk)).heap[b]? = some (.map es clk) := (hset.2 b (fun e1 => hne e1.symm)).trans hb1
  rw [hk, hv] at hrun
  refine Or.inr ⟨p, rem', _, hperm, hrun, ⟨es, clk, since, seen.push e.born, clk, hb', he, hs, hset.1, hold, hsk, hsk, ?_⟩, ?_, ?_, ?_, ?_, ?_, ?_⟩
  ·rw [← hrem]; unfold leftOf; rw [Array.toList_filter]
  ·rcases hal with rfl | rfl <;> simp [setBlock]
  ·rcases hal with rfl | rfl <;> rfl
  ·rcases hal with rfl | rfl <;> rfl
  ·rcases hal with rfl | rfl <;> rfl
  ·intro j hj
   have := hset.2 j hj
   rcases hal with rfl | rfl <;> exact this
  ·have := run_entry_at (P := P) _ r b since seen es clk e hset.1 hb' hm1 hs.2
   rw [hk, hv] at this
   exact this
def delP : List (ByteArray × Value) → ByteArray → List (ByteArray × Value)
 | [], _ => []
 | p :: r, n => if p.1 = n then r else p :: delP r n
theorem findNow_del (n : ByteArray) (q : MapEntry → Bool) : ∀ (l : List MapEntry) (L : List (ByteArray × Value)) (i : Nat), l.map (fun e => (e.key, e.val)) = L.map (fun p => (Value.string p.1, p.2)) → (∀ e ∈ l, e.key = .string n → q e = false) →
  (mapGet L n = none → delP L n = L) ∧ (∀ v, mapGet L n = some v → ∃ j, Instr.findNow .string (.string n) l i = some (some (i + j, v)) ∧ j < l.length ∧ (l.eraseIdx j).map (fun e => (e.key, e.val)) = (delP L n).map (fun p => (Value.string p.1, p.2)) ∧ (l.eraseIdx j).filter q = l.filter q)
 | [], [], i, h, _ => ⟨fun _ => rfl, fun v hv => by simp [mapGet] at hv⟩
 | [], p :: L, i, h, _ => by simp at h
 | e :: l, [], i, h, _ => by simp at h
 | e :: l, p :: L, i, h, hq => by
  simp only [List.map_cons, List.cons.injEq, Prod.mk.injEq] at h
  obtain ⟨⟨hk, he⟩, ht⟩ := h
  obtain ⟨ih1, ih2⟩ := findNow_del n q l L (i + 1) ht fun e he => hq e (by simp [he])
  by_cases hn : p.1 = n
  ·have hs : Instr.sameNow .string (.string n) e.key = some true := by
    rw [hk, hn]
    show some (n == n) = some true
    rw [show (n == n) = true from (MapKept.bytes_beq _ _).2 rfl]
   refine ⟨fun h => by simp [mapGet, hn] at h, fun v hv => ?_⟩
   simp only [mapGet, hn, if_true, Option.some.injEq] at hv
   refine ⟨0, by simp [Instr.findNow, hs, he, hv], by simp, ?_, ?_⟩
   ·simp [delP, hn, ht]
   ·rw [List.eraseIdx_cons_zero, List.filter_cons_of_neg (by rw [hq e (by simp) (by rw [hk, hn])]; simp)]
  ·have hs : Instr.sameNow .string (.string n) e.key = some false := by
    rw [hk]
    show some (n == p.1) = some false
    have hb : (n == p.1) = false := by
     cases hh : (n == p.1) with
     | false => rfl
     | true => exact absurd ((MapKept.bytes_beq _ _).1 hh).symm hn
    rw [hb]
   refine ⟨fun h => ?_, fun v hv => ?_⟩
   ·rw [mapGet, if_neg hn] at h
    rw [delP, if_neg hn, ih1 h]
   ·rw [mapGet, if_neg hn] at hv
    obtain ⟨j, h1, h2, h3, h4⟩ := ih2 v hv
    refine ⟨j + 1, by simp [Instr.findNow, hs, h1]; omega, by simpa using h2, ?_, ?_⟩
    ·rw [delP, if_neg hn]; simp [h3, hk, he]
    ·rw [List.eraseIdx_cons_succ]
     cases hqe : q e with
     | true => rw [List.filter_cons_of_pos hqe, List.filter_cons_of_pos hqe, h4]
     | false => rw [List.filter_cons_of_neg (by simp [hqe]), List.filter_cons_of_neg (by simp [hqe]), h4]
theorem RangeAt.drop {P : Program} {w : World} {T kt et ty : TypeId} {b r : Nat} {L rem : List (ByteArray × Value)} (h : RangeAt w b r L rem) (hm : P.underlying T = some (.map kt et)) (hk : P.underlying kt = some .string) (n : ByteArray) (hr0 : ∀ p ∈ rem, p.1 ≠ n) (v : Value) (hv : mapGet L n = some v) :
  ∃ w', (Builtin.delete_ #[T, kt] ty #[.map (some b), .string n]).run P w = .ok (.tuple #[]) w' ∧ RangeAt w' b r (delP L n) rem ∧ w'.heap.size = w.heap.size ∧ w'.os = w.os ∧ w'.tape = w.tape ∧ w'.output = w.output ∧ (∀ j, j ≠ b → w'.heap[j]? = w.heap[j]?) := by
 have hne := h.ne
 obtain ⟨es, clk, since, seen, c0, hb, he, hs, hr, hold, hsc, hsk, hl⟩ := h
 have hl' : (es.toList.filter fun x => !seen.contains x.born).map (fun e => (e.key, e.val)) = rem.map (fun p => (Value.string p.1, p.2)) := by
  rw [← hl]; unfold leftOf; rw [Array.toList_filter]
 have hq : ∀ e ∈ es.toList, e.key = .string n → (!seen.contains e.born) = false := fun e hee hke => by
  cases hc : seen.contains e.born with
  | true => rfl
  | false =>
   obtain ⟨p, hp, h1, _⟩ := kv_inj hl' (List.mem_filter.2 ⟨hee, by rw [hc]; rfl⟩)
   rw [hke] at h1
   exact absurd (Value.string.inj h1).symm (hr0 p hp)
 obtain ⟨j, h1, h2, h3, h4⟩ := (findNow_del n (fun x => !seen.contains x.born) es.toList L 0 he hq).2 v hv
 rw [Nat.zero_add] at h1
 have hc : ∀ b, (Instr.checkKey b 10000 kt (.string n)).run P w = .ok () w := fun b => MapKept.run_checkKey (k := .string n) hk (by simp [MapKept.IsKey]) b 9999
 have hsub : (es.eraseIdxIfInBounds j).toList = es.toList.eraseIdx j := by
  unfold Array.eraseIdxIfInBounds
  rw [dif_pos (by simpa using h2)]
  simp
 have hmem : ∀ x ∈ (es.eraseIdxIfInBounds j).toList, x ∈ es.toList := fun x hx => by rw [hsub] at hx; exact (List.eraseIdx_sublist _ _).subset hx
 refine ⟨setBlock w b (.map (es.eraseIdxIfInBounds j) clk), ?_, ⟨es.eraseIdxIfInBounds j, clk, since, seen, c0, (MapKept.heap_set hb).1, by rw [hsub]; exact h3, ⟨fun x hx => hs.1 x (hmem x hx), ?_⟩, ((MapKept.heap_set hb).2 r hne).trans hr, fun x hx => hold x (hmem x hx), hsc, hsk, ?_⟩, by simp [setBlock], rfl, rfl, rfl, fun i hi => (MapKept.heap_set hb).2 i hi⟩
 ·simp [Builtin.delete_, run_underlying hm, MapKept.run_getObj_map hb, hc, MapKept.run_findKey hk h1, MapKept.run_setObj_map _ hb, Result.andThen, setBlock]
 ·rw [hsub]
  exact hs.2.sublist ((List.eraseIdx_sublist _ _).map _)
 ·unfold leftOf
  rw [Array.toList_filter, hsub, h4]
  exact hl'
def SortBinds : Prop := ∀ (cs : List Bc) (v : Value) (w : World) (N : Nat) (Y : Nat → Prop), BRow w N Y v cs → (∀ b, Y b → b < N) → cs.length < 4611686018427387904 →
 Calls Tryz.prog 54 #[v, .func (.func 55) #[] #[]] w fun e w' => e = .returned (.tuple #[]) ∧ ∃ cs' : List Bc, cs'.Perm cs ∧ (cs'.Pairwise fun x y => ltB y.1.nm x.1.nm = false) ∧ BRow w' N Y v cs' ∧ w.grownBy w' v.ownBlock
theorem Tryz.infoBind : (Tryz.prog.info? 82).map (fun i => (i.zero, i.size, i.bytes)) = some (some (.agg #[.string ByteArray.empty, .string ByteArray.empty, .slice none 0 0]), 3, 56) := by kernel_rfl
theorem cell_three_new (w : World) (c0 c1 c2 : Value) (T : Nat) : ∀ j u, [c0, c1, c2][j]? = some u → (w.alloc (.cells #[c0, c1, c2] T)).cell? ((⟨w.heap.size, 0, none⟩ : Addr).add j) = some u :=
 World.news_of_block (cs := #[c0, c1, c2]) (heap_alloc_new w _)
theorem binds_append {w w1 : World} {N : Nat} {Y : Nat → Prop} {v : Value} {cs : List Bc} (h : BRow w N Y v cs) (hN : N ≤ w.heap.size) (hY : ∀ b, Y b → b < N) (hb : Below w.heap.size w w1) (x : Bc) (ht : Sl w1 (fun b => Y b ∨ w.heap.size ≤ b) x.2.1 x.1.t.args) (hn : cs.length ≤ 1000000) (A : Nat) (hA : w1.heap.size = A) :
  ∃ v2 w3, (Builtin.append_ #[39, 39] 39 #[v, .slice (some ⟨A, 0, none⟩) 1 1]).run Tryz.prog (w1.alloc (.cells #[.string x.1.nm, .string x.1.t.name, .slice x.2.1 x.1.t.args.length x.2.2] 82)) = .ok v2 w3 ∧ BRow w3 N Y v2 (cs ++ [x]) ∧
   (w1.alloc (.cells #[.string x.1.nm, .string x.1.t.name, .slice x.2.1 x.1.t.args.length x.2.2] 82)).grownBy w3 v.ownBlock := by
 subst hA
 obtain ⟨i0, hi, hz0, hz1, hz2⟩ := info_parts Tryz.infoBind
 have hs := hb.size
 obtain ⟨g, cap, w3, hr, ho, hg, hat, hlt⟩ := run_append_lies (P := Tryz.prog) (w := w1.alloc (.cells #[.string x.1.nm, .string x.1.t.name, .slice x.2.1 x.1.t.args.length x.2.2] 82)) 39 39 N 82 i0 _ 3 56 Tryz.underlying39 hi hz0 hz1 hz2 rfl (by decide) v cs.length (flat3 cs) ((h.below hb).own.alloc _)
  ⟨w1.heap.size, 0, none⟩ 1 1 (enc3 x) rfl (cell_three_new _ _ _ _ _) (fun y hy => by simp [enc3] at hy; rcases hy with rfl | rfl | rfl <;> rfl) (by decide) (by unfold maxLen; omega) (by omega) (by simp; omega) _ rfl
 exact ⟨_, w3, hr, h.push hN hY hb ht _ rfl ho hg hat, hg⟩
def IoInv (w : World) (Z : List Bc) (b : Nat) (u : Value) (wr : World) : Prop :=
 ∃ Zr cs : List Bc, RangeAt wr b w.heap.size (Z.map toP) (Zr.map toP) ∧ (cs.map (·.1) ++ Zr.map (·.1)).Perm (Z.map (·.1)) ∧ (∀ x ∈ Zr, x ∈ Z) ∧ BRow wr (w.heap.size + 1) (fun _ => False) u cs ∧ Below w.heap.size w wr ∧ w.heap.size + 1 ≤ wr.heap.size
set_option maxHeartbeats 1000000 in
theorem inOrder_of (HSORT : Hid SortBinds) (Z : List Bc) (b : Nat) (w : World) (X : Nat → Prop) (hM : MapAt w b (Z.map toP)) (hZ : ∀ x ∈ Z, Sl w X x.2.1 x.1.t.args) (hsz : ∀ x ∈ Z, sizeL [x.1.t] ≤ 1000000) (hlen : Z.length ≤ 1000000) (hap : ApartB (Z.map (·.1))) :
  Calls Tryz.prog 30 #[.map (some b)] w fun e w' => ∃ v ls', e = .returned v ∧ BV w' (fun b => w.heap.size ≤ b) v ls' ∧ ls'.Perm (Z.map (·.1)) ∧ SortedB ls' ∧ Below w.heap.size w w' := by
 have hbl := hM.lt
 obtain ⟨o, hrange, hR0⟩ := hM.range (P := Tryz.prog) Tryz.underlying67
 have HR0 := hide hR0
 have HZ := hide hZ
 have HSZ := hide hsz
 have HAP := hide hap
 clear hR0 hZ hsz hap hM
 go_enter Tryz.func30, Tryz.ntmps30
 go_wp2_with fail
 go_loopw [3] (fun u wr => IoInv w Z b u wr) (fun u wr => leftAt wr b w.heap.size)
 case atStart =>
  exact ⟨Z, [], HR0.out, by simp, fun _ h => h, BRow.start _ _ _, (Below.refl _ _).alloc (Nat.le_refl _) _, by simp⟩
 case round =>
  obtain ⟨Zr, cs, hR, hP, hsub, hB, hb, hz⟩ := hrel
  have HB := hide hb
  have HR := hide hR
  have HP := hide hP
  have HBR := hide hB
  clear hP hB
  rcases hR.next (P := Tryz.prog) 0 with ⟨he, hnx⟩ | ⟨p, rem', w1, hpm, hnx, hR1, hz1, ho1, ht1, hu1, hk1, hen⟩
  ·have hZr : Zr = [] := by simpa using he
   subst hZr
   have HBV := hide (show cs.length < 4611686018427387904 by have := HP.out.length_eq; simp at this; omega)
   clear hR hb he
   go_wp2_with fail
   refine (HSORT.out cs u3 wr (w.heap.size + 1) (fun _ => False) HBR.out (fun _ h => h.elim) HBV.out).mono ?_
   rintro e w2 ⟨rfl, cs', hp2, hs2, hr2, hg2⟩
   have HR2 := hide hr2
   have HP2 : Hid ((cs'.map (·.1)).Perm (Z.map (·.1))) := (hp2.map _).trans (by simpa using HP.out)
   have HS2 : Hid (SortedB (cs'.map (·.1))) := sortedB_of (HAP.out.perm HP2.out) (List.pairwise_map.2 hs2)
   have HB2 : Hid (Below w.heap.size w w2) := HB.out.grown hg2 HB.out.size (fun j hj => by have := (HBR.out.own.lt j hj).1; omega)
   clear hr2 hp2 hs2 hg2
   go_wp2_with fail
   go_ret
   exact ⟨u3, _, rfl, HR2.out.bv.mono (fun b hb _ => by rcases hb with h | h; exact h.elim; omega), HP2.out, HS2.out, HB2.out⟩
  ·obtain ⟨x, Z', hpx, rfl, rfl⟩ := next_lift hpm
   simp only [toP] at hnx hen
   have hxZ : x ∈ Z := hsub x (hpx.symm.subset (by simp))
   have HB1 : Hid (Below w.heap.size w w1) := ⟨ho1.trans hb.os, ht1.trans hb.tape, hu1.trans hb.output, by rw [hz1]; exact hb.size, fun j hj => (hk1 j (by omega)).trans (hb.block j hj)⟩
   have HBR1 := hide (HBR.out.kept (r := w.heap.size) (w' := w1) (by omega) (fun h => h) ho1 ht1 hu1 (by omega) (fun j hj _ => hk1 j hj))
   have HZ1 : Hid (w.heap.size + 1 ≤ w1.heap.size) := by unfold Hid; omega
   have HR1 := hide hR1
   have HX := hide (HZ.out x hxZ)
   have HXS := hide (HSZ.out x hxZ)
   have HP1 : Hid ((cs.map (·.1) ++ [x.1] ++ Z'.map (·.1)).Perm (Z.map (·.1))) := by
    have h1 : (Zr.map (·.1)).Perm (x.1 :: Z'.map (·.1)) := by simpa using hpx.map (·.1)
    have h2 := (h1.append_left (cs.map (·.1))).symm.trans HP.out
    unfold Hid
    simpa using h2
   have HSUB : Hid (∀ y ∈ Z', y ∈ Z) := fun y hy => hsub y (hpx.symm.subset (by simp [hy]))
   have HLEN : Hid (cs.length ≤ 1000000) := by have := HP.out.length_eq; simp at this; unfold Hid; omega
   have HMS : Hid (Z'.length < Zr.length) := by have := hpx.length_eq; simp at this; unfold Hid; omega
   clear hR hb hz1 ho1 ht1 hu1 hk1 hR1 hpm hpx hsub hxZ
   go_wp2_with fail
   have HB2 := hide (HB1.out.alloc HB1.out.size (.cells #[.string x.1.t.name, .slice x.2.1 x.1.t.args.length x.2.2] 26))
   have HBR2 := hide (HBR1.out.below ((Below.refl _ _).alloc (Nat.le_refl _) (.cells #[.string x.1.t.name, .slice x.2.1 x.1.t.args.length x.2.2] 26)))
   have HR2 := hide (HR1.out.below ((Below.refl _ _).alloc (Nat.le_refl _) (.cells #[.string x.1.t.name, .slice x.2.1 x.1.t.args.length x.2.2] 26)) (by have := HZ1.out; omega) HR1.out.lt)
   have HZ2 : Hid (w.heap.size + 1 ≤ (w1.alloc (.cells #[.string x.1.t.name, .slice x.2.1 x.1.t.args.length x.2.2] 26)).heap.size) := by have := HZ1.out; unfold Hid; simp; omega
   clear hnx hen
   generalize w1.alloc (.cells #[.string x.1.t.name, .slice x.2.1 x.1.t.args.length x.2.2] 26) = w2 at *
   refine (copyOf_any x.1.t _ w2 X ⟨_, _, rfl, HX.out.later HB2.out⟩ HXS.out).mono ?_
   rintro e w3 ⟨v3, rfl, ⟨a3, c3, rfl, hs3⟩, hb3⟩
   have hz3 := hb3.size
   obtain ⟨v4, w4, hrun, hB4, hg4⟩ := binds_append HBR2.out HZ2.out (fun _ h => h.elim) hb3 (x.1, a3, c3) (hs3.mono fun b h _ => Or.inr h) HLEN.out w3.heap.size rfl
   have HRUN := hide hrun
   have HB4 := hide hB4
   have hlt := HBR2.out.own.lt
   have HBB : Hid (Below w.heap.size w w4) := ((HB2.out.trans (hb3.mono HB2.out.size)).alloc (by have := HZ2.out; omega) _).grown hg4 (by have := HZ2.out; simp; omega) (fun j hj => by have := (hlt j hj).1; omega)
   have HR4 : Hid (RangeAt w4 b w.heap.size (Z.map toP) (Z'.map toP)) := by
    have hz2 := HZ2.out
    refine HR2.out.kept ?_ ?_
    ·rw [hg4.block b (by simp; omega) (HBR2.out.ne (by omega)), Below.heap_alloc _ _ _ (by omega), hb3.block b (by omega)]
    ·rw [hg4.block w.heap.size (by simp; omega) (HBR2.out.ne (by omega)), Below.heap_alloc _ _ _ (by omega), hb3.block w.heap.size (by omega)]
   have HZ4 : Hid (w.heap.size + 1 ≤ w4.heap.size) := by have := hg4.size; have := HZ2.out; simp at *; unfold Hid; omega
   clear hs3 hb3 hrun hB4 hg4 hlt hz3
   go_wp2_with (at_builtin; refine wpList_append_eq rfl _ _ _ _ rfl rfl rfl HRUN.out ?_)
   go_roundw
   case rel => exact ⟨Z', _, HR4.out, by simpa using HP1.out, HSUB.out, HB4.out, HBB.out, HZ4.out⟩
   case measure =>
    rw [HR4.out.left, HR.out.left]
    have := HMS.out
    simpa using this
def SortedKeys : Prop := ∀ (q : Nat) (L : List (ByteArray × Value)) (w : World), MapAt w q L → (L.map (·.1)).Pairwise (· ≠ ·) → (∀ p ∈ L, p.1.size ≤ 8) → L.length ≤ 1000000 →
 (Calls Tryz.prog 112 #[.map (some q)] w fun e w' => e = .returned (.func (.func 127) #[] #[.pointer (some ⟨w.heap.size, 0, none⟩)]) ∧ w' = w.alloc (.cells #[.map (some q)] 121)) ∧
 (Calls Tryz.prog 111 #[.func (.func 127) #[] #[.pointer (some ⟨w.heap.size, 0, none⟩)]] (w.alloc (.cells #[.map (some q)] 121)) fun e w' => ∃ (v : Value) (nl : List ByteArray), e = .returned v ∧ nl.Perm (L.map (·.1)) ∧ (nl.Pairwise fun a b => ltB b a = false) ∧ LV Value.string w' (fun b => w.heap.size + 1 ≤ b) v nl ∧ Below (w.heap.size + 1) (w.alloc (.cells #[.map (some q)] 121)) w')
theorem field0_run (a b c : Value) (w : World) : Sem.run Tryz.prog (Instr.field 167 (.agg #[a, b, c]) 0) w = .ok (.agg #[a, b]) w := by
 rfl
theorem binds_append6 {w w1 : World} {N : Nat} {Y : Nat → Prop} {v : Value} {cs : List Bc} (h : BRow w N Y v cs) (hN : N ≤ w.heap.size) (hY : ∀ b, Y b → b < N) (hb : Below w.heap.size w w1) (x : Bc) (ht : Sl w1 (fun b => Y b ∨ w.heap.size ≤ b) x.2.1 x.1.t.args) (hn : cs.length ≤ 1000000) (A : Nat) (hA : w1.heap.size = A) :
  ∃ v2 w3, (Builtin.append_ #[39, 39] 39 #[v, .slice (some ⟨A, 0, none⟩) 1 1]).run Tryz.prog (w1.alloc (.cells #[.string x.1.nm, .string x.1.t.name, .slice x.2.1 x.1.t.args.length x.2.2] 82)) = .ok v2 w3 ∧ BRow w3 N Y v2 (cs ++ [x]) ∧
   (w1.alloc (.cells #[.string x.1.nm, .string x.1.t.name, .slice x.2.1 x.1.t.args.length x.2.2] 82)).grownBy w3 v.ownBlock ∧ ∀ k, v2.ownBlock = some k → v.ownBlock = some k ∨ w1.heap.size ≤ k := by
 subst hA
 obtain ⟨i0, hi, hz0, hz1, hz2⟩ := info_parts Tryz.infoBind
 have hs := hb.size
 obtain ⟨g, cap, w3, hr, ho, hg, hat, hlt⟩ := run_append_lies (P := Tryz.prog) (w := w1.alloc (.cells #[.string x.1.nm, .string x.1.t.name, .slice x.2.1 x.1.t.args.length x.2.2] 82)) 39 39 N 82 i0 _ 3 56 Tryz.underlying39 hi hz0 hz1 hz2 rfl (by decide) v cs.length (flat3 cs) ((h.below hb).own.alloc _)
  ⟨w1.heap.size, 0, none⟩ 1 1 (enc3 x) rfl (cell_three_new _ _ _ _ _) (fun y hy => by simp [enc3] at hy; rcases hy with rfl | rfl | rfl <;> rfl) (by decide) (by unfold maxLen; omega) (by omega) (by simp; omega) _ rfl
 refine ⟨_, w3, hr, h.push hN hY hb ht _ rfl ho hg hat, hg, fun k hk => ?_⟩
 have e : g = k := by simpa [Value.ownBlock] using hk
 rcases hat with h1 | h1
 ·exact Or.inl (by rw [h1, e])
 ·right; simp at h1; omega
def valN (s : List Bd) (n : ByteArray) : Bd := ⟨n, (forT s n).getD ⟨n, []⟩⟩
def IuInv (S q : Nat) (td : Value) (h : List (ByteArray × Tm)) (nl : List ByteArray) (Y : Nat → Prop) (w2 : World) (u i : Value) (wr : World) : Prop :=
 ∃ (k : Nat) (f' : Bool) (Y' : Nat → Prop) (cs : List Bc), k ≤ nl.length ∧ i = .int .i64 (k : Int) ∧ BRow wr w2.heap.size (fun _ => False) u cs ∧ cs.map (·.1) = (nl.take k).map (valN (sAt h)) ∧ (∀ x ∈ cs, sizeL [x.1.t] ≤ 2000) ∧ SolE S q td h f' Y' wr ∧ (∀ b, Y' b → Y b ∨ w2.heap.size ≤ b) ∧ (∀ b, Y' b → some b ≠ u.ownBlock) ∧ ExQ (SolM S q) w2 wr
def IuPost (h : List (ByteArray × Tm)) (S q : Nat) (w : World) (e : Ending) (w' : World) : Prop :=
 ExQ (SolM S q) w w' ∧ ((grtB (sAt h) = true ∧ e = .returned (.tuple #[.slice none 0 0, .bool false])) ∨ (grtB (sAt h) = false ∧ ∃ v, e = .returned (.tuple #[v, .bool true]) ∧ BV w' (fun b => w.heap.size ≤ b) v (sAt h)))
theorem sAt_sorted : ∀ {h : List (ByteArray × Tm)}, GoodH h → SortedB (sAt h) := fun {h} g => by
 rcases List.eq_nil_or_concat h with rfl | ⟨k, p, rfl⟩
 ·simp [sAt, SortedB]
 ·rw [List.concat_eq_append] at g ⊢
  rw [sAt_snoc]
  have hk : k.length < (k ++ [p]).length := by simp
  have m := g k.length hk
  rw [List.take_append_of_le_length (Nat.le_refl _), List.take_length] at m
  have gk := g.ok k.length (by simp)
  rw [List.take_append_of_le_length (Nat.le_refl _), List.take_length] at gk
  have m2 : ∀ d ∈ sAt k, d.nm ≠ p.1 := fun d hd => by
   have := m.2.1 d hd
   simpa using this
  exact srtB_sorted _ (add_apart gk.1 m2)
theorem vals_all {h : List (ByteArray × Tm)} (g : GoodH h) {nl : List ByteArray} (hp : nl.Perm (h.map (·.1))) (ho : nl.Pairwise fun a b => ltB b a = false) : nl.map (valN (sAt h)) = sAt h := by
 have ok := g.all
 have hnd : (h.map (·.1)).Nodup := by
  rw [List.nodup_iff_pairwise_ne, List.pairwise_map, List.pairwise_iff_getElem]
  intro i j hi hj hij e
  have := g.once hi hj e
  omega
 have hnl : nl.Nodup := hp.symm.nodup hnd
 have hperm : (nl.map (valN (sAt h))).Perm (sAt h) := by
  have h1 : ((h.map (·.1)).map (valN (sAt h))).Perm (sAt h) := by
   refine (List.perm_ext_iff_of_nodup ?_ ?_).2 fun d => ?_
   ·rw [List.nodup_iff_pairwise_ne, List.pairwise_map]
    refine (List.nodup_iff_pairwise_ne.1 hnd).imp fun {a b} hab e => hab ?_
    have := congrArg Bd.nm e
    exact this
   ·exact (List.Pairwise.imp (fun {a b} hab e => hab (by rw [e])) ok.1 : (sAt h).Pairwise (· ≠ ·))
   ·constructor
    ·intro hd
     obtain ⟨n, hn, rfl⟩ := List.mem_map.1 hd
     obtain ⟨p, hp2, rfl⟩ := List.mem_map.1 hn
     obtain ⟨i, hi, rfl⟩ := List.getElem_of_mem hp2
     obtain ⟨d, hd2, e1, e2⟩ := forT_mem (forT_at g hi)
     have : valN (sAt h) h[i].1 = d := by
      unfold valN
      rw [forT_at g hi, Option.getD_some, ← e2, ← e1]
     rw [this]; exact hd2
    ·intro hd
     have h2 := (g.bound h.length (Nat.le_refl _) d.nm).1 ⟨d, by rw [List.take_length]; exact hd, rfl⟩
     obtain ⟨i, hi, _, e⟩ := h2
     refine List.mem_map.2 ⟨d.nm, List.mem_map.2 ⟨h[i], List.getElem_mem hi, e⟩, ?_⟩
     unfold valN
     rw [forT_of ok.1 hd, Option.getD_some]
  exact (hp.map _).trans h1
 refine sortedB_unique hperm (sortedB_of (ok.1.perm hperm) ?_) (sAt_sorted g)
 rw [List.pairwise_map]
 exact ho
set_option maxHeartbeats 2000000 in
theorem inOrderU_of (HSK : Hid SortedKeys) (S q : Nat) (td : Value) (h : List (ByteArray × Tm)) (g : GoodH h) (hN : NamesH h) (hh : h.length ≤ 1000000) (w : World) (Y : Nat → Prop) (f : Bool) (hE : SolE S q td h f Y w) :
  Calls Tryz.prog 79 #[.pointer (some ⟨S, 0, none⟩)] w fun e w' => IuPost h S q w e w' := by
 have HE := hide hE
 obtain ⟨⟨L, hB, hM, hSt⟩, hYS, hYq, hY, hg⟩ := hE
 have hSl := hB.lt
 have hml := hM.lt
 have hln := hSt.1
 have HY := hide hY
 have HLN : Hid (L.map (·.1) = h.map (·.1)) := by
  refine List.ext_getElem (by simp [hln]) fun i h1 h2 => ?_
  simp only [List.getElem_map]
  exact (hSt.2 i (by simpa using h2) (by simpa using h1)).1
 have SK := HSK.out q L w hM (by
   rw [HLN.out, List.pairwise_map, List.pairwise_iff_getElem]
   intro i j hi hj hij e
   have := g.once hi hj e
   omega) (fun p hp => by
   obtain ⟨i, hi, rfl⟩ := List.getElem_of_mem hp
   rw [(hSt.2 i (by omega) hi).1]
   have h1 := hN i (by omega)
   simp [nameB] at h1
   omega) (by omega)
 rw [HLN.out] at SK
 have s1 : w.cell? ⟨S, 1, none⟩ = some (.map (some q)) := hB.cell 1
 clear hB hM hSt hg hY
 go_enter Tryz.func79, Tryz.ntmps79
 go_wp2_with (first
  | (go_at_call 112; refine SK.1.mono ?_; rintro e w1 ⟨rfl, rfl⟩)
  | (go_at_call 111; refine SK.2.mono ?_; rintro e w2 ⟨v2, nl, rfl, hp2, ho2, hl2, hb2⟩; have HL2 := hide hl2; obtain ⟨na, nc, rfl, hnl, hnc⟩ := hl2; clear hnc))
 have HP := hide hp2
 have HO := hide ho2
 have HB2 : Hid (Below w.heap.size w w2) := ((Below.refl _ _).alloc (Nat.le_refl _) _).trans (hb2.mono (by omega))
 have hz2 : w.heap.size + 1 ≤ w2.heap.size := by have := hb2.size; simp at this; omega
 have HE2 := hide ((solE_ok S q td h).below HE.out HB2.out)
 have hnlen : nl.length ≤ 1000000 := by have := hp2.length_eq; simp at this; omega
 obtain ⟨hnl1, hnl2⟩ := hnl
 clear hp2 ho2 hb2 SK s1
 go_wp2_with fail
 go_loopw [4, 16] (fun u i wr => IuInv S q td h nl Y w2 u i wr) (fun u i wr => nl.length - (intOf i).toNat)
 case atStart => exact ⟨0, f, Y, [], Nat.zero_le _, rfl, BRow.start _ _ _, by simp, by simp, HE2.out, fun b hb => Or.inl hb, fun b _ e => by simp [Value.ownBlock] at e, ExQ.refl _ _⟩
 case round =>
  obtain ⟨k, f', Y', cs, hk, rfl, hR, hC, hZ, hE', hsub, hown, hx⟩ := hrel
  have HR := hide hR
  have HC := hide hC
  have HZ := hide hZ
  have HE' := hide hE'
  have HSUB := hide hsub
  have HOWN := hide hown
  have HX := hide hx
  have hzr := hx.size
  clear hR hC hZ hsub hown hx
  by_cases hlt : k < nl.length
  ·have hlt2 : (k : Int) < (nl.length : Int) := by omega
   have hLr : LV Value.string wr (fun b => w.heap.size + 1 ≤ b ∧ b < w2.heap.size) (.slice na nl.length nc) nl := (HL2.out.mono (Y := fun b => w.heap.size + 1 ≤ b ∧ b < w2.heap.size) fun b h1 h2 => ⟨h1, h2⟩).kept fun b hb => HX.out.block b hb.2 (fun hm => by rcases hm with e | e <;> omega)
   obtain ⟨na', nc', e0, _, hcell⟩ := hLr
   obtain ⟨bn, on, rfl, hbn, hcell⟩ := hcell.resolve_left (fun e => by rw [e] at hlt; simp at hlt)
   simp at e0
   obtain ⟨rfl, rfl⟩ := e0
   have nk := hcell k hlt
   obtain ⟨i, hi, hik⟩ : ∃ i, ∃ hi : i < h.length, h[i].1 = nl[k] := by
    have h1 := HP.out.subset (List.getElem_mem hlt)
    obtain ⟨p, hp, e⟩ := List.mem_map.1 h1
    obtain ⟨i, hi, rfl⟩ := List.getElem_of_mem hp
    exact ⟨i, hi, e⟩
   have htk : nl.take (k + 1) = nl.take k ++ [nl[k]] := List.take_succ_eq_append_getElem hlt
   have HTK := hide htk
   obtain ⟨⟨L', hB', hM', hSt'⟩, hYS', hYq', hY', hg'⟩ := hE'
   obtain ⟨v, hgv, hst⟩ := hSt'.get g hi
   obtain ⟨T, j, ta, tc, hT, hj, rfl, hsl⟩ := stE_lit hst
   have HSL := hide hsl
   have HT := hide hT
   have HYr := hide hY'
   have hz : ∀ w', (zeroValue 167).run Tryz.prog w' = .ok (.agg #[.string ⟨#[]⟩, .slice none 0 0, .int .i64 0]) w' := fun w' => Tryz.zeroValue167 w'
   have HIK := hide hik
   rw [hik] at hgv
   have HVN : Hid (valN (sAt h) nl[k] = ⟨nl[k], stood h i h.length hi⟩) := by
    unfold Hid valN
    rw [← hik, forT_at g hi, Option.getD_some]
   generalize nl[k] = nm at *
   have hlk : (Instr.lookup 121 (.map (some q)) (.string nm) false).run Tryz.prog wr = .ok (.agg #[.string T.name, .slice ta T.args.length tc, .int .i64 (j : Int)]) wr := by
    rw [run_look1 (P := Tryz.prog) Tryz.underlying121 Tryz.underlying9 (hz _) hM' nm, hgv]; rfl
   have hfd : Sem.run Tryz.prog (Instr.field 167 (.agg #[.string T.name, .slice ta T.args.length tc, .int .i64 (j : Int)]) 0) wr = .ok (.agg #[.string T.name, .slice ta T.args.length tc]) wr := field0_run _ _ _ _
   have s1 : wr.cell? ⟨S, 1, none⟩ = some (.map (some q)) := hB'.cell 1
   have HTG : Hid (onT (sAt h) T = stood h i h.length hi) := by
    unfold Hid
    rw [HT.out]
    exact stood_on g hi (Nat.max_le.2 ⟨hj, hi⟩) (hN i hi)
   have HTE : Hid (errL [T] = 0) := by
    unfold Hid
    rw [HT.out]
    exact stood_err g hN hi (Nat.max_le.2 ⟨hj, hi⟩)
   have FI := ufill_any S q td h g hN T HTE.out ta tc wr (fun b => Y' b ∧ b ≠ S ∧ b ≠ q) Y' f' (fun b hb hm => by rcases hm with e | e; exact hb.2.1 e; exact hb.2.2 e) HSL.out HE'.out
   rw [HTG.out] at FI
   have HCL : Hid (cs.length ≤ 1000000) := by
    have h1 := congrArg List.length HC.out
    simp at h1
    unfold Hid
    omega
   clear hB' hM' hSt' hYS' hYq' hY' hg' hgv hst hsl hT htk hcell hik HT
   go_wp2_with fail
   refine FI.mono ?_
   clear FI
   rintro e w4 ⟨y, ya, yc, ok, f2, Y2, rfl, hE4, hsub4, hff4, hx4, hsl4, hk1, hk2⟩
   have HE4 := hide hE4
   have HX4 : Hid (ExQ (SolM S q) w2 w4) := HX.out.trans hx4
   have HXX4 := hide hx4
   have HSL4 := hide hsl4
   have HS4 := hide hsub4
   have HK1 := hide hk1
   have HK2 := hide hk2
   have hz4 := hx4.size
   clear hE4 hsub4 hff4 hx4 hsl4 hk1 hk2 hlk s1 nk
   cases ok with
   | false =>
    have HGR : Hid (grtB (sAt h) = true) := by
     rcases HK2.out rfl with h1 | h1
     ·exact HE4.out.2.2.2.2 h1
     ·exact stood_great g hi h1
    clear HK1 HK2
    go_wp2_with fail
    refine bodyPost_ret (v := .tuple #[.slice none 0 0, .bool false]) (by simp [results, Tryz.results79, go_sem]) rfl ?_
    exact ⟨((ExQ.ofBelow HB2.out).trans HX4.out).alloc _, Or.inl ⟨HGR.out, rfl⟩⟩
   | true =>
    obtain ⟨rfl, hyT, hyz⟩ := HK1.out rfl
    have HYT := hide hyT
    have HYZ := hide hyz
    clear hyT hyz HK1 HK2
    obtain ⟨wm, hbm, hsm, hem⟩ := HXX4.out.mid
    have hRm := HR.out.exq hem (fun b hb => by rcases hb with rfl | rfl <;> omega) (fun _ _ h => h)
    have hz5 : (w4.alloc (.cells #[.string y.name, .slice ya y.args.length yc] 26)).heap.size = w4.heap.size + 1 := by simp
    have hb5 : Below wm.heap.size wm (w4.alloc (.cells #[.string y.name, .slice ya y.args.length yc] 26)) := hbm.alloc (by omega) _
    obtain ⟨v6, w6, hrun, hR6, hg6, ho6⟩ := binds_append6 hRm (by omega) (fun _ h => h.elim) hb5 (⟨nm, y⟩, ya, yc) ((HSL4.out.later ((Below.refl _ _).alloc (Nat.le_refl _) _)).mono fun b hb _ => Or.inr (by omega)) HCL.out (w4.heap.size + 1) hz5
    have HRUN := hide hrun
    have HR6 := hide hR6
    have hgs := hg6.size
    simp at hgs
    have HX6 : Hid (ExQ (SolM S q) w2 w6) := ((HX4.out.alloc _).alloc _).grown hg6 (fun b hb => Or.inl (HR.out.own.lt b hb).1)
    have HS6 : Hid (∀ b, Y2 b → Y b ∨ w2.heap.size ≤ b) := fun b hb => by
     rcases HS4.out b hb with h1 | h1
     ·exact HSUB.out b h1
     ·right; omega
    have HO4 : Hid (∀ b, Y2 b → some b ≠ u4.ownBlock) := fun b hb e => by
     rcases HS4.out b hb with h1 | h1
     ·exact HOWN.out b h1 e
     ·have := (HR.out.own.lt b e.symm).2; omega
    have HY4 : Hid (∀ b, Y2 b → b < w4.heap.size) := HE4.out.2.2.2.1
    have HE6 : Hid (SolE S q td h false Y2 w6) := (solE_ok S q td h).keep _ _ _ _ HE4.out fun b hb => by
     have h1 := HY4.out b hb
     rw [hg6.block b (by simp; omega) (HO4.out b hb), Below.heap_alloc _ _ _ (by simp; omega), Below.heap_alloc _ _ _ h1]
    have HO6 : Hid (∀ b, Y2 b → some b ≠ v6.ownBlock) := fun b hb e => by
     rcases ho6 b e.symm with h1 | h1
     ·exact HO4.out b hb h1.symm
     ·have := HY4.out b hb; omega
    clear hbm hem hRm hb5 hrun hR6 hg6 ho6 hgs
    go_wp2_with (at_builtin; refine wpList_append_eq rfl _ _ _ _ rfl rfl rfl HRUN.out ?_)
    go_roundw
    case rel =>
     refine ⟨k + 1, false, Y2, cs ++ [(⟨nm, y⟩, ya, yc)], by omega, by go_num, HR6.out, ?_, fun x hx => ?_, HE6.out, HS6.out, HO6.out, HX6.out⟩
     ·rw [HTK.out, List.map_append, List.map_append, HC.out]
      simp only [List.map_cons, List.map_nil]
      rw [HVN.out, HYT.out]
     ·rcases List.mem_append.1 hx with hx | hx
      ·exact HZ.out x hx
      ·have e : x = (⟨nm, y⟩, ya, yc) := by simpa using hx
       rw [e]; exact HYZ.out
    case measure => simp [intOf]; omega
  ·have htk : nl.take k = nl := List.take_of_length_le (by omega)
   rw [htk] at HC
   have HVA := hide (vals_all g HP.out HO.out)
   have HGF : Hid (grtB (sAt h) = false) := by
    unfold Hid
    rw [← HVA.out, ← HC.out]
    unfold grtB
    rw [List.any_eq_false]
    intro d hd
    obtain ⟨x, hx, rfl⟩ := List.mem_map.1 hd
    have := HZ.out x hx
    simp; omega
   clear hE' htk
   go_wp2_with fail
   refine bodyPost_ret (v := .tuple #[u4, .bool true]) (by simp [results, Tryz.results79, go_sem]) rfl ?_
   refine ⟨(ExQ.ofBelow HB2.out).trans HX.out, Or.inr ⟨HGF.out, u4, rfl, ?_⟩⟩
   have h1 := HR.out.bv
   rw [HC.out, HVA.out] at h1
   exact h1.mono fun b hb _ => by rcases hb with hb | hb; exact hb.elim; omega
theorem occB_take {p : ByteArray} {l : List Tm} {k : Nat} (h : k < l.length) : occB p (l.take (k + 1)) = (occB p (l.take k) || occB p [l[k]]) := by
 unfold occB
 rw [preL_take l k h, List.any_append]
theorem occB_yes {p : ByteArray} {l : List Tm} {k : Nat} (h : k < l.length) (h0 : occB p [l[k]] = true) : occB p l = true := by
 have e : l = l.take (k + 1) ++ l.drop (k + 1) := (List.take_append_drop _ _).symm
 have h1 := occB_take (p := p) h
 rw [h0, Bool.or_true] at h1
 unfold occB at h1 ⊢
 rw [e, preL_append, List.any_append, h1]
 rfl
theorem occB_eq (s : ByteArray) (l : List Tm) (p : ByteArray) : occB p [⟨s, l⟩] = ((s.toList == p.toList) || occB p l) := by
 unfold occB
 simp [preL]
def IhInv (p : ByteArray) (l : List Tm) (w : World) (v : Value) (wr : World) : Prop := ∃ k : Nat, k ≤ l.length ∧ v = .int .i64 (k : Int) ∧ occB p (l.take k) = false ∧ Below w.heap.size w wr
set_option maxHeartbeats 400000 in
theorem indexFuncH_of (P : Nat) (p : ByteArray) (l : List Tm) (a : Option Addr) (c : Nat) (w : World) (X : Nat → Prop) (hs : Sl w X a l)
  (hcl : ∀ x ∈ l, ∀ a' c' w', Below w.heap.size w w' → Sl w' X a' x.args → Calls Tryz.prog 133 #[.agg #[.string x.name, .slice a' x.args.length c'], .pointer (some ⟨P, 0, none⟩)] w' fun e w'' => e = .returned (.bool (occB p [x])) ∧ Below w'.heap.size w' w'') :
  Calls Tryz.prog 137 #[.slice a l.length c, .func (.func 133) #[] #[.pointer (some ⟨P, 0, none⟩)]] w fun e w' => (∃ i : Int, e = .returned (.int .i64 i) ∧ decide (0 ≤ i) = occB p l) ∧ Below w.heap.size w w' := by
 have HS := hide hs
 have HCL := hide hcl
 have hl := hs.1
 clear hs hcl
 go_enter Tryz.func137, Tryz.ntmps137
 go_wp2_with fail
 go_loopw [8] (fun v wr => IhInv p l w v wr) (fun v wr => l.length - (intOf v).toNat)
 case atStart => exact ⟨0, Nat.zero_le _, rfl, by simp [occB, preL], Below.refl _ _⟩
 case round =>
  obtain ⟨k, hk, rfl, hT, hb⟩ := hrel
  have HT := hide hT
  have HB := hide hb
  clear hT
  by_cases hlt : k < l.length
  ·have hlt2 : (k : Int) < (l.length : Int) := by omega
   obtain ⟨b, o, a', c', rfl, d0, d1, hx⟩ := HS.out.get hb (fun _ _ h => h) k hlt
   obtain ⟨av, cv, ev, hsx⟩ := hx
   simp at ev
   obtain ⟨rfl, rfl⟩ := ev
   have CK := hide (HCL.out l[k] (List.getElem_mem hlt) a' c' wr hb hsx)
   have HTK := hide (occB_take (p := p) hlt)
   have HYS := hide (occB_yes (p := p) hlt)
   clear hsx hb
   generalize l[k] = y at *
   go_wp2_with fail
   refine CK.out.mono ?_
   rintro e w1 ⟨rfl, hb1⟩
   have HB1 := hide (HB.out.trans (hb1.mono HB.out.size))
   clear hb1
   cases hm : occB p [y] with
   | true =>
    have HF := hide (HYS.out hm)
    go_wp2_with fail
    go_ret
    exact ⟨⟨_, rfl, by rw [HF.out]; simp⟩, HB1.out⟩
   | false =>
    rw [hm] at HTK
    go_wp2_with fail
    go_roundw
    case rel => exact ⟨k + 1, by omega, by go_num, by rw [HTK.out, HT.out]; rfl, HB1.out⟩
    case measure => simp [intOf]; omega
  ·have HF : Hid (false = occB p l) := by
    unfold Hid
    rw [← HT.out, List.take_of_length_le (by omega)]
   go_wp2_with fail
   go_ret
   exact ⟨⟨-1, rfl, by rw [← HF.out]; decide⟩, HB.out⟩
set_option maxHeartbeats 400000 in
theorem containsFuncH_of (P : Nat) (p : ByteArray) (l : List Tm) (a : Option Addr) (c : Nat) (w : World) (X : Nat → Prop) (hs : Sl w X a l)
  (hcl : ∀ x ∈ l, ∀ a' c' w', Below w.heap.size w w' → Sl w' X a' x.args → Calls Tryz.prog 133 #[.agg #[.string x.name, .slice a' x.args.length c'], .pointer (some ⟨P, 0, none⟩)] w' fun e w'' => e = .returned (.bool (occB p [x])) ∧ Below w'.heap.size w' w'') :
  Calls Tryz.prog 132 #[.slice a l.length c, .func (.func 133) #[] #[.pointer (some ⟨P, 0, none⟩)]] w fun e w' => e = .returned (.bool (occB p l)) ∧ Below w.heap.size w w' := by
 have IC := hide (indexFuncH_of P p l a c w X hs hcl)
 clear hs hcl
 go_enter Tryz.func132, Tryz.ntmps132
 go_wp2_with fail
 refine IC.out.mono ?_
 rintro e w1 ⟨⟨i, rfl, hi⟩, hb1⟩
 have HI := hide hi
 have HB1 := hide hb1
 clear hi hb1
 go_wp2_with fail
 go_ret
 exact ⟨ret_bool (by rw [← HI.out]), HB1.out⟩
set_option maxHeartbeats 400000 in
theorem holds_any (n : ByteArray) (t : Tm) : ∀ (tv : Value) (w : World) (X : Nat → Prop), TV w X tv t →
  Calls Tryz.prog 124 #[tv, .string n] w fun e w' => e = .returned (.bool (occB n [t])) ∧ Below w.heap.size w w' := by
 induction t using Tm.ind with
 | h s l ih =>
  intro tv w X ht
  obtain ⟨a, c, rfl, hs⟩ := ht
  have IH := hide ih
  have HS := hide hs
  have HEQ := hide (occB_eq s l n)
  clear ih hs
  dsimp only
  have HB2 : Hid (Below w.heap.size w ((w.alloc (.cells #[.string s, .slice a l.length c] 26)).alloc (.cells #[.string n] 9))) := below2 _ _
  have PA := hide ((Blk.new w #[.string s, .slice a l.length c] 26).alloc (.cells #[.string n] 9))
  have PB : Hid (Blk ((w.alloc (.cells #[.string s, .slice a l.length c] 26)).alloc (.cells #[.string n] 9)) (w.heap.size + 1) #[.string n] 9) := by
   have h := Blk.new (w.alloc (.cells #[.string s, .slice a l.length c] 26)) #[.string n] 9
   unfold Hid
   simpa using h
  have hmf : ∀ (fn : Fn) (first cap : Array Value) (w : World), (Instr.makeFunc fn first cap).run Tryz.prog w = .ok (.func fn first cap) w := fun _ _ _ _ => rfl
  cases hm : (s.toList == n.toList) with
  | true =>
   have HF : Hid (true = occB n [⟨s, l⟩]) := by unfold Hid; rw [HEQ.out, hm]; rfl
   go_enter Tryz.func124, Tryz.ntmps124
   go_wp2_with fail
   go_ret
   exact ⟨ret_bool HF.out, HB2.out⟩
  | false =>
   have HF : Hid (occB n l = occB n [⟨s, l⟩]) := by unfold Hid; rw [HEQ.out, hm]; rfl
   go_enter Tryz.func124, Tryz.ntmps124
   go_wp2_with fail
   generalize (w.alloc (.cells #[.string s, .slice a l.length c] 26)).alloc (.cells #[.string n] 9) = w3 at *
   have CF := hide (containsFuncH_of (w.heap.size + 1) n l a c w3 X (HS.out.later HB2.out) (fun x hx a' c' w' hb' hsx => by
    have PBx := hide (PB.out.below hb' PB.out.lt)
    have b0 : ∀ o, (w'.alloc o).cell? ⟨w.heap.size + 1, 0, none⟩ = some (.string n) := fun o => (PBx.out.alloc o).cell 0
    have IHX := hide (IH.out x hx (.agg #[.string x.name, .slice a' x.args.length c']) (w'.alloc (.cells #[.string x.name, .slice a' x.args.length c'] 26)) X ⟨_, _, rfl, hsx.later ((Below.refl _ _).alloc (Nat.le_refl _) _)⟩)
    clear hsx hb'
    go_enter Tryz.func133, Tryz.ntmps133
    go_wp2_with fail
    refine IHX.out.mono ?_
    rintro e w1 ⟨rfl, hb1⟩
    have HB1 := hide (((Below.refl w'.heap.size w').alloc (Nat.le_refl _) _).trans (hb1.mono (by simp)))
    clear hb1
    go_wp2_with fail
    go_ret
    exact ⟨rfl, HB1.out⟩))
   refine CF.out.mono ?_
   rintro e w4 ⟨rfl, hb4⟩
   have HB4 := hide (HB2.out.trans (hb4.mono HB2.out.size))
   clear hb4
   go_wp2_with fail
   go_ret
   exact ⟨ret_bool HF.out, HB4.out⟩
def PtC (ta tb : Tm) (s1 : ByteArray) (a1 : Option Addr) (n1 : Nat) (s2 : ByteArray) (a2 : Option Addr) (n2 : Nat) (ok f' : Bool) (Z : Nat → Prop) (w' : World) : Prop :=
 (ok = true ∧ f' = false ∧ s1 = ta.name ∧ n1 = ta.args.length ∧ s2 = tb.name ∧ n2 = tb.args.length ∧ sizeL [ta] ≤ 2000 ∧ sizeL [tb] ≤ 2000 ∧ Sl w' Z a1 ta.args ∧ Sl w' Z a2 tb.args) ∨ (ok = false ∧ (f' = true ∨ 2000 < sizeL [ta] ∨ 2000 < sizeL [tb]))
def PtPost (S q : Nat) (td : Value) (h : List (ByteArray × Tm)) (ta tb : Tm) (X Y : Nat → Prop) (w : World) (e : Ending) (w' : World) : Prop :=
 ∃ (s1 : ByteArray) (a1 : Option Addr) (n1 c1 : Nat) (s2 : ByteArray) (a2 : Option Addr) (n2 c2 : Nat) (ok f' : Bool) (Y' : Nat → Prop), e = .returned (.tuple #[.agg #[.string s1, .slice a1 n1 c1], .agg #[.string s2, .slice a2 n2 c2], .bool ok]) ∧ SolE S q td h f' Y' w' ∧ (∀ b, Y' b → Y b ∨ w.heap.size ≤ b) ∧ ExQ (SolM S q) w w' ∧ PtC ta tb s1 a1 n1 s2 a2 n2 ok f' (fun b => (X b ∧ b < w.heap.size) ∨ w.heap.size ≤ b) w'
theorem drew_heap (w : World) : w.drew.heap = w.heap := rfl
theorem set6 {w : World} {c1 c2 c3 c4 c5 c6 o1 o2 o3 o4 o5 o6 : Nat} {v1 v2 v3 v4 v5 v6 : Value} {b : Nat} (h1 : b ≠ c1) (h2 : b ≠ c2) (h3 : b ≠ c3) (h4 : b ≠ c4) (h5 : b ≠ c5) (h6 : b ≠ c6) :
  ((((((w.setCell ⟨c1, o1, none⟩ v1).setCell ⟨c2, o2, none⟩ v2).setCell ⟨c3, o3, none⟩ v3).setCell ⟨c4, o4, none⟩ v4).setCell ⟨c5, o5, none⟩ v5).setCell ⟨c6, o6, none⟩ v6).drew.heap[b]? = w.heap[b]? := by
 rw [drew_heap]
 rw [Below.heap_setCell _ _ _ _ (by simpa using h6), Below.heap_setCell _ _ _ _ (by simpa using h5), Below.heap_setCell _ _ _ _ (by simpa using h4), Below.heap_setCell _ _ _ _ (by simpa using h3), Below.heap_setCell _ _ _ _ (by simpa using h2), Below.heap_setCell _ _ _ _ (by simpa using h1)]
theorem set6x {Q : Nat → Prop} {a w : World} {c1 c2 c3 c4 c5 c6 o1 o2 o3 o4 o5 o6 : Nat} {v1 v2 v3 v4 v5 v6 : Value} (h : ExQ Q a w) (h1 : a.heap.size ≤ c1) (h2 : a.heap.size ≤ c2) (h3 : a.heap.size ≤ c3) (h4 : a.heap.size ≤ c4) (h5 : a.heap.size ≤ c5) (h6 : a.heap.size ≤ c6) :
  ExQ Q a ((((((w.setCell ⟨c1, o1, none⟩ v1).setCell ⟨c2, o2, none⟩ v2).setCell ⟨c3, o3, none⟩ v3).setCell ⟨c4, o4, none⟩ v4).setCell ⟨c5, o5, none⟩ v5).setCell ⟨c6, o6, none⟩ v6).drew :=
 ((((((h.setNew h1 _ _).setNew h2 _ _).setNew h3 _ _).setNew h4 _ _).setNew h5 _ _).setNew h6 _ _).drew
set_option maxHeartbeats 1000000 in
theorem put_any2 (S q : Nat) (td : Value) (h : List (ByteArray × Tm)) (g : GoodH h) (hN : NamesH h) (p : Pr) (he : errL [p.l] = 0 ∧ errL [p.r] = 0) (j : Nat) (hj : j ≤ h.length) (hid : j = h.length → (onT (sAt h) p.l = p.l ∧ onT (sAt h) p.r = p.r)) (hsz : sizeL [p.l] ≤ 2000 ∧ sizeL [p.r] ≤ 2000) (a1 : Option Addr) (c1 : Nat) (a2 : Option Addr) (c2 : Nat) (w : World) (X Y : Nat → Prop) (hXM : ∀ b, X b → ¬ SolM S q b) (hs1 : Sl w X a1 p.l.args) (hs2 : Sl w X a2 p.r.args) (hEv : SolE S q td h false Y w) :
  Calls Tryz.prog 108 #[.pointer (some ⟨S, 0, none⟩), .agg #[.string p.l.name, .slice a1 p.l.args.length c1, .string p.r.name, .slice a2 p.r.args.length c2, .int .i64 (j : Int)]] w fun e w' => PtPost S q td h (onT (sAt h) p.l) (onT (sAt h) p.r) X Y w e w' := by
 have HS1 := hide hs1
 have HS2 := hide hs2
 have HE := hide hEv
 have HXM := hide hXM
 have HID := hide hid
 have HSZ := hide hsz
 obtain ⟨⟨L, hB, hM, hSt⟩, hYS, hYq, hY, hg⟩ := hEv
 have hSl := hB.lt
 have hml := hM.lt
 have HY := hide hY
 have hln : Hid (L.length = h.length) := hSt.1
 have HMM := hide hM
 have HB := hide hB
 clear hs1 hs2 hXM hid hsz hSt hg hY hM
 have s1 : ∀ o o' o'', (((w.alloc o).alloc o').alloc o'').cell? ⟨S, 1, none⟩ = some (.map (some q)) := fun o o' o'' => (((hB.alloc o).alloc o').alloc o'').cell 1
 have hlen : ∀ o o' o'', Sem.run Tryz.prog (Builtin.len_ #[121] 3 #[.map (some q)]) (((w.alloc o).alloc o').alloc o'').drew = .ok (.int .i64 (h.length : Int)) (((w.alloc o).alloc o').alloc o'').drew := fun o o' o'' => by
  have h1 : MapAt (((w.alloc o).alloc o').alloc o'').drew q L := HMM.out.below (((((Below.refl w.heap.size w).alloc (Nat.le_refl _) o).alloc (by simp) o').alloc (by simp; omega) o'').drew) hml
  rw [run_len Tryz.underlying121 h1, hln.out]
 clear hB
 by_cases hjl : j = h.length
 ·have hje : ((j : Int) == (h.length : Int)) = true := by rw [hjl]; simp
  have HI := hide (HID.out hjl)
  have HJ := hide hjl
  clear hjl
  go_enter Tryz.func108, Tryz.ntmps108
  go_wp2_with fail
  go_region
  go_wp2_with fail
  go_region
  all_goals go_wp2_with fail
  all_goals
   refine bodyPost_ret (v := .tuple #[.agg #[.string p.l.name, .slice a1 p.l.args.length c1], .agg #[.string p.r.name, .slice a2 p.r.args.length c2], .bool true]) (by simp [results, Tryz.results108, go_sem]) rfl ?_
   have hBw : Below w.heap.size w (((w.alloc (.cells #[.string p.l.name, .slice a1 p.l.args.length c1, .string p.r.name, .slice a2 p.r.args.length c2, .int .i64 (j : Int)] 129)).alloc (.cells #[.string p.l.name, .slice a1 p.l.args.length c1] 26)).alloc (.cells #[.string p.r.name, .slice a2 p.r.args.length c2] 26)).drew.drew := (((((Below.refl w.heap.size w).alloc (Nat.le_refl _) _).alloc (by simp) _).alloc (by simp; omega) _).drew).drew
   exact ⟨p.l.name, a1, p.l.args.length, c1, p.r.name, a2, p.r.args.length, c2, true, false, Y, rfl, (solE_ok S q td h).below HE.out hBw, fun b hb => Or.inl hb, ExQ.ofBelow hBw, Or.inl ⟨rfl, rfl, by rw [HI.out.1], by rw [HI.out.1], by rw [HI.out.2], by rw [HI.out.2], by rw [HI.out.1]; exact HSZ.out.1, by rw [HI.out.2]; exact HSZ.out.2, by rw [HI.out.1]; exact (HS1.out.mono (Y := fun b => X b ∧ b < w.heap.size) fun b h1 h2 => ⟨h1, h2⟩).later hBw |>.mono fun b hb _ => Or.inl hb, by rw [HI.out.2]; exact (HS2.out.mono (Y := fun b => X b ∧ b < w.heap.size) fun b h1 h2 => ⟨h1, h2⟩).later hBw |>.mono fun b hb _ => Or.inl hb⟩⟩
 ·have hje : ((j : Int) == (h.length : Int)) = false := beq_eq_false_iff_ne.2 (by omega)
  clear hjl HID
  have HSX1 := hide (HS1.out.mono (Y := fun b => X b ∧ b < w.heap.size) fun b h1 h2 => ⟨h1, h2⟩)
  have HSX2 := hide (HS2.out.mono (Y := fun b => X b ∧ b < w.heap.size) fun b h1 h2 => ⟨h1, h2⟩)
  have HB3 : Hid (Below w.heap.size w (((w.alloc (.cells #[.string p.l.name, .slice a1 p.l.args.length c1, .string p.r.name, .slice a2 p.r.args.length c2, .int .i64 (j : Int)] 129)).alloc (.cells #[.string ⟨#[]⟩, .slice none 0 0] 26)).alloc (.cells #[.string ⟨#[]⟩, .slice none 0 0] 26)).drew) := ((((Below.refl w.heap.size w).alloc (Nat.le_refl _) _).alloc (by simp) _).alloc (by simp; omega) _).drew
  have Q3 : Hid (Blk (((w.alloc (.cells #[.string p.l.name, .slice a1 p.l.args.length c1, .string p.r.name, .slice a2 p.r.args.length c2, .int .i64 (j : Int)] 129)).alloc (.cells #[.string ⟨#[]⟩, .slice none 0 0] 26)).alloc (.cells #[.string ⟨#[]⟩, .slice none 0 0] 26)).drew w.heap.size #[.string p.l.name, .slice a1 p.l.args.length c1, .string p.r.name, .slice a2 p.r.args.length c2, .int .i64 (j : Int)] 129) := ((Blk.new w _ _).alloc _).alloc _
  have A3 : Hid (Blk (((w.alloc (.cells #[.string p.l.name, .slice a1 p.l.args.length c1, .string p.r.name, .slice a2 p.r.args.length c2, .int .i64 (j : Int)] 129)).alloc (.cells #[.string ⟨#[]⟩, .slice none 0 0] 26)).alloc (.cells #[.string ⟨#[]⟩, .slice none 0 0] 26)).drew (w.heap.size + 1) #[.string ⟨#[]⟩, .slice none 0 0] 26) := by
   have h1 := (Blk.new (w.alloc (.cells #[.string p.l.name, .slice a1 p.l.args.length c1, .string p.r.name, .slice a2 p.r.args.length c2, .int .i64 (j : Int)] 129)) #[.string ⟨#[]⟩, .slice none 0 0] 26).alloc (.cells #[.string ⟨#[]⟩, .slice none 0 0] 26)
   rw [World.size_alloc] at h1
   exact h1
  have B3 : Hid (Blk (((w.alloc (.cells #[.string p.l.name, .slice a1 p.l.args.length c1, .string p.r.name, .slice a2 p.r.args.length c2, .int .i64 (j : Int)] 129)).alloc (.cells #[.string ⟨#[]⟩, .slice none 0 0] 26)).alloc (.cells #[.string ⟨#[]⟩, .slice none 0 0] 26)).drew (w.heap.size + 1 + 1) #[.string ⟨#[]⟩, .slice none 0 0] 26) := by
   have h1 := Blk.new ((w.alloc (.cells #[.string p.l.name, .slice a1 p.l.args.length c1, .string p.r.name, .slice a2 p.r.args.length c2, .int .i64 (j : Int)] 129)).alloc (.cells #[.string ⟨#[]⟩, .slice none 0 0] 26)) #[.string ⟨#[]⟩, .slice none 0 0] 26
   rw [World.size_alloc, World.size_alloc] at h1
   exact h1
  have z3 : (((w.alloc (.cells #[.string p.l.name, .slice a1 p.l.args.length c1, .string p.r.name, .slice a2 p.r.args.length c2, .int .i64 (j : Int)] 129)).alloc (.cells #[.string ⟨#[]⟩, .slice none 0 0] 26)).alloc (.cells #[.string ⟨#[]⟩, .slice none 0 0] 26)).drew.heap.size = w.heap.size + 3 := by simp
  go_enter Tryz.func108, Tryz.ntmps108
  go_wp2_with fail
  go_region
  go_wp2_with fail
  generalize (((w.alloc (.cells #[.string p.l.name, .slice a1 p.l.args.length c1, .string p.r.name, .slice a2 p.r.args.length c2, .int .i64 (j : Int)] 129)).alloc (.cells #[.string ⟨#[]⟩, .slice none 0 0] 26)).alloc (.cells #[.string ⟨#[]⟩, .slice none 0 0] 26)).drew = w3 at *
  refine (ufill_any S q td h g hN p.l he.1 a1 c1 w3 _ Y false (fun b hb => HXM.out b hb.1) (HSX1.out.later HB3.out) ((solE_ok S q td h).below HE.out HB3.out)).mono ?_
  rintro e w4 ⟨y, ya, yc, ok, f', Y', rfl, hE4, hsub, hff, hx, hsl, hk1, hk2⟩
  have hmn : ∀ b, SolM S q b → b < w.heap.size := fun b hb => by rcases hb with rfl | rfl; exact hSl; exact hml
  have HX4 : Hid (ExQ (SolM S q) w w4) := (ExQ.ofBelow HB3.out).trans hx
  have Q4 := hide (Q3.out.exq hx (fun h => by have := hmn _ h; omega))
  have A4 := hide (A3.out.exq hx (fun h => by have := hmn _ h; omega))
  have B4 := hide (B3.out.exq hx (fun h => by have := hmn _ h; omega))
  have HZ4 : Hid (w.heap.size + 3 ≤ w4.heap.size) := by have := hx.size; unfold Hid; omega
  have HSUB : Hid (∀ b, Y' b → Y b ∨ w.heap.size + 3 ≤ b) := fun b hb => (hsub b hb).imp id fun h => by omega
  have HE4 := hide hE4
  have HSL4 : Hid (Sl w4 (fun b => w.heap.size + 3 ≤ b ∧ b < w4.heap.size) ya y.args) := hsl.mono fun b hb h2 => ⟨by omega, h2⟩
  have HK1 := hide hk1
  have HK2 := hide hk2
  have HMN := hide hmn
  clear hsub hx hsl hk1 hk2 hE4 hff hmn
  have q2 := Q4.out.c2
  have q3 := Q4.out.c3
  have x0 := A4.out.c0
  have x1 := A4.out.c1
  have xf := A4.out.frozen
  have y0 := B4.out.c0
  have y1 := B4.out.c1
  cases ok with
  | true =>
   obtain ⟨rfl, hyT, hyz⟩ := HK1.out rfl
   have HYT := hide hyT
   have HYZ := hide hyz
   clear hyT hyz HK1 HK2
   have hk5 : ∀ b, b ≠ w.heap.size + 1 → ((w4.setCell ⟨w.heap.size + 1, 0, none⟩ (.string y.name)).setCell ⟨w.heap.size + 1, 1, none⟩ (.slice ya y.args.length yc)).heap[b]? = w4.heap[b]? := fun b hb => by
    rw [Below.heap_setCell _ _ _ _ (by simpa using hb), Below.heap_setCell _ _ _ _ (by simpa using hb)]
   have A5 : Hid (Blk ((w4.setCell ⟨w.heap.size + 1, 0, none⟩ (.string y.name)).setCell ⟨w.heap.size + 1, 1, none⟩ (.slice ya y.args.length yc)) (w.heap.size + 1) #[.string y.name, .slice ya y.args.length yc] 26) := by
    have := (A4.out.set 0 (.string y.name)).set 1 (.slice ya y.args.length yc)
    unfold Hid
    simpa using this
   have B5 := hide ((B4.out.setOther (b' := w.heap.size + 1) 0 (.string y.name) (by omega)).setOther (b' := w.heap.size + 1) 1 (.slice ya y.args.length yc) (by omega))
   have HE5 := hide ((solE_ok S q td h).keep _ _ _ _ HE4.out fun b hb => hk5 b (fun e => by rcases HSUB.out b hb with h1 | h1; have := HY.out b h1; omega; omega))
   have HX5 := hide ((HX4.out.setNew (b := w.heap.size + 1) (by omega) 0 (.string y.name)).setNew (b := w.heap.size + 1) (by omega) 1 (.slice ya y.args.length yc))
   have HSL5 := hide (HSL4.out.kept fun b hb => hk5 b (by omega))
   have HSX5 : Hid (Sl ((w4.setCell ⟨w.heap.size + 1, 0, none⟩ (.string y.name)).setCell ⟨w.heap.size + 1, 1, none⟩ (.slice ya y.args.length yc)) (fun b => X b ∧ b < w.heap.size) a2 p.r.args) := HSX2.out.exq HX5.out (fun b hb => HXM.out b hb.1)
   have hz5 : ((w4.setCell ⟨w.heap.size + 1, 0, none⟩ (.string y.name)).setCell ⟨w.heap.size + 1, 1, none⟩ (.slice ya y.args.length yc)).heap.size = w4.heap.size := by simp [World.setCell]
   go_wp2_with fail
   clear x0 x1 y0 y1 q2 q3 hk5 xf
   generalize ((w4.setCell ⟨w.heap.size + 1, 0, none⟩ (.string y.name)).setCell ⟨w.heap.size + 1, 1, none⟩ (.slice ya y.args.length yc)) = w5 at *
   refine (ufill_any S q td h g hN p.r he.2 a2 c2 w5 _ Y' false (fun b hb => HXM.out b hb.1) HSX5.out HE5.out).mono ?_
   rintro e w6 ⟨y2, ya2, yc2, ok, f', Y2, rfl, hE6, hsub, hff, hx, hsl, hk1, hk2⟩
   have HX6 : Hid (ExQ (SolM S q) w w6) := HX5.out.trans hx
   have A6 := hide (A5.out.exq hx (fun h => by have := HMN.out _ h; omega))
   have B6 := hide (B5.out.exq hx (fun h => by have := HMN.out _ h; omega))
   have HZ6 : Hid (w4.heap.size ≤ w6.heap.size) := by have := hx.size; unfold Hid; omega
   have HSUB6 : Hid (∀ b, Y2 b → Y b ∨ w.heap.size + 3 ≤ b) := fun b hb => by
    rcases hsub b hb with h1 | h1
    ·exact HSUB.out b h1
    ·have := HZ4.out; right; omega
   have HE6 := hide hE6
   have HSL6 : Hid (Sl w6 (fun b => w.heap.size + 3 ≤ b) ya y.args) := (HSL5.out.exq hx (fun b hb h => by have := HMN.out _ h; omega)).mono fun b hb _ => hb.1
   have HSL7 : Hid (Sl w6 (fun b => w.heap.size + 3 ≤ b) ya2 y2.args) := hsl.mono fun b hb h2 => by have := HZ4.out; omega
   have HCC : Hid (∀ W : World, Sl W (fun b => w.heap.size + 3 ≤ b) ya y.args → Sl W (fun b => w.heap.size + 3 ≤ b) ya2 y2.args → PtC (onT (sAt h) p.l) (onT (sAt h) p.r) y.name ya y.args.length y2.name ya2 y2.args.length ok f' (fun b => (X b ∧ b < w.heap.size) ∨ w.heap.size ≤ b) W) := fun W g1 g2 => by
    cases ok with
    | true =>
     obtain ⟨e1, e2, e3⟩ := hk1 rfl
     exact Or.inl ⟨rfl, e1, by rw [HYT.out], by rw [HYT.out], by rw [e2], by rw [e2], by rw [← HYT.out]; exact HYZ.out, by rw [← e2]; exact e3, by rw [← HYT.out]; exact g1.mono fun b hb _ => Or.inr (by omega), by rw [← e2]; exact g2.mono fun b hb _ => Or.inr (by omega)⟩
    | false =>
     rcases hk2 rfl with h1 | h1
     ·exact Or.inr ⟨rfl, Or.inl h1⟩
     ·exact Or.inr ⟨rfl, Or.inr (Or.inr h1)⟩
   clear hsub hx hsl hk1 hk2 hE6 hff
   have x0 := A6.out.c0
   have x1 := A6.out.c1
   have xf := A6.out.frozen
   have y0 := B6.out.c0
   have y1 := B6.out.c1
   have yf := B6.out.frozen
   have hnb : ∀ b, (Y2 b ∨ w.heap.size + 3 ≤ b) → b ≠ w.heap.size + 1 ∧ b ≠ w.heap.size + 1 + 1 := fun b hb => by
    have h1 : Y b ∨ w.heap.size + 3 ≤ b := hb.elim (HSUB6.out b) Or.inr
    rcases h1 with h1 | h1
    ·have := HY.out b h1; omega
    ·omega
   have HNB := hide hnb
   clear hnb
   have FA := hide ((((((A6.out.setOther (b' := w.heap.size + 1 + 1) 0 (.string y2.name) (by omega)).setOther (b' := w.heap.size + 1 + 1) 1 (.slice ya2 y2.args.length yc2) (by omega)).set 0 (.string y.name)).set 1 (.slice ya y.args.length yc)).setOther (b' := w.heap.size + 1 + 1) 0 (.string y2.name) (by omega)).setOther (b' := w.heap.size + 1 + 1) 1 (.slice ya2 y2.args.length yc2) (by omega))
   have FB := hide ((((((B6.out.set 0 (.string y2.name)).set 1 (.slice ya2 y2.args.length yc2)).setOther (b' := w.heap.size + 1) 0 (.string y.name) (by omega)).setOther (b' := w.heap.size + 1) 1 (.slice ya y.args.length yc) (by omega)).set 0 (.string y2.name)).set 1 (.slice ya2 y2.args.length yc2))
   have fa0 := FA.out.cell 0
   have fa1 := FA.out.cell 1
   have fb0 := FB.out.cell 0
   have fb1 := FB.out.cell 1
   simp only [List.setIfInBounds_toArray, List.set_cons_zero, List.set_cons_succ, List.getElem?_toArray, List.getElem?_cons_zero, List.getElem?_cons_succ] at fa0 fa1 fb0 fb1
   go_wp2_with fail
   go_region
   all_goals go_wp2_with fail
   all_goals
    refine bodyPost_ret (v := .tuple #[.agg #[.string y.name, .slice ya y.args.length yc], .agg #[.string y2.name, .slice ya2 y2.args.length yc2], .bool ok]) (by simp [results, Tryz.results108, go_sem, fa0, fa1, fb0, fb1]) rfl ?_
    refine ⟨y.name, ya, y.args.length, yc, y2.name, ya2, y2.args.length, yc2, ok, f', Y2, rfl, (solE_ok S q td h).keep _ _ _ _ HE6.out (fun b hb => set6 (HNB.out b (Or.inl hb)).2 (HNB.out b (Or.inl hb)).2 (HNB.out b (Or.inl hb)).1 (HNB.out b (Or.inl hb)).1 (HNB.out b (Or.inl hb)).2 (HNB.out b (Or.inl hb)).2), fun b hb => (HSUB6.out b hb).imp id fun h => by omega, set6x HX6.out (by omega) (by omega) (by omega) (by omega) (by omega) (by omega), HCC.out _ (HSL6.out.kept fun b hb => set6 (by omega) (by omega) (by omega) (by omega) (by omega) (by omega)) (HSL7.out.kept fun b hb => set6 (by omega) (by omega) (by omega) (by omega) (by omega) (by omega))⟩
  | false =>
   have yf := B4.out.frozen
   have HNB : Hid (∀ b, Y' b → b ≠ w.heap.size + 1 ∧ b ≠ w.heap.size + 1 + 1) := fun b hb => by
    rcases HSUB.out b hb with h1 | h1
    ·have := HY.out b h1; omega
    ·omega
   have HCC : Hid (f' = true ∨ 2000 < sizeL [onT (sAt h) p.l]) := HK2.out rfl
   clear HK1 HK2
   have FA := hide ((((((A4.out.set 0 (.string y.name)).set 1 (.slice ya y.args.length yc)).set 0 (.string y.name)).set 1 (.slice ya y.args.length yc)).setOther (b' := w.heap.size + 1 + 1) 0 (.string ⟨#[]⟩) (by omega)).setOther (b' := w.heap.size + 1 + 1) 1 (.slice none 0 0) (by omega))
   have FB := hide ((((((B4.out.setOther (b' := w.heap.size + 1) 0 (.string y.name) (by omega)).setOther (b' := w.heap.size + 1) 1 (.slice ya y.args.length yc) (by omega)).setOther (b' := w.heap.size + 1) 0 (.string y.name) (by omega)).setOther (b' := w.heap.size + 1) 1 (.slice ya y.args.length yc) (by omega)).set 0 (.string ⟨#[]⟩)).set 1 (.slice none 0 0))
   have fa0 := FA.out.cell 0
   have fa1 := FA.out.cell 1
   have fb0 := FB.out.cell 0
   have fb1 := FB.out.cell 1
   simp only [List.setIfInBounds_toArray, List.set_cons_zero, List.set_cons_succ, List.getElem?_toArray, List.getElem?_cons_zero, List.getElem?_cons_succ] at fa0 fa1 fb0 fb1
   go_wp2_with fail
   go_region
   all_goals go_wp2_with fail
   all_goals
    refine bodyPost_ret (v := .tuple #[.agg #[.string y.name, .slice ya y.args.length yc], .agg #[.string ⟨#[]⟩, .slice none 0 0], .bool false]) (by simp only [results, Tryz.results108]; simp [go_sem, fa0, fa1, fb0, fb1]) rfl ?_
    refine ⟨y.name, ya, y.args.length, yc, ⟨#[]⟩, none, 0, 0, false, f', Y', rfl, (solE_ok S q td h).keep _ _ _ _ HE4.out (fun b hb => set6 (HNB.out b hb).1 (HNB.out b hb).1 (HNB.out b hb).1 (HNB.out b hb).1 (HNB.out b hb).2 (HNB.out b hb).2), fun b hb => (HSUB.out b hb).imp id fun h => by omega, set6x HX4.out (by omega) (by omega) (by omega) (by omega) (by omega) (by omega), Or.inr ⟨rfl, ?_⟩⟩
    rcases HCC.out with h1 | h1
    ·exact Or.inl h1
    ·exact Or.inr (Or.inl h1)
theorem stood_snoc {h : List (ByteArray × Tm)} {p : ByteArray × Tm} {i j : Nat} (hi : i < h.length) (hi2 : i < (h ++ [p]).length) (hj : j ≤ h.length) : stood (h ++ [p]) i j hi2 = stood h i j hi := by
 unfold stood
 rw [List.take_append_of_le_length hj, List.getElem_append_left hi]
theorem stood_new {h : List (ByteArray × Tm)} {x : ByteArray} {t : Tm} (g : GoodH h) (m : MayAdd (sAt h) x t) (hi : h.length < (h ++ [(x, t)]).length) : stood (h ++ [(x, t)]) h.length (h.length + 1) hi = t := by
 have g2 := g.snoc m
 have h1 := forT_at g2 hi
 have e1 : (h ++ [(x, t)])[h.length].1 = x := by simp
 rw [e1] at h1
 have h2 : (h ++ [(x, t)]).length = h.length + 1 := by simp
 unfold stood
 rw [e1, show (h ++ [(x, t)]).take (h.length + 1) = h ++ [(x, t)] from List.take_of_length_le (by omega), sAt_snoc, add_val g.all.1 m.2.1 x]
 have h3 : forT (sAt h) x = none := by
  cases hf : forT (sAt h) x with
  | none => rfl
  | some u =>
   obtain ⟨d, hd, e, _⟩ := forT_mem hf
   exact absurd e (m.2.1 d hd)
 rw [onT_leaf (sAt h), h3]
 show onT [⟨x, t⟩] ⟨x, []⟩ = t
 exact onT_some (by simp [forT])
theorem StMap.snoc {w : World} {Z : Nat → Prop} {h : List (ByteArray × Tm)} (g : GoodH h) {L : List (ByteArray × Value)} (e : StMap w Z h L) {x : ByteArray} {t : Tm} (m : MayAdd (sAt h) x t) {a : Option Addr} {c : Nat} (hs : Sl w Z a t.args) : StMap w Z (h ++ [(x, t)]) (L ++ [(x, .agg #[.string t.name, .slice a t.args.length c, .int .i64 (h.length : Int)])]) := by
 have hl := e.1
 refine ⟨by simp [hl], fun i hi hli => ?_⟩
 by_cases hlt : i < h.length
 ·have hlL : i < L.length := by omega
  rw [List.getElem_append_left hlt, List.getElem_append_left hlL]
  obtain ⟨e1, j, a1, c1, e2, e3, e4⟩ := e.2 i hlt hlL
  have hmx : max j (i + 1) ≤ h.length := Nat.max_le.2 ⟨e2, hlt⟩
  refine ⟨e1, j, a1, c1, by simp; omega, ?_, ?_⟩
  ·rw [stood_snoc hlt hi hmx]; exact e3
  ·rw [stood_snoc hlt hi hmx]; exact e4
 ·have hi2 : i = h.length := by simp at hi; omega
  subst hi2
  have e1 : (h ++ [(x, t)])[h.length] = (x, t) := by simp
  have e2 : (L ++ [(x, Value.agg #[.string t.name, .slice a t.args.length c, .int .i64 (h.length : Int)])])[h.length] = (x, .agg #[.string t.name, .slice a t.args.length c, .int .i64 (h.length : Int)]) := by simp [← hl]
  rw [e1, e2]
  have hst := stood_new g m hi
  refine ⟨rfl, h.length, a, c, by simp, ?_, ?_⟩
  ·rw [Nat.max_eq_right (by omega), hst]
  ·rw [Nat.max_eq_right (by omega), hst]; exact hs
def BdPost (S q : Nat) (td : Value) (h : List (ByteArray × Tm)) (nm : ByteArray) (t : Tm) (X Y : Nat → Prop) (w : World) (e : Ending) (w' : World) : Prop :=
 ExQ (SolM S q) w w' ∧ ((t.name = nm ∧ e = .returned (.int .i64 0) ∧ SolE S q td h false Y w') ∨ (t.name ≠ nm ∧ occB nm [t] = true ∧ e = .returned (.int .i64 6) ∧ SolE S q td h false Y w') ∨
  (t.name ≠ nm ∧ occB nm [t] = false ∧ e = .returned (.int .i64 0) ∧ SolE S q td (h ++ [(nm, t)]) false (fun b => Y b ∨ (X b ∧ b < w.heap.size)) w'))
set_option maxHeartbeats 1000000 in
theorem bind_any2 (S q : Nat) (td : Value) (h : List (ByteArray × Tm)) (g : GoodH h) (nm : ByteArray) (t : Tm) (hmay : t.name ≠ nm → occB nm [t] = false → MayAdd (sAt h) nm t) (a : Option Addr) (c : Nat) (w : World) (X Y : Nat → Prop) (hXM : ∀ b, X b → ¬ SolM S q b) (hs : Sl w X a t.args) (hEv : SolE S q td h false Y w) :
  Calls Tryz.prog 109 #[.pointer (some ⟨S, 0, none⟩), .string nm, .agg #[.string t.name, .slice a t.args.length c]] w fun e w' => BdPost S q td h nm t X Y w e w' := by
 have HE := hide hEv
 have HS := hide hs
 have HXM := hide hXM
 have HMAY := hide hmay
 obtain ⟨⟨L, hB, hM, hSt⟩, hYS, hYq, hY, hg⟩ := hEv
 have hSl := hB.lt
 have hml := hM.lt
 have HY := hide hY
 have hln : Hid (L.length = h.length) := hSt.1
 have HSTM := hide hSt
 have HMM := hide hM
 have HB := hide hB
 clear hs hXM hSt hg hY hM hmay
 by_cases hn : t.name = nm
 ·have hn2 := bytes_yes hn
  have HN := hide hn
  clear hn
  go_enter Tryz.func109, Tryz.ntmps109
  go_wp2_with fail
  go_ret
  exact ⟨(ExQ.refl _ _).alloc _, Or.inl ⟨HN.out, rfl, (solE_ok S q td h).below HE.out ((Below.refl _ _).alloc (Nat.le_refl _) _)⟩⟩
 ·have hn2 := bytes_no hn
  have HN := hide hn
  clear hn
  have hB1 : Below w.heap.size w (w.alloc (.cells #[.string t.name, .slice a t.args.length c] 26)) := (Below.refl _ _).alloc (Nat.le_refl _) _
  have HB1 := hide hB1
  have T1 := hide (Blk.new w #[.string t.name, .slice a t.args.length c] 26)
  have hz1 : (w.alloc (.cells #[.string t.name, .slice a t.args.length c] 26)).heap.size = w.heap.size + 1 := by simp
  clear hB1
  go_enter Tryz.func109, Tryz.ntmps109
  go_wp2_with fail
  generalize (w.alloc (.cells #[.string t.name, .slice a t.args.length c] 26)) = w1 at *
  refine (holds_any nm t _ w1 X ⟨a, c, rfl, HS.out.later HB1.out⟩).mono ?_
  rintro e w2 ⟨rfl, hb2⟩
  have HB2 := hide (HB1.out.trans (hb2.mono HB1.out.size))
  have T2 := hide (T1.out.below hb2 (by omega))
  have HZ2 : Hid (w.heap.size + 1 ≤ w2.heap.size) := by have := hb2.size; unfold Hid; omega
  clear hb2
  cases ho : occB nm [t] with
  | true =>
   go_wp2_with fail
   go_ret
   exact ⟨ExQ.ofBelow HB2.out, Or.inr (Or.inl ⟨HN.out, ho, rfl, (solE_ok S q td h).below HE.out HB2.out⟩)⟩
  | false =>
   have HO := hide ho
   have hmayadd := HMAY.out HN.out ho
   have HMA := hide hmayadd
   have B2 := hide (HB.out.below HB2.out hSl)
   have s1 : w2.cell? ⟨S, 1, none⟩ = some (.map (some q)) := B2.out.cell 1
   have t0 := T2.out.c0
   have t1 := T2.out.c1
   have hM2 : MapAt w2.drew q L := HMM.out.below (HB2.out.drew) hml
   have hlen : Sem.run Tryz.prog (Builtin.len_ #[121] 3 #[.map (some q)]) w2.drew = .ok (.int .i64 (h.length : Int)) w2.drew := by
    rw [run_len Tryz.underlying121 hM2, hln.out]
   have hfree : mapGet L nm = none := HSTM.out.none fun i hi e => by
    obtain ⟨d, hd, e1⟩ := (g.bound h.length (Nat.le_refl _) h[i].1).2 ⟨i, hi, hi, rfl⟩
    rw [List.take_length] at hd
    exact hmayadd.2.1 d hd (e1.trans e)
   obtain ⟨w5, hrun, hM5, hz5, ho5, ht5, hu5, hk5⟩ := run_put (P := Tryz.prog) Tryz.underlying121 Tryz.underlying9 hM2 nm (.agg #[.string t.name, .slice a t.args.length c, .int .i64 (h.length : Int)]) hfree
   have HX5 : Hid (ExQ (SolM S q) w w5) := by
    have h1 : ExQ (SolM S q) w w2.drew := ExQ.ofBelow HB2.out.drew
    exact ⟨ho5.trans h1.os, ht5.trans h1.tape, hu5.trans h1.output, by rw [hz5]; exact h1.size, fun b hb hn => (hk5 b (fun e => hn (Or.inr e))).trans (h1.block b hb hn)⟩
   have HE5 : Hid (SolE S q td (h ++ [(nm, t)]) false (fun b => Y b ∨ (X b ∧ b < w.heap.size)) w5) := by
    have hSq : S ≠ q := fun e => by
     obtain ⟨es, clk, h1, _⟩ := HMM.out
     have h2 := HB.out
     subst e
     unfold Blk at h2
     rw [h1] at h2; cases h2
    have keep : ∀ (Z : Nat → Prop) a l, (∀ b, Z b → ((Y b ∨ (X b ∧ b < w.heap.size)) ∧ b ≠ S ∧ b ≠ q) ∧ b < w.heap.size) → Sl w Z a l → Sl w5 (fun b => (Y b ∨ (X b ∧ b < w.heap.size)) ∧ b ≠ S ∧ b ≠ q) a l := fun Z a l hZ hsl => (hsl.kept fun b hb => (hk5 b (hZ b hb).1.2.2).trans (HB2.out.drew.block b (hZ b hb).2)).mono fun b hb _ => (hZ b hb).1
    refine ⟨⟨_, ?_, hM5, ?_⟩, Or.inl hYS, Or.inl hYq, fun b hb => ?_, fun hf => by cases hf⟩
    ·have h1 := B2.out
     unfold Blk at *
     rw [hk5 S hSq]
     exact h1
    ·exact StMap.snoc g (HSTM.out.imp fun a l hsl => keep _ a l (fun b hb => ⟨⟨Or.inl hb.1, hb.2⟩, HY.out b hb.1⟩) hsl) HMA.out (keep (fun b => X b ∧ b < w.heap.size) a t.args (fun b hb => ⟨⟨Or.inr hb, fun e => HXM.out b hb.1 (Or.inl e), fun e => HXM.out b hb.1 (Or.inr e)⟩, hb.2⟩) (HS.out.mono fun b h1 h2 => ⟨h1, h2⟩))
    ·rw [hz5]
     show b < w2.heap.size
     have hb2 : b < w.heap.size := by
      rcases hb with hb | hb
      ·exact HY.out b hb
      ·exact hb.2
     have := HZ2.out
     omega
   clear hM5 hz5 ho5 ht5 hu5 hk5 hM2 hfree hmayadd ho
   go_wp2_with fail
   go_region
   all_goals go_wp2_with fail
   all_goals go_ret
   all_goals exact ⟨HX5.out, Or.inr (Or.inr ⟨HN.out, HO.out, rfl, HE5.out⟩)⟩
abbrev Pc := Pr × (Option Addr × Nat) × (Option Addr × Nat)
instance : Inhabited Pc := ⟨(⟨⟨⟨#[]⟩, []⟩, ⟨⟨#[]⟩, []⟩⟩, (none, 0), (none, 0))⟩
def enc4 (x : Pc) : List Value := [.string x.1.l.name, .slice x.2.1.1 x.1.l.args.length x.2.1.2, .string x.1.r.name, .slice x.2.2.1 x.1.r.args.length x.2.2.2]
def flat4 : List Pc → List Value
 | [] => []
 | x :: r => enc4 x ++ flat4 r
theorem flat4_append (b : List Pc) : ∀ a, flat4 (a ++ b) = flat4 a ++ flat4 b
 | [] => rfl
 | x :: r => by rw [List.cons_append, flat4, flat4, flat4_append b r, List.append_assoc]
theorem flat4_get : ∀ (a : List Pc) (i : Nat) (h : i < a.length) (j : Nat), j < 4 → (flat4 a)[i * 4 + j]? = (enc4 a[i])[j]?
 | [], i, h, j, hj => by simp at h
 | x :: r, 0, h, j, hj => by
  rw [flat4, List.getElem?_append_left (by simp [enc4]; omega)]; simp
 | x :: r, i + 1, h, j, hj => by
  rw [flat4, List.getElem?_append_right (by simp [enc4]; omega)]
  have e : (i + 1) * 4 + j - (enc4 x).length = i * 4 + j := by simp [enc4]; omega
  rw [e, flat4_get r i (by simpa using h) j hj]
  simp
structure QRow (w : World) (N : Nat) (Y : Nat → Prop) (v : Value) (cs : List Pc) : Prop where
 own : w.ownsRow N 45 4 v cs.length (flat4 cs)
 row : ∀ x ∈ cs, Sl w (fun b => Y b ∨ (N ≤ b ∧ some b ≠ v.ownBlock)) x.2.1.1 x.1.l.args ∧ Sl w (fun b => Y b ∨ (N ≤ b ∧ some b ≠ v.ownBlock)) x.2.2.1 x.1.r.args
theorem QRow.start (w : World) (N : Nat) (Y : Nat → Prop) : QRow w N Y (.slice none 0 0) [] := ⟨World.ownsRow_nil w N _ 4, by simp⟩
theorem QRow.below {w w' : World} {N : Nat} {Y : Nat → Prop} {v : Value} {cs : List Pc} (h : QRow w N Y v cs) (hb : Below w.heap.size w w') : QRow w' N Y v cs :=
 ⟨h.own.kept (w' := w') (row := none) ⟨hb.os, hb.tape, hb.output, hb.size, fun j hj _ => hb.block j hj⟩ (by rcases Option.eq_none_or_eq_some (Value.ownBlock v) with h | ⟨x, h⟩; exact Or.inl h; exact Or.inr (by rw [h]; simp)),
  fun x hx => ⟨(h.row x hx).1.later hb, (h.row x hx).2.later hb⟩⟩
theorem QRow.ne {w : World} {N : Nat} {Y : Nat → Prop} {v : Value} {cs : List Pc} (h : QRow w N Y v cs) {b : Nat} (hb : b < N) : some b ≠ v.ownBlock := fun e => by
 have := (h.own.lt b e.symm).1; omega
theorem QRow.push {w w1 w2 w3 : World} {N : Nat} {Y : Nat → Prop} {v : Value} {cs : List Pc} (h : QRow w N Y v cs) (hN : N ≤ w.heap.size) (hY : ∀ b, Y b → b < N) (hb : Below w.heap.size w w1) {x : Pc}
  (ht : Sl w1 (fun b => Y b ∨ w.heap.size ≤ b) x.2.1.1 x.1.l.args ∧ Sl w1 (fun b => Y b ∨ w.heap.size ≤ b) x.2.2.1 x.1.r.args) (o : Obj) (hw2 : w2 = w1.alloc o) {g cap : Nat}
  (hown : w3.ownsRow N 45 4 (.slice (some ⟨g, 0, none⟩) (cs.length + 1) cap) (cs.length + 1) (flat4 cs ++ enc4 x)) (hg : w2.grownBy w3 v.ownBlock) (hg1 : v.ownBlock = some g ∨ g = w2.heap.size) :
  QRow w3 N Y (.slice (some ⟨g, 0, none⟩) (cs.length + 1) cap) (cs ++ [x]) := by
 subst hw2
 have hlt := h.own.lt
 have hsz : w1.heap.size ≤ (w1.alloc o).heap.size := by simp
 have hbs := hb.size
 have hgN : N ≤ g := by
  rcases hg1 with e | e
  ·exact (hlt g e).1
  ·simp at e; omega
 have old : ∀ (a : Option Addr) (l : List Tm), Sl w (fun b => Y b ∨ (N ≤ b ∧ some b ≠ v.ownBlock)) a l → Sl w3 (fun b => Y b ∨ (N ≤ b ∧ some b ≠ (Value.slice (some ⟨g, 0, none⟩) (cs.length + 1) cap).ownBlock)) a l := fun a l h0 => by
  have h1 : Sl w (fun b => (Y b ∨ (N ≤ b ∧ some b ≠ v.ownBlock)) ∧ b < w.heap.size) a l := h0.mono fun b h1 h2 => ⟨h1, h2⟩
  have h2 : Sl w3 (fun b => (Y b ∨ (N ≤ b ∧ some b ≠ v.ownBlock)) ∧ b < w.heap.size) a l := h1.kept fun b hx => by
   have hne : some b ≠ v.ownBlock := by
    rcases hx.1 with hy | hy
    ·exact h.ne (hY b hy)
    ·exact hy.2
   rw [hg.block b (by simp; omega) hne, Below.heap_alloc _ _ _ (by omega), hb.block b hx.2]
  refine h2.mono fun b hx _ => ?_
  rcases hx.1 with hy | hy
  ·exact Or.inl hy
  ·refine Or.inr ⟨hy.1, fun e => ?_⟩
   simp [Value.ownBlock] at e
   rcases hg1 with e' | e'
   ·exact hy.2 (by rw [e', e])
   ·simp at e'; omega
 have new : ∀ (a : Option Addr) (l : List Tm), Sl w1 (fun b => Y b ∨ w.heap.size ≤ b) a l → Sl w3 (fun b => Y b ∨ (N ≤ b ∧ some b ≠ (Value.slice (some ⟨g, 0, none⟩) (cs.length + 1) cap).ownBlock)) a l := fun a l h0 => by
  have h1 : Sl w1 (fun b => (Y b ∨ w.heap.size ≤ b) ∧ b < w1.heap.size) a l := h0.mono fun b h1 h2 => ⟨h1, h2⟩
  have h2 : Sl w3 (fun b => (Y b ∨ w.heap.size ≤ b) ∧ b < w1.heap.size) a l := h1.kept fun b hx => by
   have hne : some b ≠ v.ownBlock := by
    rcases hx.1 with hy | hy
    ·exact h.ne (hY b hy)
    ·intro e; have := (hlt b e.symm).2; omega
   rw [hg.block b (by simp; omega) hne, Below.heap_alloc _ _ _ hx.2]
  refine h2.mono fun b hx _ => ?_
  rcases hx.1 with hy | hy
  ·exact Or.inl hy
  ·refine Or.inr ⟨by omega, fun e => ?_⟩
   simp [Value.ownBlock] at e
   rcases hg1 with e' | e'
   ·have := (hlt g e').2; omega
   ·simp at e'; omega
 refine ⟨by rw [flat4_append]; simpa [flat4] using hown, fun y hy => ?_⟩
 rcases List.mem_append.1 hy with hy | hy
 ·exact ⟨old _ _ (h.row y hy).1, old _ _ (h.row y hy).2⟩
 ·have e : y = x := by simpa using hy
  subst e
  exact ⟨new _ _ ht.1, new _ _ ht.2⟩
abbrev Ec := Pc × Nat
def enc5 (x : Ec) : List Value := [.string x.1.1.l.name, .slice x.1.2.1.1 x.1.1.l.args.length x.1.2.1.2, .string x.1.1.r.name, .slice x.1.2.2.1 x.1.1.r.args.length x.1.2.2.2, .int .i64 (x.2 : Int)]
def flat5 : List Ec → List Value
 | [] => []
 | x :: r => enc5 x ++ flat5 r
theorem flat5_append (b : List Ec) : ∀ a, flat5 (a ++ b) = flat5 a ++ flat5 b
 | [] => rfl
 | x :: r => by rw [List.cons_append, flat5, flat5, flat5_append b r, List.append_assoc]
theorem flat5_length : ∀ a : List Ec, (flat5 a).length = a.length * 5
 | [] => rfl
 | x :: r => by rw [flat5, List.length_append, flat5_length r]; simp [enc5]; omega
theorem flat5_get : ∀ (a : List Ec) (i : Nat) (h : i < a.length) (j : Nat), j < 5 → (flat5 a)[i * 5 + j]? = (enc5 a[i])[j]?
 | [], i, h, j, hj => by simp at h
 | x :: r, 0, h, j, hj => by
  rw [flat5, List.getElem?_append_left (by simp [enc5]; omega)]; simp
 | x :: r, i + 1, h, j, hj => by
  rw [flat5, List.getElem?_append_right (by simp [enc5]; omega)]
  have e : (i + 1) * 5 + j - (enc5 x).length = i * 5 + j := by simp [enc5]; omega
  rw [e, flat5_get r i (by simpa using h) j hj]
  simp
structure ERow (w : World) (N : Nat) (Y : Nat → Prop) (v : Value) (cs : List Ec) : Prop where
 own : w.ownsRow N 129 5 v cs.length (flat5 cs)
 row : ∀ x ∈ cs, Sl w (fun b => Y b ∨ (N ≤ b ∧ some b ≠ v.ownBlock)) x.1.2.1.1 x.1.1.l.args ∧ Sl w (fun b => Y b ∨ (N ≤ b ∧ some b ≠ v.ownBlock)) x.1.2.2.1 x.1.1.r.args
theorem ERow.start (w : World) (N : Nat) (Y : Nat → Prop) : ERow w N Y (.slice none 0 0) [] := ⟨World.ownsRow_nil w N _ 5, by simp⟩
theorem ERow.below {w w' : World} {N : Nat} {Y : Nat → Prop} {v : Value} {cs : List Ec} (h : ERow w N Y v cs) (hb : Below w.heap.size w w') : ERow w' N Y v cs :=
 ⟨h.own.kept (w' := w') (row := none) ⟨hb.os, hb.tape, hb.output, hb.size, fun j hj _ => hb.block j hj⟩ (by rcases Option.eq_none_or_eq_some (Value.ownBlock v) with h | ⟨x, h⟩; exact Or.inl h; exact Or.inr (by rw [h]; simp)),
  fun x hx => ⟨(h.row x hx).1.later hb, (h.row x hx).2.later hb⟩⟩
theorem ERow.ne {w : World} {N : Nat} {Y : Nat → Prop} {v : Value} {cs : List Ec} (h : ERow w N Y v cs) {b : Nat} (hb : b < N) : some b ≠ v.ownBlock := fun e => by
 have := (h.own.lt b e.symm).1; omega
theorem ERow.push {w w1 w2 w3 : World} {N : Nat} {Y : Nat → Prop} {v : Value} {cs : List Ec} (h : ERow w N Y v cs) (hN : N ≤ w.heap.size) (hY : ∀ b, Y b → b < N) (hb : Below w.heap.size w w1) {x : Ec}
  (ht : Sl w1 (fun b => Y b ∨ w.heap.size ≤ b) x.1.2.1.1 x.1.1.l.args ∧ Sl w1 (fun b => Y b ∨ w.heap.size ≤ b) x.1.2.2.1 x.1.1.r.args) (o : Obj) (hw2 : w2 = w1.alloc o) {g cap : Nat}
  (hown : w3.ownsRow N 129 5 (.slice (some ⟨g, 0, none⟩) (cs.length + 1) cap) (cs.length + 1) (flat5 cs ++ enc5 x)) (hg : w2.grownBy w3 v.ownBlock) (hg1 : v.ownBlock = some g ∨ g = w2.heap.size) :
  ERow w3 N Y (.slice (some ⟨g, 0, none⟩) (cs.length + 1) cap) (cs ++ [x]) := by
 subst hw2
 have hlt := h.own.lt
 have hsz : w1.heap.size ≤ (w1.alloc o).heap.size := by simp
 have hbs := hb.size
 have hgN : N ≤ g := by
  rcases hg1 with e | e
  ·exact (hlt g e).1
  ·simp at e; omega
 have old : ∀ (a : Option Addr) (l : List Tm), Sl w (fun b => Y b ∨ (N ≤ b ∧ some b ≠ v.ownBlock)) a l → Sl w3 (fun b => Y b ∨ (N ≤ b ∧ some b ≠ (Value.slice (some ⟨g, 0, none⟩) (cs.length + 1) cap).ownBlock)) a l := fun a l h0 => by
  have h1 : Sl w (fun b => (Y b ∨ (N ≤ b ∧ some b ≠ v.ownBlock)) ∧ b < w.heap.size) a l := h0.mono fun b h1 h2 => ⟨h1, h2⟩
  have h2 : Sl w3 (fun b => (Y b ∨ (N ≤ b ∧ some b ≠ v.ownBlock)) ∧ b < w.heap.size) a l := h1.kept fun b hx => by
   have hne : some b ≠ v.ownBlock := by
    rcases hx.1 with hy | hy
    ·exact h.ne (hY b hy)
    ·exact hy.2
   rw [hg.block b (by simp; omega) hne, Below.heap_alloc _ _ _ (by omega), hb.block b hx.2]
  refine h2.mono fun b hx _ => ?_
  rcases hx.1 with hy | hy
  ·exact Or.inl hy
  ·refine Or.inr ⟨hy.1, fun e => ?_⟩
   simp [Value.ownBlock] at e
   rcases hg1 with e' | e'
   ·exact hy.2 (by rw [e', e])
   ·simp at e'; omega
 have new : ∀ (a : Option Addr) (l : List Tm), Sl w1 (fun b => Y b ∨ w.heap.size ≤ b) a l → Sl w3 (fun b => Y b ∨ (N ≤ b ∧ some b ≠ (Value.slice (some ⟨g, 0, none⟩) (cs.length + 1) cap).ownBlock)) a l := fun a l h0 => by
  have h1 : Sl w1 (fun b => (Y b ∨ w.heap.size ≤ b) ∧ b < w1.heap.size) a l := h0.mono fun b h1 h2 => ⟨h1, h2⟩
  have h2 : Sl w3 (fun b => (Y b ∨ w.heap.size ≤ b) ∧ b < w1.heap.size) a l := h1.kept fun b hx => by
   have hne : some b ≠ v.ownBlock := by
    rcases hx.1 with hy | hy
    ·exact h.ne (hY b hy)
    ·intro e; have := (hlt b e.symm).2; omega
   rw [hg.block b (by simp; omega) hne, Below.heap_alloc _ _ _ hx.2]
  refine h2.mono fun b hx _ => ?_
  rcases hx.1 with hy | hy
  ·exact Or.inl hy
  ·refine Or.inr ⟨by omega, fun e => ?_⟩
   simp [Value.ownBlock] at e
   rcases hg1 with e' | e'
   ·have := (hlt g e').2; omega
   ·simp at e'; omega
 refine ⟨by rw [flat5_append]; simpa [flat5] using hown, fun y hy => ?_⟩
 rcases List.mem_append.1 hy with hy | hy
 ·exact ⟨old _ _ (h.row y hy).1, old _ _ (h.row y hy).2⟩
 ·have e : y = x := by simpa using hy
  subst e
  exact ⟨new _ _ ht.1, new _ _ ht.2⟩
theorem Tryz.infoEq : (Tryz.prog.info? 129).map (fun i => (i.zero, i.size, i.bytes)) = some (some (.agg #[.string ByteArray.empty, .slice none 0 0, .string ByteArray.empty, .slice none 0 0, .int .i64 0]), 5, 88) := by kernel_rfl
theorem cell_five_new (w : World) (c0 c1 c2 c3 c4 : Value) (T : Nat) : ∀ j u, [c0, c1, c2, c3, c4][j]? = some u → (w.alloc (.cells #[c0, c1, c2, c3, c4] T)).cell? ((⟨w.heap.size, 0, none⟩ : Addr).add j) = some u :=
 World.news_of_block (cs := #[c0, c1, c2, c3, c4]) (heap_alloc_new w _)
theorem ERow.exq {w w' : World} {Q : Nat → Prop} {N : Nat} {Y : Nat → Prop} {v : Value} {cs : List Ec} (h : ERow w N Y v cs) (he : ExQ Q w w') (hQ : ∀ b, Q b → b < N) (hY : ∀ b, Q b → ¬ Y b) : ERow w' N Y v cs :=
 ⟨ownsRow_at h.own fun g hg => he.block g (h.own.lt g hg).2 (fun hq => by have := hQ g hq; have := (h.own.lt g hg).1; omega),
  fun x hx => ⟨(h.row x hx).1.exq he fun b hb hq => by
   rcases hb with h1 | h1
   ·exact hY b hq h1
   ·have := hQ b hq; omega,
   (h.row x hx).2.exq he fun b hb hq => by
   rcases hb with h1 | h1
   ·exact hY b hq h1
   ·have := hQ b hq; omega⟩⟩
theorem sl_push {w1 w3 : World} {N n cap : Nat} {Y : Nat → Prop} {v : Value} {o : Obj} {g : Nat} (hv : ∀ b, Y b → some b ≠ v.ownBlock) (hg : (w1.alloc o).grownBy w3 v.ownBlock) (hg1 : v.ownBlock = some g ∨ g = (w1.alloc o).heap.size) {a : Option Addr} {l : List Tm} (h0 : Sl w1 (fun b => Y b ∨ (N ≤ b ∧ some b ≠ v.ownBlock)) a l) :
  Sl w3 (fun b => Y b ∨ (N ≤ b ∧ some b ≠ (Value.slice (some ⟨g, 0, none⟩) n cap).ownBlock)) a l := by
 have h1 : Sl w1 (fun b => (Y b ∨ (N ≤ b ∧ some b ≠ v.ownBlock)) ∧ b < w1.heap.size) a l := h0.mono fun b h1 h2 => ⟨h1, h2⟩
 refine (h1.kept fun b hx => ?_).mono fun b hx _ => ?_
 ·have hne : some b ≠ v.ownBlock := by
   rcases hx.1 with hy | hy
   ·exact hv b hy
   ·exact hy.2
  rw [hg.block b (by simp; omega) hne, Below.heap_alloc _ _ _ hx.2]
 ·rcases hx.1 with hy | hy
  ·exact Or.inl hy
  ·refine Or.inr ⟨hy.1, fun e => ?_⟩
   simp [Value.ownBlock] at e
   rcases hg1 with e' | e'
   ·exact hy.2 (by rw [e', e])
   ·simp at e'; omega
theorem ERow.push2 {w w1 w3 : World} {N : Nat} {Y : Nat → Prop} {v : Value} {cs : List Ec} (h : ERow w N Y v cs) (hY : ∀ b, Y b → b < N) (hb : Below w.heap.size w w1) {x : Ec}
  (ht : Sl w1 (fun b => Y b ∨ (N ≤ b ∧ some b ≠ v.ownBlock)) x.1.2.1.1 x.1.1.l.args ∧ Sl w1 (fun b => Y b ∨ (N ≤ b ∧ some b ≠ v.ownBlock)) x.1.2.2.1 x.1.1.r.args) (o : Obj) {g cap : Nat}
  (hown : w3.ownsRow N 129 5 (.slice (some ⟨g, 0, none⟩) (cs.length + 1) cap) (cs.length + 1) (flat5 cs ++ enc5 x)) (hg : (w1.alloc o).grownBy w3 v.ownBlock) (hg1 : v.ownBlock = some g ∨ g = (w1.alloc o).heap.size) :
  ERow w3 N Y (.slice (some ⟨g, 0, none⟩) (cs.length + 1) cap) (cs ++ [x]) := by
 have hv : ∀ b, Y b → some b ≠ v.ownBlock := fun b hb => h.ne (hY b hb)
 refine ⟨by rw [flat5_append]; simpa [flat5] using hown, fun y hy => ?_⟩
 rcases List.mem_append.1 hy with hy | hy
 ·exact ⟨sl_push hv hg hg1 ((h.row y hy).1.later hb), sl_push hv hg hg1 ((h.row y hy).2.later hb)⟩
 ·have e : y = x := by simpa using hy
  subst e
  exact ⟨sl_push hv hg hg1 ht.1, sl_push hv hg hg1 ht.2⟩
theorem ERow.setCell {w : World} {N : Nat} {Y : Nat → Prop} {v : Value} {cs : List Ec} (h : ERow w N Y v cs) {b i : Nat} (hb : b < N) (hY : ¬ Y b) (u : Value) : ERow (w.setCell ⟨b, i, none⟩ u) N Y v cs :=
 h.exq (Q := fun c => c = b) ((ExQ.refl (fun c => c = b) w).set (B := b) rfl i u) (fun c hc => by omega) (fun c hc => by rw [hc]; exact hY)
theorem sole_todo {S q : Nat} {td td' : Value} {h : List (ByteArray × Tm)} {Y : Nat → Prop} {w w3 : World} (he : SolE S q td h false Y w) (hk : ∀ b, Y b → w3.heap[b]? = w.heap[b]?) : SolE S q td' h false Y (w3.setCell ⟨S, 0, none⟩ td') := by
 have he3 := (solE_ok S q td h).keep _ _ _ _ he hk
 obtain ⟨⟨L, e1, e2, e3⟩, e4, e5, e6, e7⟩ := he3
 have hSq : S ≠ q := fun e => by
  obtain ⟨es, clk, h1, _⟩ := e2
  subst e
  unfold Blk at e1
  rw [h1] at e1; cases e1
 have hk2 : ∀ b, b ≠ S → (w3.setCell ⟨S, 0, none⟩ td').heap[b]? = w3.heap[b]? := fun b hb => Below.heap_setCell _ _ _ _ (by simpa using hb)
 refine ⟨⟨L, ?_, e2.kept (hk2 q (Ne.symm hSq)), e3.imp fun a l hsl => (hsl.kept fun b hb => hk2 b hb.2.1)⟩, e4, e5, fun b hb => by simpa [World.setCell] using e6 b hb, e7⟩
 have := e1.set 0 td'
 simpa using this
def ecP (x : Ec) : Pr × Nat := (x.1.1, x.2)
theorem Sl.blk {w : World} {X : Nat → Prop} {b o : Nat} {l : List Tm} (h : Sl w X (some ⟨b, o, none⟩) l) (hl : 0 < l.length) : X b := by
 rcases h.2 with h1 | ⟨b', o', e, h1⟩
 ·subst h1; simp at hl
 ·simp at e
  obtain ⟨rfl, rfl⟩ := e
  exact (lies_get _ _ _ h1 0 hl).1
theorem zip_len : ∀ {a b : List Tm}, a.length = b.length → (zipP a b).length = a.length
 | [], [], _ => rfl
 | [], _ :: _, h => by simp at h
 | _ :: _, [], h => by simp at h
 | t :: a, u :: b, h => by rw [zipP, List.length_cons, zip_len (by simpa using h), List.length_cons]
theorem zip_get : ∀ {a b : List Tm} (k : Nat) (h1 : k < a.length) (h2 : k < b.length) (h3 : k < (zipP a b).length), (zipP a b)[k] = ⟨a[k], b[k]⟩
 | [], _, k, h1, _, _ => by simp at h1
 | _ :: _, [], k, _, h2, _ => by simp at h2
 | t :: a, u :: b, 0, _, _, _ => rfl
 | t :: a, u :: b, k + 1, h1, h2, h3 => by
  simp only [zipP, List.getElem_cons_succ]
  exact zip_get k (by simpa using h1) (by simpa using h2) _
def SolT (S q N : Nat) (h : List (ByteArray × Tm)) (cs : List Ec) (w : World) : Prop :=
 ∃ (td : Value) (Y : Nat → Prop), SolE S q td h false Y w ∧ ERow w N (fun b => b < N ∧ b ≠ S ∧ b ≠ q) td cs ∧ (∀ b, Y b → some b ≠ td.ownBlock) ∧ S < N ∧ q < N ∧ N ≤ w.heap.size
def AhInv (S q N : Nat) (h : List (ByteArray × Tm)) (cs : List Ec) (Y : Nat → Prop) (td0 : Value) (w : World) (lA lB : List Tm) (a1 a2 : Option Addr) (i : Value) (wr : World) : Prop :=
 ∃ (k : Nat) (td : Value) (cs' : List Ec), k ≤ lA.length ∧ i = .int .i64 ((k : Int) - 1) ∧ SolE S q td h false Y wr ∧ ERow wr N (fun b => b < N ∧ b ≠ S ∧ b ≠ q) td cs' ∧ (∀ b, Y b → some b ≠ td.ownBlock) ∧ cs'.map ecP = cs.map ecP ++ ((zipP lA lB).drop k).reverse.map (fun p => (p, h.length)) ∧
  Sl wr (fun b => (b < N ∧ b ≠ S ∧ b ≠ q) ∨ (N ≤ b ∧ some b ≠ td.ownBlock)) a1 lA ∧ Sl wr (fun b => (b < N ∧ b ≠ S ∧ b ≠ q) ∨ (N ≤ b ∧ some b ≠ td.ownBlock)) a2 lB ∧ ExQ (fun b => b = S ∨ some b = td0.ownBlock) w wr ∧ N ≤ wr.heap.size ∧ ∀ k, td.ownBlock = some k → td0.ownBlock = some k ∨ w.heap.size ≤ k
theorem ah_step {S q N : Nat} {h : List (ByteArray × Tm)} {cs cs' : List Ec} {Y : Nat → Prop} {w wr w3 : World} {lA lB : List Tm} {a1 a2 : Option Addr} {k : Nat} {td td0 : Value} (hSN : S < N) (hqN : q < N) (hl : lA.length = lB.length) (hk : k < lA.length) (hE : SolE S q td h false Y wr) (hR : ERow wr N (fun b => b < N ∧ b ≠ S ∧ b ≠ q) td cs') (hY : ∀ b, Y b → some b ≠ td.ownBlock) (hC : cs'.map ecP = cs.map ecP ++ ((zipP lA lB).drop (k + 1)).reverse.map (fun p => (p, h.length)))
  (hs1 : Sl wr (fun b => (b < N ∧ b ≠ S ∧ b ≠ q) ∨ (N ≤ b ∧ some b ≠ td.ownBlock)) a1 lA) (hs2 : Sl wr (fun b => (b < N ∧ b ≠ S ∧ b ≠ q) ∨ (N ≤ b ∧ some b ≠ td.ownBlock)) a2 lB) (hx : ExQ (fun b => b = S ∨ some b = td0.ownBlock) w wr) (hN : N ≤ wr.heap.size) (hNw : N ≤ w.heap.size) (hob : ∀ k, td.ownBlock = some k → td0.ownBlock = some k ∨ w.heap.size ≤ k)
  {x1 x2 : Option Addr} {d1 d2 : Nat} (hx1 : Sl wr (fun b => (b < N ∧ b ≠ S ∧ b ≠ q) ∨ (N ≤ b ∧ some b ≠ td.ownBlock)) x1 (lA[k]'hk).args) (hx2 : Sl wr (fun b => (b < N ∧ b ≠ S ∧ b ≠ q) ∨ (N ≤ b ∧ some b ≠ td.ownBlock)) x2 (lB[k]'(by omega)).args) {o : Obj} {g cap : Nat}
  (hown : w3.ownsRow N 129 5 (.slice (some ⟨g, 0, none⟩) (cs'.length + 1) cap) (cs'.length + 1) (flat5 cs' ++ enc5 ((⟨lA[k]'hk, lB[k]'(by omega)⟩, (x1, d1), (x2, d2)), h.length))) (hg : (wr.drew.alloc o).grownBy w3 td.ownBlock) (hat : td.ownBlock = some g ∨ g = (wr.drew.alloc o).heap.size) :
  AhInv S q N h cs Y td0 w lA lB a1 a2 (.int .i64 ((k : Int) - 1)) (w3.setCell ⟨S, 0, none⟩ (.slice (some ⟨g, 0, none⟩) (cs'.length + 1) cap)) := by
 have hbd : Below wr.heap.size wr wr.drew := (Below.refl _ _).drew
 have hvY : ∀ b, (b < N ∧ b ≠ S ∧ b ≠ q) → some b ≠ td.ownBlock := fun b hb => hR.ne hb.1
 have hYl := hE.2.2.2.1
 have hgs := hg.size
 simp at hgs
 refine ⟨k, .slice (some ⟨g, 0, none⟩) (cs'.length + 1) cap, cs' ++ [((⟨lA[k]'hk, lB[k]'(by omega)⟩, (x1, d1), (x2, d2)), h.length)], by omega, rfl, sole_todo hE (fun b hb => ?_), ?_, fun b hb e => ?_, ?_, ?_, ?_, ?_, by simp [World.setCell]; omega, fun k2 hk2 => ?_⟩
 ·rw [hg.block b (by have := hYl b hb; simp; omega) (hY b hb), Below.heap_alloc _ _ _ (by have := hYl b hb; simpa using this)]
  rfl
 ·exact (hR.push2 (fun b hb => hb.1) hbd (x := ((⟨lA[k]'hk, lB[k]'(by omega)⟩, (x1, d1), (x2, d2)), h.length)) ⟨hx1.later hbd, hx2.later hbd⟩ o hown hg hat).setCell hSN (fun hb => hb.2.1 rfl) _
 ·have e2 : b = g := by simpa [Value.ownBlock] using e
  subst e2
  rcases hat with h1 | h1
  ·exact hY b hb h1.symm
  ·have := hYl b hb; simp at h1; omega
 ·have hzl : k < (zipP lA lB).length := by rw [zip_len hl]; exact hk
  rw [List.map_append, hC, List.drop_eq_getElem_cons hzl, List.reverse_cons, List.map_append, zip_get k hk (by omega) hzl]
  simp [ecP]
 ·exact (sl_push hvY hg hat (hs1.later hbd)).kept fun b hb => Below.heap_setCell _ _ _ _ (by
   simp
   rcases hb with hb | hb
   ·exact hb.2.1
   ·omega)
 ·exact (sl_push hvY hg hat (hs2.later hbd)).kept fun b hb => Below.heap_setCell _ _ _ _ (by
   simp
   rcases hb with hb | hb
   ·exact hb.2.1
   ·omega)
 ·refine ((((hx.drew).alloc o).grown hg (fun b hb => ?_)).set (Or.inl rfl) _ _)
  rcases hob b hb with h1 | h1
  ·exact Or.inr (Or.inr h1.symm)
  ·exact Or.inl h1
 ·have e : g = k2 := by simpa [Value.ownBlock] using hk2
  subst e
  rcases hat with h1 | h1
  ·exact hob g h1
  ·right
   have := hx.size
   simp at h1
   omega
def FvS (S q b1 b2 o1 o2 : Nat) (tA tB : Tm) (x1 x2 : Option Addr) (d1 d2 n : Nat) (w' : World) : Prop :=
 w'.cell? ⟨S, 1, none⟩ = some (.map (some q)) ∧ w'.cell? ⟨b1, o1, none⟩ = some (.string tA.name) ∧ w'.cell? ⟨b1, o1 + 1, none⟩ = some (.slice x1 tA.args.length d1) ∧ w'.cell? ⟨b2, o2, none⟩ = some (.string tB.name) ∧ w'.cell? ⟨b2, o2 + 1, none⟩ = some (.slice x2 tB.args.length d2) ∧ Sem.run Tryz.prog (Builtin.len_ #[121] 3 #[.map (some q)]) w' = .ok (.int .i64 (n : Int)) w'
def AhPost (S q N : Nat) (h : List (ByteArray × Tm)) (cs : List Ec) (lA lB : List Tm) (td0 : Value) (w : World) (e : Ending) (w' : World) : Prop :=
 e = .returned (.tuple #[]) ∧ ∃ cs', SolT S q N h cs' w' ∧ cs'.map ecP = cs.map ecP ++ (zipP lA lB).reverse.map (fun p => (p, h.length)) ∧ ExQ (fun b => b = S ∨ some b = td0.ownBlock) w w'
set_option maxHeartbeats 4000000 in
theorem ahead_any (S q N : Nat) (h : List (ByteArray × Tm)) (cs : List Ec) (lA lB : List Tm) (hl : lA.length = lB.length) (hsz : cs.length + lA.length ≤ 1000000000) (hh : h.length ≤ 1000000000) (a1 a2 : Option Addr) (c1 c2 : Nat) (w : World) (td : Value) (Y : Nat → Prop) (hE : SolE S q td h false Y w) (hR : ERow w N (fun b => b < N ∧ b ≠ S ∧ b ≠ q) td cs) (hY : ∀ b, Y b → some b ≠ td.ownBlock) (hSN : S < N) (hqN : q < N) (hNw : N ≤ w.heap.size)
  (hs1 : Sl w (fun b => (b < N ∧ b ≠ S ∧ b ≠ q) ∨ (N ≤ b ∧ some b ≠ td.ownBlock)) a1 lA) (hs2 : Sl w (fun b => (b < N ∧ b ≠ S ∧ b ≠ q) ∨ (N ≤ b ∧ some b ≠ td.ownBlock)) a2 lB) :
  Calls Tryz.prog 110 #[.pointer (some ⟨S, 0, none⟩), .slice a1 lA.length c1, .slice a2 lB.length c2] w fun e w' => AhPost S q N h cs lA lB td w e w' := by
 obtain ⟨i0, hi0, hz0, hz1, hz2⟩ := info_parts Tryz.infoEq
 have HE := hide hE
 have HR := hide hR
 have HY := hide hY
 have HS1 := hide hs1
 have HS2 := hide hs2
 have hl1 := hs1.1
 have hl2 := hs2.1
 have HL := hide hl
 have hle : Hid (lA.length ≤ 1000000000) := by unfold Hid; omega
 clear hE hR hY hs1 hs2
 rw [← hl]
 clear hl
 go_enter Tryz.func110, Tryz.ntmps110
 go_wp2_with fail
 go_loopw [6] (fun i wr => AhInv S q N h cs Y td w lA lB a1 a2 i wr) (fun i wr => ((intOf i) + 1).toNat)
 case atStart =>
  refine ⟨lA.length, td, cs, Nat.le_refl _, ?_, HE.out, HR.out, HY.out, ?_, HS1.out, HS2.out, ExQ.refl _ _, hNw, fun k hk => Or.inl hk⟩
  ·have := hle.out
   go_num
  ·rw [List.drop_eq_nil_of_le (by rw [zip_len HL.out]; exact Nat.le_refl _)]
   simp
 case round =>
  obtain ⟨k, td', cs', hk, rfl, hE', hR', hY', hC', hs1', hs2', hx', hN', hob'⟩ := hrel
  have HE' := hide hE'
  have HR' := hide hR'
  have HY' := hide hY'
  have HC' := hide hC'
  have HX' := hide hx'
  have HOB := hide hob'
  clear hob'
  have HS1' := hide hs1'
  have HS2' := hide hs2'
  have HLC : Hid (cs'.length ≤ 1000000000) := by
   have h1 := congrArg List.length hC'
   simp [zip_len HL.out] at h1
   unfold Hid
   omega
  cases k with
  | zero =>
   clear hE' hR' hY' hC' hx' hs1' hs2'
   go_wp2_with fail
   go_end0
   refine ⟨rfl, cs', ⟨td', Y, HE'.out, HR'.out, HY'.out, hSN, hqN, hN'⟩, ?_, HX'.out⟩
   have := HC'.out
   simpa using this
  | succ k =>
   have hkk : ((k + 1 : Nat) : Int) - 1 = k := by omega
   rw [hkk]
   obtain ⟨b1, o1, x1, d1, rfl, p0, p1, hx1⟩ := hs1'.get (Below.refl _ _) (fun _ _ h => h) k hk
   obtain ⟨b2, o2, x2, d2, rfl, r0, r1, hx2⟩ := hs2'.get (Below.refl _ _) (fun _ _ h => h) k (by have := HL.out; omega)
   obtain ⟨av, cv, ev, hsx1⟩ := hx1
   simp at ev
   obtain ⟨rfl, rfl⟩ := ev
   obtain ⟨av, cv, ev, hsx2⟩ := hx2
   simp at ev
   obtain ⟨rfl, rfl⟩ := ev
   obtain ⟨⟨L, hB, hM, hSt⟩, hYS, hYq, hYl, hg⟩ := hE'
   have HX1 := hide hsx1
   have HX2 := hide hsx2
   have HB := hide hB
   have s0 : wr.cell? ⟨S, 0, none⟩ = some td' := hB.cell 0
   have s0' : ∀ o, (wr.alloc o).cell? ⟨S, 0, none⟩ = some td' := fun o => (hB.alloc o).cell 0
   have s1 : wr.cell? ⟨S, 1, none⟩ = some (.map (some q)) := hB.cell 1
   have hlen : Sem.run Tryz.prog (Builtin.len_ #[121] 3 #[.map (some q)]) wr.drew = .ok (.int .i64 (h.length : Int)) wr.drew := by
    have h1 : MapAt wr.drew q L := hM.below ((Below.refl wr.heap.size wr).drew) hM.lt
    rw [run_len Tryz.underlying121 h1, hSt.1]
   have hkl : (k : Int) < (lA.length : Int) := by omega
   have hkB : k < lB.length := by have := HL.out; omega
   have HOWN := hide (HR'.out.below ((Below.refl wr.heap.size wr).drew)).own
   have HSNE : Hid (some S ≠ td'.ownBlock) := HR'.out.ne hSN
   have HML : Hid (MapAt wr q L ∧ L.length = h.length) := ⟨hM, hSt.1⟩
   have HQS : Hid (q ≠ S) := fun e => by
    obtain ⟨es, clk, h1, _⟩ := hM
    subst e
    unfold Blk at hB
    rw [h1] at hB; cases hB
   have HNQ : Hid (some q ≠ td'.ownBlock) := HR'.out.ne hqN
   have HB1S : Hid (b1 ≠ S) := by
    rcases HS1'.out.blk (by omega) with h1 | h1
    ·exact h1.2.1
    ·unfold Hid; omega
   have HB2S : Hid (b2 ≠ S) := by
    rcases HS2'.out.blk (by omega) with h1 | h1
    ·exact h1.2.1
    ·unfold Hid; omega
   have HNB1 : Hid (some b1 ≠ td'.ownBlock) := by
    rcases HS1'.out.blk (by omega) with h1 | h1
    ·exact HR'.out.ne h1.1
    ·exact h1.2
   have HNB2 : Hid (some b2 ≠ td'.ownBlock) := by
    rcases HS2'.out.blk (by omega) with h1 | h1
    ·exact HR'.out.ne h1.1
    ·exact h1.2
   clear hR' hY' hC' hx' hs1' hs2' hsx1 hsx2 hB hM hSt hg hYl
   have HST : Hid (∀ (g cap : Nat) (w3 : World), w3.ownsRow N 129 5 (.slice (some ⟨g, 0, none⟩) (cs'.length + 1) cap) (cs'.length + 1) (flat5 cs' ++ enc5 ((⟨lA[k], lB[k]⟩, (x1, d1), (x2, d2)), h.length)) → (wr.drew.alloc (.cells #[.string lA[k].name, .slice x1 lA[k].args.length d1, .string lB[k].name, .slice x2 lB[k].args.length d2, .int .i64 (h.length : Int)] 129)).grownBy w3 td'.ownBlock → (td'.ownBlock = some g ∨ g = (wr.drew.alloc (.cells #[.string lA[k].name, .slice x1 lA[k].args.length d1, .string lB[k].name, .slice x2 lB[k].args.length d2, .int .i64 (h.length : Int)] 129)).heap.size) → AhInv S q N h cs Y td w lA lB (some ⟨b1, o1, none⟩) (some ⟨b2, o2, none⟩) (.int .i64 ((k : Int) - 1)) (w3.setCell ⟨S, 0, none⟩ (.slice (some ⟨g, 0, none⟩) (cs'.length + 1) cap))) := fun g cap w3 h1 h2 h3 => ah_step hSN hqN HL.out hk HE'.out HR'.out HY'.out HC'.out HS1'.out HS2'.out HX'.out hN' hNw HOB.out HX1.out HX2.out h1 h2 h3
   unfold enc5 at HST
   generalize lA[k] = tA at *
   generalize lB[k] = tB at *
   generalize flat5 cs' = fl at *
   dsimp only at HST
   clear HX1 HX2 HE' HR' HY' HC' HX' HS1' HS2' HE HR HY HS1 HS2
   have hS0 : FvS S q b1 b2 (o1 + k * 2) (o2 + k * 2) tA tB x1 x2 d1 d2 h.length wr.drew := ⟨s1, p0, p1, r0, r1, hlen⟩
   have hqb : ∀ W : World, W.heap[q]? = wr.heap[q]? → Sem.run Tryz.prog (Builtin.len_ #[121] 3 #[.map (some q)]) W = .ok (.int .i64 (h.length : Int)) W := fun W hW => by
    rw [run_len Tryz.underlying121 (HML.out.1.kept hW), HML.out.2]
   have KP : Hid (∀ W : World, W.heap[S]? = wr.heap[S]? → W.heap[b1]? = wr.heap[b1]? → W.heap[b2]? = wr.heap[b2]? → W.heap[q]? = wr.heap[q]? → FvS S q b1 b2 (o1 + k * 2) (o2 + k * 2) tA tB x1 x2 d1 d2 h.length W) := fun W h1 h2 h3 h4 => ⟨by rw [World.cell?_of_block h1]; exact s1, by rw [World.cell?_of_block h2]; exact p0, by rw [World.cell?_of_block h2]; exact p1, by rw [World.cell?_of_block h3]; exact r0, by rw [World.cell?_of_block h3]; exact r1, hqb W h4⟩
   have hSl : S < wr.heap.size := HB.out.lt
   have hb1l : b1 < wr.heap.size := cell_lt p0
   have hb2l : b2 < wr.heap.size := cell_lt r0
   have hqll : q < wr.heap.size := HML.out.1.lt
   have HSA : Hid (∀ o, FvS S q b1 b2 (o1 + k * 2) (o2 + k * 2) tA tB x1 x2 d1 d2 h.length (wr.drew.alloc o)) := fun o => KP.out (wr.drew.alloc o) (Below.heap_alloc _ _ _ (by simpa using hSl)) (Below.heap_alloc _ _ _ (by simpa using hb1l)) (Below.heap_alloc _ _ _ (by simpa using hb2l)) (Below.heap_alloc _ _ _ (by simpa using hqll))
   have KG : Hid (∀ (o : Obj) (w3 : World), (wr.drew.alloc o).grownBy w3 td'.ownBlock → w3.heap[S]? = wr.heap[S]? ∧ w3.heap[b1]? = wr.heap[b1]? ∧ w3.heap[b2]? = wr.heap[b2]? ∧ w3.heap[q]? = wr.heap[q]?) := fun o w3 hg => ⟨(hg.block S (by simp; omega) HSNE.out).trans (Below.heap_alloc _ _ _ (by simpa using hSl)), (hg.block b1 (by simp; omega) HNB1.out).trans (Below.heap_alloc _ _ _ (by simpa using hb1l)), (hg.block b2 (by simp; omega) HNB2.out).trans (Below.heap_alloc _ _ _ (by simpa using hb2l)), (hg.block q (by simp; omega) HNQ.out).trans (Below.heap_alloc _ _ _ (by simpa using hqll))⟩
   have KS : Hid (∀ (w3 : World) (v : Value), (w3.heap[S]? = wr.heap[S]? ∧ w3.heap[b1]? = wr.heap[b1]? ∧ w3.heap[b2]? = wr.heap[b2]? ∧ w3.heap[q]? = wr.heap[q]?) → FvS S q b1 b2 (o1 + k * 2) (o2 + k * 2) tA tB x1 x2 d1 d2 h.length (w3.setCell ⟨S, 0, none⟩ v)) := fun w3 v hh => by
    obtain ⟨e1, e2, e3, e4, e5, e6⟩ := KP.out w3 hh.1 hh.2.1 hh.2.2.1 hh.2.2.2
    have hb1S : b1 ≠ S := fun e => by have h1 := HB1S.out; exact h1 e
    have hb2S : b2 ≠ S := fun e => by have h1 := HB2S.out; exact h1 e
    refine ⟨(World.cell?_setCell_other _ _ _ _ (by simp)).trans e1, (World.cell?_setCell_other _ _ _ _ (fun e => hb1S (by injection e with e; exact e.symm))).trans e2, (World.cell?_setCell_other _ _ _ _ (fun e => hb1S (by injection e with e; exact e.symm))).trans e3, (World.cell?_setCell_other _ _ _ _ (fun e => hb2S (by injection e with e; exact e.symm))).trans e4, (World.cell?_setCell_other _ _ _ _ (fun e => hb2S (by injection e with e; exact e.symm))).trans e5, hqb _ ?_⟩
    rw [Below.heap_setCell _ _ _ _ (by simpa using HQS.out)]
    exact hh.2.2.2
   clear p0 p1 r0 r1 s1 hlen hqb
   go_wp2_with fail
   refine wp_region_held_drew (S := FvS S q b1 b2 (o1 + k * 2) (o2 + k * 2) tA tB x1 x2 d1 d2 h.length) (by kernel_rfl) hS0 (fun hHeld => ?_)
   clear hS0
   refine tkq (v := ?_) 0 rfl ?_ ?_
   rotate_left
   ·intro w' hSw
    obtain ⟨k1, k2, k3, k4, k5, k6⟩ := hSw
    go_simp <;> with_reducible rfl
   try simp only [Act.put, sq]
   refine tkq (v := ?_) 1 rfl ?_ ?_
   rotate_left
   ·intro w' hSw
    obtain ⟨k1, k2, k3, k4, k5, k6⟩ := hSw
    go_simp <;> with_reducible rfl
   try simp only [Act.put, sq]
   refine tkq (v := ?_) 2 rfl ?_ ?_
   rotate_left
   ·intro w' hSw
    obtain ⟨k1, k2, k3, k4, k5, k6⟩ := hSw
    go_simp <;> with_reducible rfl
   try simp only [Act.put, sq]
   refine tkq (v := ?_) 3 rfl ?_ ?_
   rotate_left
   ·intro w' hSw
    obtain ⟨k1, k2, k3, k4, k5, k6⟩ := hSw
    go_simp <;> with_reducible rfl
   try simp only [Act.put, sq]
   refine tkq (v := ?_) 5 rfl ?_ ?_
   rotate_left
   ·intro w' hSw
    obtain ⟨k1, k2, k3, k4, k5, k6⟩ := hSw
    go_simp <;> with_reducible rfl
   try simp only [Act.put, sq]
   refine tkq (v := ?_) 6 rfl ?_ ?_
   rotate_left
   ·intro w' hSw
    obtain ⟨k1, k2, k3, k4, k5, k6⟩ := hSw
    go_simp <;> with_reducible rfl
   try simp only [Act.put, sq]
   refine tkq (v := ?_) 7 rfl ?_ ?_
   rotate_left
   ·intro w' hSw
    obtain ⟨k1, k2, k3, k4, k5, k6⟩ := hSw
    go_simp <;> with_reducible rfl
   try simp only [Act.put, sq]
   refine tkq (v := ?_) 8 rfl ?_ ?_
   rotate_left
   ·intro w' hSw
    obtain ⟨k1, k2, k3, k4, k5, k6⟩ := hSw
    go_simp <;> with_reducible rfl
   try simp only [Act.put, sq]
   refine tkq (v := ?_) 9 rfl ?_ ?_
   rotate_left
   ·intro w' hSw
    obtain ⟨k1, k2, k3, k4, k5, k6⟩ := hSw
    go_simp <;> with_reducible rfl
   try simp only [Act.put, sq]
   refine tkq (v := ?_) 10 rfl ?_ ?_
   rotate_left
   ·intro w' hSw
    obtain ⟨k1, k2, k3, k4, k5, k6⟩ := hSw
    go_simp <;> with_reducible rfl
   try simp only [Act.put, sq]
   refine tkq (v := ?_) 11 rfl ?_ ?_
   rotate_left
   ·intro w' hSw
    obtain ⟨k1, k2, k3, k4, k5, k6⟩ := hSw
    go_simp <;> with_reducible rfl
   try simp only [Act.put, sq]
   refine tkq (v := ?_) 12 rfl ?_ ?_
   rotate_left
   ·intro w' hSw
    obtain ⟨k1, k2, k3, k4, k5, k6⟩ := hSw
    go_simp <;> with_reducible rfl
   try simp only [Act.put, sq]
   refine tkq (v := ?_) 13 rfl ?_ ?_
   rotate_left
   ·intro w' hSw
    obtain ⟨k1, k2, k3, k4, k5, k6⟩ := hSw
    go_simp <;> with_reducible rfl
   try simp only [Act.put, sq]
   refine tkq (v := ?_) 14 rfl ?_ ?_
   rotate_left
   ·intro w' hSw
    obtain ⟨k1, k2, k3, k4, k5, k6⟩ := hSw
    go_simp <;> with_reducible rfl
   try simp only [Act.put, sq]
   refine tkq (v := ?_) 15 rfl ?_ ?_
   rotate_left
   ·intro w' hSw
    obtain ⟨k1, k2, k3, k4, k5, k6⟩ := hSw
    go_simp <;> with_reducible rfl
   try simp only [Act.put, sq]
   refine tkq (v := ?_) 16 rfl ?_ ?_
   rotate_left
   ·intro w' hSw
    obtain ⟨k1, k2, k3, k4, k5, k6⟩ := hSw
    go_simp <;> with_reducible rfl
   try simp only [Act.put, sq]
   refine tkq (v := ?_) 17 rfl ?_ ?_
   rotate_left
   ·intro w' hSw
    obtain ⟨k1, k2, k3, k4, k5, k6⟩ := hSw
    go_simp <;> with_reducible rfl
   try simp only [Act.put, sq]
   refine tkq (v := ?_) 18 rfl ?_ ?_
   rotate_left
   ·intro w' hSw
    obtain ⟨k1, k2, k3, k4, k5, k6⟩ := hSw
    go_simp <;> with_reducible rfl
   try simp only [Act.put, sq]
   refine wpAnyH_ready (rs := [4, 19]) (by kernel_rfl) (by simp) ?_
   refine AllReadyH.cons rfl (fun K hK => ?_) (AllReadyH.cons rfl (fun K hK => ?_) AllReadyH.nil)
   ·go_simp
    refine hK.out _ _ (by exact hHeld) (fun hHeld => ?_)
    clear hK K
    try simp only [Act.put, sq]
    refine rdq 19 rfl fun K hK => ?_
    go_simp
    refine hK.out _ _ (by exact HSA.out _) (fun hHeld => ?_)
    clear hK K
    try simp only [Act.put, sq]
    refine rdq 20 rfl fun K hK => ?_
    refine step_append_lies _ rfl _ _ 122 rfl N 129 i0 _ 5 88 Tryz.underlying122 hi0 hz0 hz1 hz2 rfl (by decide) td' cs'.length fl rfl (by exact HOWN.out.alloc _) ⟨wr.heap.size, 0, none⟩ 1 1 [.string tA.name, .slice x1 tA.args.length d1, .string tB.name, .slice x2 tB.args.length d2, .int .i64 (h.length : Int)] rfl rfl (by exact cell_five_new _ _ _ _ _ _ _) (fun x hx => by simp at hx; rcases hx with rfl | rfl | rfl | rfl | rfl <;> rfl) (by decide) (by have := HLC.out; unfold maxLen; omega) (by have := HLC.out; omega) (by simp; omega) _ rfl ?_
    intro g cap w3 hown3 hgrow3 hat3 hlt3
    have hB3 := hide (((HB.out.drewN 1).alloc _).grown hgrow3 HSNE.out)
    have hc5 : w3.cell? ⟨S, 0, none⟩ = some td' := hB3.out.cell 0
    have hf5 := hB3.out.frozen 0
    have HS9 := hide (HST.out g cap w3 hown3 hgrow3 hat3)
    have HK3 := hide (KG.out _ _ hgrow3)
    refine hK.out _ _ (by exact KP.out w3 HK3.out.1 HK3.out.2.1 HK3.out.2.2.1 HK3.out.2.2.2) (fun hHeld => ?_)
    clear hown3 hgrow3 hat3 hB3 hlt3
    clear hK K
    try simp only [Act.put, sq]
    refine tkq (v := ?_) 21 rfl ?_ ?_
    rotate_left
    ·intro w' hSw
     obtain ⟨k1, k2, k3, k4, k5, k6⟩ := hSw
     go_simp <;> with_reducible rfl
    try simp only [Act.put, sq]
    refine tkq (v := ?_) 22 rfl ?_ ?_
    rotate_left
    ·intro w' hSw
     obtain ⟨k1, k2, k3, k4, k5, k6⟩ := hSw
     go_simp <;> with_reducible rfl
    try simp only [Act.put, sq]
    refine rdq 23 rfl fun K hK => ?_
    go_simp
    refine hK.out _ _ (by exact KS.out w3 _ HK3.out) (fun hHeld => ?_)
    clear hK K
    try simp only [Act.put, sq]
    refine wpAnyH_done (by kernel_rfl) ?_ _
    clear hHeld hc5 hf5
    go_wp2_with fail
    go_roundw
    case rel => exact HS9.out
    case measure => simp [intOf]
   ·go_simp
    refine hK.out _ _ (by exact HSA.out _) (fun hHeld => ?_)
    clear hK K
    try simp only [Act.put, sq]
    refine rdq 4 rfl fun K hK => ?_
    go_simp
    refine hK.out _ _ (by exact HSA.out _) (fun hHeld => ?_)
    clear hK K
    try simp only [Act.put, sq]
    refine rdq 20 rfl fun K hK => ?_
    refine step_append_lies _ rfl _ _ 122 rfl N 129 i0 _ 5 88 Tryz.underlying122 hi0 hz0 hz1 hz2 rfl (by decide) td' cs'.length fl rfl (by exact HOWN.out.alloc _) ⟨wr.heap.size, 0, none⟩ 1 1 [.string tA.name, .slice x1 tA.args.length d1, .string tB.name, .slice x2 tB.args.length d2, .int .i64 (h.length : Int)] rfl rfl (by exact cell_five_new _ _ _ _ _ _ _) (fun x hx => by simp at hx; rcases hx with rfl | rfl | rfl | rfl | rfl <;> rfl) (by decide) (by have := HLC.out; unfold maxLen; omega) (by have := HLC.out; omega) (by simp; omega) _ rfl ?_
    intro g cap w3 hown3 hgrow3 hat3 hlt3
    have hB3 := hide (((HB.out.drewN 1).alloc _).grown hgrow3 HSNE.out)
    have hc5 : w3.cell? ⟨S, 0, none⟩ = some td' := hB3.out.cell 0
    have hf5 := hB3.out.frozen 0
    have HS9 := hide (HST.out g cap w3 hown3 hgrow3 hat3)
    have HK3 := hide (KG.out _ _ hgrow3)
    refine hK.out _ _ (by exact KP.out w3 HK3.out.1 HK3.out.2.1 HK3.out.2.2.1 HK3.out.2.2.2) (fun hHeld => ?_)
    clear hown3 hgrow3 hat3 hB3 hlt3
    clear hK K
    try simp only [Act.put, sq]
    refine tkq (v := ?_) 21 rfl ?_ ?_
    rotate_left
    ·intro w' hSw
     obtain ⟨k1, k2, k3, k4, k5, k6⟩ := hSw
     go_simp <;> with_reducible rfl
    try simp only [Act.put, sq]
    refine tkq (v := ?_) 22 rfl ?_ ?_
    rotate_left
    ·intro w' hSw
     obtain ⟨k1, k2, k3, k4, k5, k6⟩ := hSw
     go_simp <;> with_reducible rfl
    try simp only [Act.put, sq]
    refine rdq 23 rfl fun K hK => ?_
    go_simp
    refine hK.out _ _ (by exact KS.out w3 _ HK3.out) (fun hHeld => ?_)
    clear hK K
    try simp only [Act.put, sq]
    refine wpAnyH_done (by kernel_rfl) ?_ _
    clear hHeld hc5 hf5
    go_wp2_with fail
    go_roundw
    case rel => exact HS9.out
    case measure => simp [intOf]
end Go.Proofs.YtdebiiodhkcnkaaGreat
