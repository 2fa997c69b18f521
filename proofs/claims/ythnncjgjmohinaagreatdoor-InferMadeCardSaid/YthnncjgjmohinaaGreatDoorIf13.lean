import Derived.Test.YthnncjgjmohinaaGreatDoorZInferMadeOwn
import Derived.Test.YthnncjgjmohinaaGreatDoorIf12
import Derived.Test.YthnncjgjmohinaaGreatDoorZBInferMadeOwn
namespace Go.Proofs.YthnncjgjmohinaaGreatDoor
open Go.RowKit
set_option linter.unusedSimpArgs false
set_option linter.unusedVariables false
set_option maxRecDepth 8000
theorem FR.of_runI : ∀ (n : Nat) (s : List Bd) (l : List Pr) (e : Int) (sf : List Bd), uRun false n s l = some (e, sf) → e ≠ 8 → FR s l e sf
 | 0, _, _, _, _, h, _ => by cases h
 | n + 1, s, [], e, sf, h, _ => by
  rw [uRun] at h
  cases h
  exact FR.done s
 | n + 1, s, p :: l, e, sf, h, h8 => by
  rw [uRun, uNext_cons] at h
  by_cases hz : 2000 < sizeL [onT s p.l] ∨ 2000 < sizeL [onT s p.r]
  ·unfold uPair at h
   rw [if_pos hz] at h
   cases h
   exact absurd rfl h8
  ·rw [uPair_of (by omega) (by omega)] at h
   cases hf : fPair s (onT s p.l) (onT s p.r) with
   | go s' l' =>
    rw [hf] at h
    exact FR.step hf (FR.of_runI n s' (l' ++ l) e sf h h8)
   | stop e' =>
    rw [hf] at h
    cases h
    exact FR.stop hf
theorem ok_runI {n : Nat} {l : List Pr} {R : Int × List Bd} (h : uRun false n [] l = some R) (h0 : R.1 = 0) (he : errL (flatP l) = 0) : OkS R.2 :=
 ((FR.of_runI n [] l R.1 R.2 h (by rw [h0]; decide)).run okS_nil he).1.1
theorem once_of {ls : List Bd} (h : ApartB ls) : Once ls := by
 intro k hk
 have key : ∀ (l : List Bd) (n : ByteArray), (∀ d ∈ l, d.nm ≠ n) → forT l n = none := by
  intro l n
  induction l with
  | nil => intro _; rfl
  | cons d r ih =>
   intro h
   rw [forT, if_neg (h d (by simp))]
   exact ih fun e he => h e (by simp [he])
 refine key _ _ fun d hd => ?_
 obtain ⟨i, hi, rfl⟩ := List.getElem_of_mem hd
 rw [List.length_take] at hi
 rw [List.getElem_take]
 exact List.pairwise_iff_getElem.1 h i k (by omega) hk (by omega)
def outI (R : Int × List Bd) (x : Tm) : Int × Ty := if grtB R.2 = true then (8, noY) else outY R x
def RgF (x : Tm) (V : Nat) (w6 : World) (o : Value) (w' : World) : Prop :=
 ExQ (fun b => b = V) w6 w' ∧ ((2000 < sizeL [x] ∧ o = .bool false) ∨ (sizeL [x] ≤ 2000 ∧ o = .bool true ∧ ∃ a c, Blk w' V #[.string x.name, .slice a x.args.length c] 48 ∧ Sl w' (fun b => b ≠ V) a x.args))
set_option maxHeartbeats 8000000 in
theorem prinI_any {B : Nat} {t : Lm} (he : errM 0 0 [t] = 0) (hc : csL [t] = false) (hz : sizeM [t] ≤ 60) (R : Int × List Bd) (g : Nat) (hR : uRun false g [] (tyT 86 t [] 0).2.1 = some R) (v : Value) (w : World) (X : Nat → Prop) (hv : MV w X v t) (hB : B ≤ w.heap.size) (hT : Tb B w) :
  Calls Tryz.prog 51 #[v] w fun e w' => PrP (outI R (tyT 86 t [] 0).1) w e w' := by
 obtain ⟨a, c, rfl, hs⟩ := hv
 have HV := hide (show MV w (fun b => X b ∧ b < w.heap.size) (.agg #[.int .i64 t.kind, .int .i64 t.idx, .slice a t.subs.length c]) t from ⟨a, c, rfl, hs.mono fun b h1 h2 => ⟨h1, h2⟩⟩)
 have HP := hide (ty_pairs (p := 86) (Or.inr rfl) he hc hz)
 have HOK := hide (ty_ok (p := 86) (Or.inr rfl) t [] 0 he hc (fun a ha => by simp at ha) (by omega))
 have HKN := hide (ty_kn (p := 86) (Or.inr rfl) t [] 0 he hc KnL.nil)
 have HE := hide he
 have HC := hide hc
 have HR := hide hR
 have HTB := hide (show Tb w.heap.size w from fun w' h => hT w' (h.mono hB))
 clear hs hR he hc hT
 have B2 : Hid (Below w.heap.size w ((w.alloc (.cells #[.int .i64 t.kind, .int .i64 t.idx, .slice a t.subs.length c] 25)).alloc (.cells #[.int .i64 0, .slice none 0 0] 30))) := ((Below.refl _ _).alloc (Nat.le_refl _) _).alloc (by simp) _
 have hz2 : ((w.alloc (.cells #[.int .i64 t.kind, .int .i64 t.idx, .slice a t.subs.length c] 25)).alloc (.cells #[.int .i64 0, .slice none 0 0] 30)).heap.size = w.heap.size + 1 + 1 := by simp
 have K3 : Hid (AsK (fun _ => False) (((w.alloc (.cells #[.int .i64 t.kind, .int .i64 t.idx, .slice a t.subs.length c] 25)).alloc (.cells #[.int .i64 0, .slice none 0 0] 30)).alloc (.cells #[.slice none 0 0, .int .i64 0] 102)) w.heap.size (w.heap.size + 1 + 1) 102 0 (.slice none 0 0) []) := by have h := askStart ((w.alloc (.cells #[.int .i64 t.kind, .int .i64 t.idx, .slice a t.subs.length c] 25)).alloc (.cells #[.int .i64 0, .slice none 0 0] 30)) w.heap.size 102 (by simp; omega); rw [hz2] at h; exact h
 have B3 : Hid (Below w.heap.size w (((w.alloc (.cells #[.int .i64 t.kind, .int .i64 t.idx, .slice a t.subs.length c] 25)).alloc (.cells #[.int .i64 0, .slice none 0 0] 30)).alloc (.cells #[.slice none 0 0, .int .i64 0] 102))) := B2.out.alloc B2.out.size _
 have A3 : Hid (Blk (((w.alloc (.cells #[.int .i64 t.kind, .int .i64 t.idx, .slice a t.subs.length c] 25)).alloc (.cells #[.int .i64 0, .slice none 0 0] 30)).alloc (.cells #[.slice none 0 0, .int .i64 0] 102)) w.heap.size #[.int .i64 t.kind, .int .i64 t.idx, .slice a t.subs.length c] 25) := ((Blk.new _ _ _).alloc _).alloc _
 have R3 : Hid (Blk (((w.alloc (.cells #[.int .i64 t.kind, .int .i64 t.idx, .slice a t.subs.length c] 25)).alloc (.cells #[.int .i64 0, .slice none 0 0] 30)).alloc (.cells #[.slice none 0 0, .int .i64 0] 102)) (w.heap.size + 1) #[.int .i64 0, .slice none 0 0] 30) := by have h := (Blk.new (w.alloc (.cells #[.int .i64 t.kind, .int .i64 t.idx, .slice a t.subs.length c] 25)) #[.int .i64 0, .slice none 0 0] 30).alloc (.cells #[.slice none 0 0, .int .i64 0] 102); rw [World.size_alloc] at h; exact h
 clear hz2
 go_enter Tryz.func51, Tryz.ntmps51
 go_upto_region 2 with fail
 generalize (((w.alloc (.cells #[.int .i64 t.kind, .int .i64 t.idx, .slice a t.subs.length c] 25)).alloc (.cells #[.int .i64 0, .slice none 0 0] 30)).alloc (.cells #[.slice none 0 0, .int .i64 0] 102)) = w3 at *
 have x0 := A3.out.c0
 have x1 := A3.out.c1
 have x2 := A3.out.c2
 go_wp2_with fail
 refine (typeI_any (B := w.heap.size) t (fun _ => False) w.heap.size (w.heap.size + 1 + 1) 0 (.slice none 0 0) _ [] [] none 0 w3 (fun b => X b ∧ b < w.heap.size) (by simpa using HE.out) HC.out (by omega) (by simp; omega) (by simp; omega) (by simp) (HV.out.later B3.out) (fun x hx => hx.2) (Nat.le_refl _) (HTB.out.on B3.out) K3.out ⟨by simp, Or.inl rfl⟩ (fun b hb => hb.elim)).mono ?_
 rintro e w4 ⟨a4, c4, q4, cs4, rfl, hs4, hk4, hm4, hf4⟩
 simp only [List.map_nil, List.nil_append] at hm4
 obtain ⟨r, hr⟩ : ∃ r, r = tyT 86 t [] 0 := ⟨_, rfl⟩
 rw [← hr] at hs4 hk4 hm4 HP HOK HKN HR ⊢
 have HRR := hide hr
 clear hr
 have O5 : Hid (Below w4.heap.size w4 (w4.alloc (.cells #[.string r.1.name, .slice a4 r.1.args.length c4] 48))) := (Below.refl _ _).alloc (Nat.le_refl _) _
 have HVL0 : Hid (w.heap.size + 1 + 1 < w4.heap.size) := hk4.box.lt
 have V5 : Hid (Blk (w4.alloc (.cells #[.string r.1.name, .slice a4 r.1.args.length c4] 48)) w4.heap.size #[.string r.1.name, .slice a4 r.1.args.length c4] 48) := Blk.new _ _ _
 have K5 := hide (hk4.later O5.out)
 have S5 := hide ((hs4.mono (Y := fun b => b ≠ w4.heap.size) fun b hb hlt => by omega).later O5.out)
 have M5 := hide hm4
 have B5 : Hid (Below w.heap.size w (w4.alloc (.cells #[.string r.1.name, .slice a4 r.1.args.length c4] 48))) := B3.out.trans (((K3.out.below hf4)).trans (O5.out.mono (Nat.le_trans B3.out.size hf4.1.size)))
 have R5 : Hid (Blk (w4.alloc (.cells #[.string r.1.name, .slice a4 r.1.args.length c4] 48)) (w.heap.size + 1) #[.int .i64 0, .slice none 0 0] 30) := (R3.out.exq hf4.1 (fun h => by rcases h with h | h; omega; simp [Value.ownBlock] at h)).alloc _
 clear hs4 hk4 hm4 hf4 K3 A3 R3 x0 x1 x2 B2 B3 HV
 skip
 go_upto_region 3 with fail
 generalize w4.heap.size = V at *
 generalize w4.alloc (.cells #[.string r.1.name, .slice a4 r.1.args.length c4] 48) = w5 at *
 have HVL : Hid (w.heap.size + 1 + 1 < V) := HVL0
 have p0 : w5.cell? ⟨w.heap.size + 1 + 1, 0, none⟩ = some q4 := K5.out.box.cell 0
 have QV5 : Hid (QV w5 (fun _ => True) q4 r.2.1) := by have h := K5.out.qv; rw [M5.out] at h; exact h
 have HFE := hide (pairs_start HP.out).1
 go_wp2_with fail
 refine (eSolve_any HP.out R g HR.out q4 w5 _ QV5.out).mono ?_
 rintro e w6 ⟨hb6, hpost⟩
 have B6 := hide (B5.out.trans (hb6.mono B5.out.size))
 have R6 := hide (R5.out.below hb6 R5.out.lt)
 have V6 := hide (V5.out.below hb6 V5.out.lt)
 have S6 := hide (S5.out.later hb6)
 have HV5 : Hid (V < w5.heap.size) := V5.out.lt
 clear hb6 p0 B5 R5 V5 S5 K5 QV5
 rcases hpost with ⟨hg, rfl⟩ | ⟨hg, h0, rfl⟩ | ⟨hg, h0, u6, rfl, hu6⟩
 ·have HO : Hid (outI R r.1 = (8, noY)) := by unfold Hid outI; rw [if_pos hg]
  clear hg
  have r0 := R6.out.c0
  have r1 := R6.out.c1
  have f0 : w6.frozen? ⟨w.heap.size + 1, 0, none⟩ = false := R6.out.frozen 0
  have f1 : w6.frozen? ⟨w.heap.size + 1, 1, none⟩ = false := R6.out.frozen 1
  go_wp2_with fail
  have R7 : Hid (Blk ((w6.setCell ⟨w.heap.size + 1, 0, none⟩ (.int .i64 0)).setCell ⟨w.heap.size + 1, 1, none⟩ (.slice none 0 0)) (w.heap.size + 1) #[.int .i64 0, .slice none 0 0] 30) := (R6.out.set 0 _).set 1 _
  have B7 : Hid (Below w.heap.size w ((w6.setCell ⟨w.heap.size + 1, 0, none⟩ (.int .i64 0)).setCell ⟨w.heap.size + 1, 1, none⟩ (.slice none 0 0))) := belSetI (belSetI B6.out (by omega) 0 _) (by omega) 1 _
  generalize ((w6.setCell ⟨w.heap.size + 1, 0, none⟩ (.int .i64 0)).setCell ⟨w.heap.size + 1, 1, none⟩ (.slice none 0 0)) = w7 at *
  have c0 := R7.out.cell 0
  have c1 := R7.out.cell 1
  simp only [List.getElem?_toArray, List.getElem?_cons_zero, List.getElem?_cons_succ] at c0 c1
  refine bodyPost_ret (v := .tuple #[.agg #[.int .i64 0, .slice none 0 0], .int .i64 8]) (by simp [results, Tryz.results51, go_sem, c0, c1]) rfl ?_
  refine ⟨none, 0, ?_, ?_, B7.out⟩
  ·rw [← HRR.out, HO.out]; rfl
  ·rw [← HRR.out, HO.out]; exact ⟨by simp [noY], Or.inl rfl⟩
 ·by_cases h6 : R.1 = 6
  ·have HO : Hid (outI R r.1 = (11, noY)) := by unfold Hid outI outY; rw [if_neg (by rw [hg]; decide), if_pos h6]
   rw [h6]
   clear h6 h0 hg
   have r0 := R6.out.c0
   have r1 := R6.out.c1
   have f0 : w6.frozen? ⟨w.heap.size + 1, 0, none⟩ = false := R6.out.frozen 0
   have f1 : w6.frozen? ⟨w.heap.size + 1, 1, none⟩ = false := R6.out.frozen 1
   go_wp2_with fail
   have R7 : Hid (Blk ((w6.setCell ⟨w.heap.size + 1, 0, none⟩ (.int .i64 0)).setCell ⟨w.heap.size + 1, 1, none⟩ (.slice none 0 0)) (w.heap.size + 1) #[.int .i64 0, .slice none 0 0] 30) := (R6.out.set 0 _).set 1 _
   have B7 : Hid (Below w.heap.size w ((w6.setCell ⟨w.heap.size + 1, 0, none⟩ (.int .i64 0)).setCell ⟨w.heap.size + 1, 1, none⟩ (.slice none 0 0))) := belSetI (belSetI B6.out (by omega) 0 _) (by omega) 1 _
   generalize ((w6.setCell ⟨w.heap.size + 1, 0, none⟩ (.int .i64 0)).setCell ⟨w.heap.size + 1, 1, none⟩ (.slice none 0 0)) = w7 at *
   have c0 := R7.out.cell 0
   have c1 := R7.out.cell 1
   simp only [List.getElem?_toArray, List.getElem?_cons_zero, List.getElem?_cons_succ] at c0 c1
   refine bodyPost_ret (v := .tuple #[.agg #[.int .i64 0, .slice none 0 0], .int .i64 11]) (by simp [results, Tryz.results51, go_sem, c0, c1]) rfl ?_
   refine ⟨none, 0, ?_, ?_, B7.out⟩
   ·rw [← HRR.out, HO.out]; rfl
   ·rw [← HRR.out, HO.out]; exact ⟨by simp [noY], Or.inl rfl⟩
  ·have HO : Hid (outI R r.1 = (R.1, noY)) := by unfold Hid outI outY; rw [if_neg (by rw [hg]; decide), if_neg h6, if_pos h0]
   have e6 : (R.1 == 6) = false := by simpa using h6
   have e0 : (R.1 != 0) = true := by simpa using h0
   have e0' : (R.1 == 0) = false := by simpa using h0
   clear h6 h0 hg
   have r0 := R6.out.c0
   have r1 := R6.out.c1
   have f0 : w6.frozen? ⟨w.heap.size + 1, 0, none⟩ = false := R6.out.frozen 0
   have f1 : w6.frozen? ⟨w.heap.size + 1, 1, none⟩ = false := R6.out.frozen 1
   go_wp2_with fail
   have R7 : Hid (Blk ((w6.setCell ⟨w.heap.size + 1, 0, none⟩ (.int .i64 0)).setCell ⟨w.heap.size + 1, 1, none⟩ (.slice none 0 0)) (w.heap.size + 1) #[.int .i64 0, .slice none 0 0] 30) := (R6.out.set 0 _).set 1 _
   have B7 : Hid (Below w.heap.size w ((w6.setCell ⟨w.heap.size + 1, 0, none⟩ (.int .i64 0)).setCell ⟨w.heap.size + 1, 1, none⟩ (.slice none 0 0))) := belSetI (belSetI B6.out (by omega) 0 _) (by omega) 1 _
   generalize ((w6.setCell ⟨w.heap.size + 1, 0, none⟩ (.int .i64 0)).setCell ⟨w.heap.size + 1, 1, none⟩ (.slice none 0 0)) = w7 at *
   have c0 := R7.out.cell 0
   have c1 := R7.out.cell 1
   simp only [List.getElem?_toArray, List.getElem?_cons_zero, List.getElem?_cons_succ] at c0 c1
   refine bodyPost_ret (v := .tuple #[.agg #[.int .i64 0, .slice none 0 0], .int .i64 R.1]) (by simp [results, Tryz.results51, go_sem, c0, c1]) rfl ?_
   refine ⟨none, 0, ?_, ?_, B7.out⟩
   ·rw [← HRR.out, HO.out]; rfl
   ·rw [← HRR.out, HO.out]; exact ⟨by simp [noY], Or.inl rfl⟩
 ·have U6 := hide (hu6.mono (Y := fun b => b ≠ V) fun b hb _ => fun e => by have h1 := HV5.out; omega)
  have HS := hide (ok_runI HR.out h0 HFE.out)
  have HON := hide (once_of HS.out.1)
  have HKB := hide (uRun_kn false g (s := []) (fun d hd => by simp at hd) HKN.out.2 HR.out)
  have HFT : Hid (fT R.2 r.1 = onT R.2 r.1) := fT_onI (fun d hd => (HS.out.2.1 d hd).1) HKN.out.1
  obtain ⟨x, hx⟩ : ∃ x, x = onT R.2 r.1 := ⟨_, rfl⟩
  rw [← hx] at HFT
  have HKX : Hid (KnL [x]) := by rw [hx]; exact onT_kn HKB.out HKN.out.1
  have HXX := hide hx
  have H0 := hide h0
  have HG := hide hg
  clear hx h0 hg hu6
  go_upto_region 8 with fail
  go_cut [8] (fun o w9 => RgF x V w6 o w9)
  case first =>
   have kd : Below w6.heap.size w6 w6.drew := (Below.refl _ _).drew
   refine wp_region_held_drew (S := fun _ => True) (by kernel_rfl) trivial (fun hHeld => ?_)
   refine tkq (v := ?_) 1 rfl ?_ ?_
   rotate_left
   ·intro w' hSw
    go_simp <;> with_reducible rfl
   try simp only [Act.put, sq]
   refine wpAnyH_ready (rs := [0, 2]) (by kernel_rfl) (by simp) ?_
   refine AllReadyH.cons rfl (fun K hK => ?_) (AllReadyH.cons rfl (fun K hK => ?_) AllReadyH.nil)
   ·have y0 : w6.drew.cell? ⟨V, 0, none⟩ = some (.string r.1.name) := (V6.out.below kd V6.out.lt).cell 0
    have y1 : w6.drew.cell? ⟨V, 1, none⟩ = some (.slice a4 r.1.args.length c4) := (V6.out.below kd V6.out.lt).cell 1
    go_simp
    refine hK.out _ _ (by exact trivial) (fun hHeld => ?_)
    clear hK K
    try simp only [Act.put, sq]
    clear y0 y1
    refine rdq 2 rfl fun K hK => ?_
    go_simp
    go_at_call 66
    refine (byName_any R.2 HON.out u6 w6.drew (fun b => b ≠ V) (U6.out.later kd)).mono ?_
    rintro e w7 ⟨LL, rfl, hm7, hp7, hb7⟩
    have k7 : Below w6.heap.size w6 w7 := kd.trans (hb7.mono kd.size)
    have M7 := hide hm7
    have P7 : Hid (PairsL w7 (fun b => b ≠ V) R.2 LL) := hp7.imp fun a l h => h.mono fun b hb _ => hb.1
    clear hm7 hp7 hb7
    go_simp
    refine hK.out _ _ (by exact trivial) (fun hHeld => ?_)
    clear hK K
    try simp only [Act.put, sq]
    skip
    refine rdq 3 rfl fun K hK => ?_
    go_simp
    go_at_call 65
    refine (look_any _ w7).mono ?_
    rintro e w8 ⟨rfl, hw8⟩
    have B8 : Hid (Blk w8 w7.heap.size #[.map (some w6.drew.heap.size)] 106) := by rw [hw8]; exact Blk.new _ _ _
    have O8 : Hid (Below w7.heap.size w7 w8) := by rw [hw8]; exact (Below.refl _ _).alloc (Nat.le_refl _) _
    have EV8 : Hid (Env w8 w7.heap.size w6.drew.heap.size (fun b => b ≠ V) R.2 LL) := ⟨B8.out, M7.out.below O8.out M7.out.lt, P7.out.imp fun a l h => h.later O8.out⟩
    have k8 : Below w6.heap.size w6 w8 := k7.trans (O8.out.mono k7.size)
    clear hw8 B8
    go_simp
    refine hK.out _ _ (by exact trivial) (fun hHeld => ?_)
    clear hK K
    try simp only [Act.put, sq]
    refine rdq 4 rfl fun K hK => ?_
    have FC := fill_any w7.heap.size w6.drew.heap.size R.2 LL r.1 2000 a4 c4 w8 (fun b => b ≠ V) (by decide) (S6.out.later k8) EV8.out
    rw [HFT.out] at FC
    have HFC := hide FC
    clear FC
    go_simp
    go_at_call 64
    refine HFC.out.mono ?_
    rintro e w9 ⟨hb9, ⟨hsm, a9, c9, rfl, hs9⟩ | ⟨hbig, rfl⟩⟩
    ·have k9 : Below w6.heap.size w6 w9 := k8.trans (hb9.mono k8.size)
     have V9 := hide (V6.out.below k9 V6.out.lt)
     go_simp
     refine hK.out _ _ (by exact trivial) (fun hHeld => ?_)
     clear hK K
     try simp only [Act.put, sq]
     refine tkq (v := ?_) 5 rfl ?_ ?_
     rotate_left
     ·intro w' hSw
      go_simp <;> with_reducible rfl
     try simp only [Act.put, sq]
     refine tkq (v := ?_) 6 rfl ?_ ?_
     rotate_left
     ·intro w' hSw
      go_simp <;> with_reducible rfl
     try simp only [Act.put, sq]
     refine tkq (v := ?_) 7 rfl ?_ ?_
     rotate_left
     ·intro w' hSw
      go_simp <;> with_reducible rfl
     try simp only [Act.put, sq]
     have y0 := V9.out.c0
     have y1 := V9.out.c1
     have f0 : w9.frozen? ⟨V, 0, none⟩ = false := V9.out.frozen 0
     have f1 : w9.frozen? ⟨V, 1, none⟩ = false := V9.out.frozen 1
     have EX : Hid (ExQ (fun b => b = V) w6 ((w9.setCell ⟨V, 0, none⟩ (.string x.name)).setCell ⟨V, 1, none⟩ (.slice a9 x.args.length c9))) := (((ExQ.ofBelow (Q := fun b => b = V) k9).set (B := V) rfl 0 _).set (B := V) rfl 1 _)
     have FIN : Hid (RgF x V w6 (.bool true) ((w9.setCell ⟨V, 0, none⟩ (.string x.name)).setCell ⟨V, 1, none⟩ (.slice a9 x.args.length c9))) := ⟨EX.out, Or.inr ⟨hsm, rfl, a9, c9, (V9.out.set 0 _).set 1 _, (hs9.mono (Y := fun b => b ≠ V) (fun b hb _ e => by have h1 := (V6.out.below k8 V6.out.lt).lt; omega)).kept fun b hb => by rw [Below.heap_setCell _ _ _ _ (by simpa using hb), Below.heap_setCell _ _ _ _ (by simpa using hb)]⟩⟩
     refine rdq 8 rfl fun K hK => ?_
     go_simp
     refine hK.out _ _ (by exact trivial) (fun hHeld => ?_)
     clear hK K
     try simp only [Act.put, sq]
     refine tkq (v := ?_) 9 rfl ?_ ?_
     rotate_left
     ·intro w' hSw
      go_simp <;> with_reducible rfl
     try simp only [Act.put, sq]
     refine wpAnyH_done (by kernel_rfl) ?_ _
     clear y0 y1 f0 f1
     go_wp2_with fail
     go_meet
     exact FIN.out
    ·have k9 : Below w6.heap.size w6 w9 := k8.trans (hb9.mono k8.size)
     have V9 := hide (V6.out.below k9 V6.out.lt)
     go_simp
     refine hK.out _ _ (by exact trivial) (fun hHeld => ?_)
     clear hK K
     try simp only [Act.put, sq]
     refine tkq (v := ?_) 5 rfl ?_ ?_
     rotate_left
     ·intro w' hSw
      go_simp <;> with_reducible rfl
     try simp only [Act.put, sq]
     refine tkq (v := ?_) 6 rfl ?_ ?_
     rotate_left
     ·intro w' hSw
      go_simp <;> with_reducible rfl
     try simp only [Act.put, sq]
     refine tkq (v := ?_) 7 rfl ?_ ?_
     rotate_left
     ·intro w' hSw
      go_simp <;> with_reducible rfl
     try simp only [Act.put, sq]
     have y0 := V9.out.c0
     have y1 := V9.out.c1
     have f0 : w9.frozen? ⟨V, 0, none⟩ = false := V9.out.frozen 0
     have f1 : w9.frozen? ⟨V, 1, none⟩ = false := V9.out.frozen 1
     have EX : Hid (ExQ (fun b => b = V) w6 ((w9.setCell ⟨V, 0, none⟩ (.string ⟨#[]⟩)).setCell ⟨V, 1, none⟩ (.slice none 0 0))) := (((ExQ.ofBelow (Q := fun b => b = V) k9).set (B := V) rfl 0 _).set (B := V) rfl 1 _)
     have FIN : Hid (RgF x V w6 (.bool false) ((w9.setCell ⟨V, 0, none⟩ (.string ⟨#[]⟩)).setCell ⟨V, 1, none⟩ (.slice none 0 0))) := ⟨EX.out, Or.inl ⟨hbig, rfl⟩⟩
     refine rdq 8 rfl fun K hK => ?_
     go_simp
     refine hK.out _ _ (by exact trivial) (fun hHeld => ?_)
     clear hK K
     try simp only [Act.put, sq]
     refine tkq (v := ?_) 9 rfl ?_ ?_
     rotate_left
     ·intro w' hSw
      go_simp <;> with_reducible rfl
     try simp only [Act.put, sq]
     refine wpAnyH_done (by kernel_rfl) ?_ _
     clear y0 y1 f0 f1
     go_wp2_with fail
     go_meet
     exact FIN.out
   ·go_simp
    go_at_call 66
    refine (byName_any R.2 HON.out u6 w6.drew (fun b => b ≠ V) (U6.out.later kd)).mono ?_
    rintro e w7 ⟨LL, rfl, hm7, hp7, hb7⟩
    have k7 : Below w6.heap.size w6 w7 := kd.trans (hb7.mono kd.size)
    have M7 := hide hm7
    have P7 : Hid (PairsL w7 (fun b => b ≠ V) R.2 LL) := hp7.imp fun a l h => h.mono fun b hb _ => hb.1
    clear hm7 hp7 hb7
    go_simp
    refine hK.out _ _ (by exact trivial) (fun hHeld => ?_)
    clear hK K
    try simp only [Act.put, sq]
    skip
    refine wpAnyH_ready (rs := [0, 3]) (by kernel_rfl) (by simp) ?_
    refine AllReadyH.cons rfl (fun K hK => ?_) (AllReadyH.cons rfl (fun K hK => ?_) AllReadyH.nil)
    ·have y0 : w7.cell? ⟨V, 0, none⟩ = some (.string r.1.name) := (V6.out.below k7 V6.out.lt).cell 0
     have y1 : w7.cell? ⟨V, 1, none⟩ = some (.slice a4 r.1.args.length c4) := (V6.out.below k7 V6.out.lt).cell 1
     go_simp
     refine hK.out _ _ (by exact trivial) (fun hHeld => ?_)
     clear hK K
     try simp only [Act.put, sq]
     clear y0 y1
     refine rdq 3 rfl fun K hK => ?_
     go_simp
     go_at_call 65
     refine (look_any _ w7).mono ?_
     rintro e w8 ⟨rfl, hw8⟩
     have B8 : Hid (Blk w8 w7.heap.size #[.map (some w6.drew.heap.size)] 106) := by rw [hw8]; exact Blk.new _ _ _
     have O8 : Hid (Below w7.heap.size w7 w8) := by rw [hw8]; exact (Below.refl _ _).alloc (Nat.le_refl _) _
     have EV8 : Hid (Env w8 w7.heap.size w6.drew.heap.size (fun b => b ≠ V) R.2 LL) := ⟨B8.out, M7.out.below O8.out M7.out.lt, P7.out.imp fun a l h => h.later O8.out⟩
     have k8 : Below w6.heap.size w6 w8 := k7.trans (O8.out.mono k7.size)
     clear hw8 B8
     go_simp
     refine hK.out _ _ (by exact trivial) (fun hHeld => ?_)
     clear hK K
     try simp only [Act.put, sq]
     refine rdq 4 rfl fun K hK => ?_
     have FC := fill_any w7.heap.size w6.drew.heap.size R.2 LL r.1 2000 a4 c4 w8 (fun b => b ≠ V) (by decide) (S6.out.later k8) EV8.out
     rw [HFT.out] at FC
     have HFC := hide FC
     clear FC
     go_simp
     go_at_call 64
     refine HFC.out.mono ?_
     rintro e w9 ⟨hb9, ⟨hsm, a9, c9, rfl, hs9⟩ | ⟨hbig, rfl⟩⟩
     ·have k9 : Below w6.heap.size w6 w9 := k8.trans (hb9.mono k8.size)
      have V9 := hide (V6.out.below k9 V6.out.lt)
      go_simp
      refine hK.out _ _ (by exact trivial) (fun hHeld => ?_)
      clear hK K
      try simp only [Act.put, sq]
      refine tkq (v := ?_) 5 rfl ?_ ?_
      rotate_left
      ·intro w' hSw
       go_simp <;> with_reducible rfl
      try simp only [Act.put, sq]
      refine tkq (v := ?_) 6 rfl ?_ ?_
      rotate_left
      ·intro w' hSw
       go_simp <;> with_reducible rfl
      try simp only [Act.put, sq]
      refine tkq (v := ?_) 7 rfl ?_ ?_
      rotate_left
      ·intro w' hSw
       go_simp <;> with_reducible rfl
      try simp only [Act.put, sq]
      have y0 := V9.out.c0
      have y1 := V9.out.c1
      have f0 : w9.frozen? ⟨V, 0, none⟩ = false := V9.out.frozen 0
      have f1 : w9.frozen? ⟨V, 1, none⟩ = false := V9.out.frozen 1
      have EX : Hid (ExQ (fun b => b = V) w6 ((w9.setCell ⟨V, 0, none⟩ (.string x.name)).setCell ⟨V, 1, none⟩ (.slice a9 x.args.length c9))) := (((ExQ.ofBelow (Q := fun b => b = V) k9).set (B := V) rfl 0 _).set (B := V) rfl 1 _)
      have FIN : Hid (RgF x V w6 (.bool true) ((w9.setCell ⟨V, 0, none⟩ (.string x.name)).setCell ⟨V, 1, none⟩ (.slice a9 x.args.length c9))) := ⟨EX.out, Or.inr ⟨hsm, rfl, a9, c9, (V9.out.set 0 _).set 1 _, (hs9.mono (Y := fun b => b ≠ V) (fun b hb _ e => by have h1 := (V6.out.below k8 V6.out.lt).lt; omega)).kept fun b hb => by rw [Below.heap_setCell _ _ _ _ (by simpa using hb), Below.heap_setCell _ _ _ _ (by simpa using hb)]⟩⟩
      refine rdq 8 rfl fun K hK => ?_
      go_simp
      refine hK.out _ _ (by exact trivial) (fun hHeld => ?_)
      clear hK K
      try simp only [Act.put, sq]
      refine tkq (v := ?_) 9 rfl ?_ ?_
      rotate_left
      ·intro w' hSw
       go_simp <;> with_reducible rfl
      try simp only [Act.put, sq]
      refine wpAnyH_done (by kernel_rfl) ?_ _
      clear y0 y1 f0 f1
      go_wp2_with fail
      go_meet
      exact FIN.out
     ·have k9 : Below w6.heap.size w6 w9 := k8.trans (hb9.mono k8.size)
      have V9 := hide (V6.out.below k9 V6.out.lt)
      go_simp
      refine hK.out _ _ (by exact trivial) (fun hHeld => ?_)
      clear hK K
      try simp only [Act.put, sq]
      refine tkq (v := ?_) 5 rfl ?_ ?_
      rotate_left
      ·intro w' hSw
       go_simp <;> with_reducible rfl
      try simp only [Act.put, sq]
      refine tkq (v := ?_) 6 rfl ?_ ?_
      rotate_left
      ·intro w' hSw
       go_simp <;> with_reducible rfl
      try simp only [Act.put, sq]
      refine tkq (v := ?_) 7 rfl ?_ ?_
      rotate_left
      ·intro w' hSw
       go_simp <;> with_reducible rfl
      try simp only [Act.put, sq]
      have y0 := V9.out.c0
      have y1 := V9.out.c1
      have f0 : w9.frozen? ⟨V, 0, none⟩ = false := V9.out.frozen 0
      have f1 : w9.frozen? ⟨V, 1, none⟩ = false := V9.out.frozen 1
      have EX : Hid (ExQ (fun b => b = V) w6 ((w9.setCell ⟨V, 0, none⟩ (.string ⟨#[]⟩)).setCell ⟨V, 1, none⟩ (.slice none 0 0))) := (((ExQ.ofBelow (Q := fun b => b = V) k9).set (B := V) rfl 0 _).set (B := V) rfl 1 _)
      have FIN : Hid (RgF x V w6 (.bool false) ((w9.setCell ⟨V, 0, none⟩ (.string ⟨#[]⟩)).setCell ⟨V, 1, none⟩ (.slice none 0 0))) := ⟨EX.out, Or.inl ⟨hbig, rfl⟩⟩
      refine rdq 8 rfl fun K hK => ?_
      go_simp
      refine hK.out _ _ (by exact trivial) (fun hHeld => ?_)
      clear hK K
      try simp only [Act.put, sq]
      refine tkq (v := ?_) 9 rfl ?_ ?_
      rotate_left
      ·intro w' hSw
       go_simp <;> with_reducible rfl
      try simp only [Act.put, sq]
      refine wpAnyH_done (by kernel_rfl) ?_ _
      clear y0 y1 f0 f1
      go_wp2_with fail
      go_meet
      exact FIN.out
    ·go_simp
     go_at_call 65
     refine (look_any _ w7).mono ?_
     rintro e w8 ⟨rfl, hw8⟩
     have B8 : Hid (Blk w8 w7.heap.size #[.map (some w6.drew.heap.size)] 106) := by rw [hw8]; exact Blk.new _ _ _
     have O8 : Hid (Below w7.heap.size w7 w8) := by rw [hw8]; exact (Below.refl _ _).alloc (Nat.le_refl _) _
     have EV8 : Hid (Env w8 w7.heap.size w6.drew.heap.size (fun b => b ≠ V) R.2 LL) := ⟨B8.out, M7.out.below O8.out M7.out.lt, P7.out.imp fun a l h => h.later O8.out⟩
     have k8 : Below w6.heap.size w6 w8 := k7.trans (O8.out.mono k7.size)
     clear hw8 B8
     go_simp
     refine hK.out _ _ (by exact trivial) (fun hHeld => ?_)
     clear hK K
     try simp only [Act.put, sq]
     refine rdq 0 rfl fun K hK => ?_
     have y0 : w8.cell? ⟨V, 0, none⟩ = some (.string r.1.name) := (V6.out.below k8 V6.out.lt).cell 0
     have y1 : w8.cell? ⟨V, 1, none⟩ = some (.slice a4 r.1.args.length c4) := (V6.out.below k8 V6.out.lt).cell 1
     go_simp
     refine hK.out _ _ (by exact trivial) (fun hHeld => ?_)
     clear hK K
     try simp only [Act.put, sq]
     clear y0 y1
     refine rdq 4 rfl fun K hK => ?_
     have FC := fill_any w7.heap.size w6.drew.heap.size R.2 LL r.1 2000 a4 c4 w8 (fun b => b ≠ V) (by decide) (S6.out.later k8) EV8.out
     rw [HFT.out] at FC
     have HFC := hide FC
     clear FC
     go_simp
     go_at_call 64
     refine HFC.out.mono ?_
     rintro e w9 ⟨hb9, ⟨hsm, a9, c9, rfl, hs9⟩ | ⟨hbig, rfl⟩⟩
     ·have k9 : Below w6.heap.size w6 w9 := k8.trans (hb9.mono k8.size)
      have V9 := hide (V6.out.below k9 V6.out.lt)
      go_simp
      refine hK.out _ _ (by exact trivial) (fun hHeld => ?_)
      clear hK K
      try simp only [Act.put, sq]
      refine tkq (v := ?_) 5 rfl ?_ ?_
      rotate_left
      ·intro w' hSw
       go_simp <;> with_reducible rfl
      try simp only [Act.put, sq]
      refine tkq (v := ?_) 6 rfl ?_ ?_
      rotate_left
      ·intro w' hSw
       go_simp <;> with_reducible rfl
      try simp only [Act.put, sq]
      refine tkq (v := ?_) 7 rfl ?_ ?_
      rotate_left
      ·intro w' hSw
       go_simp <;> with_reducible rfl
      try simp only [Act.put, sq]
      have y0 := V9.out.c0
      have y1 := V9.out.c1
      have f0 : w9.frozen? ⟨V, 0, none⟩ = false := V9.out.frozen 0
      have f1 : w9.frozen? ⟨V, 1, none⟩ = false := V9.out.frozen 1
      have EX : Hid (ExQ (fun b => b = V) w6 ((w9.setCell ⟨V, 0, none⟩ (.string x.name)).setCell ⟨V, 1, none⟩ (.slice a9 x.args.length c9))) := (((ExQ.ofBelow (Q := fun b => b = V) k9).set (B := V) rfl 0 _).set (B := V) rfl 1 _)
      have FIN : Hid (RgF x V w6 (.bool true) ((w9.setCell ⟨V, 0, none⟩ (.string x.name)).setCell ⟨V, 1, none⟩ (.slice a9 x.args.length c9))) := ⟨EX.out, Or.inr ⟨hsm, rfl, a9, c9, (V9.out.set 0 _).set 1 _, (hs9.mono (Y := fun b => b ≠ V) (fun b hb _ e => by have h1 := (V6.out.below k8 V6.out.lt).lt; omega)).kept fun b hb => by rw [Below.heap_setCell _ _ _ _ (by simpa using hb), Below.heap_setCell _ _ _ _ (by simpa using hb)]⟩⟩
      refine rdq 8 rfl fun K hK => ?_
      go_simp
      refine hK.out _ _ (by exact trivial) (fun hHeld => ?_)
      clear hK K
      try simp only [Act.put, sq]
      refine tkq (v := ?_) 9 rfl ?_ ?_
      rotate_left
      ·intro w' hSw
       go_simp <;> with_reducible rfl
      try simp only [Act.put, sq]
      refine wpAnyH_done (by kernel_rfl) ?_ _
      clear y0 y1 f0 f1
      go_wp2_with fail
      go_meet
      exact FIN.out
     ·have k9 : Below w6.heap.size w6 w9 := k8.trans (hb9.mono k8.size)
      have V9 := hide (V6.out.below k9 V6.out.lt)
      go_simp
      refine hK.out _ _ (by exact trivial) (fun hHeld => ?_)
      clear hK K
      try simp only [Act.put, sq]
      refine tkq (v := ?_) 5 rfl ?_ ?_
      rotate_left
      ·intro w' hSw
       go_simp <;> with_reducible rfl
      try simp only [Act.put, sq]
      refine tkq (v := ?_) 6 rfl ?_ ?_
      rotate_left
      ·intro w' hSw
       go_simp <;> with_reducible rfl
      try simp only [Act.put, sq]
      refine tkq (v := ?_) 7 rfl ?_ ?_
      rotate_left
      ·intro w' hSw
       go_simp <;> with_reducible rfl
      try simp only [Act.put, sq]
      have y0 := V9.out.c0
      have y1 := V9.out.c1
      have f0 : w9.frozen? ⟨V, 0, none⟩ = false := V9.out.frozen 0
      have f1 : w9.frozen? ⟨V, 1, none⟩ = false := V9.out.frozen 1
      have EX : Hid (ExQ (fun b => b = V) w6 ((w9.setCell ⟨V, 0, none⟩ (.string ⟨#[]⟩)).setCell ⟨V, 1, none⟩ (.slice none 0 0))) := (((ExQ.ofBelow (Q := fun b => b = V) k9).set (B := V) rfl 0 _).set (B := V) rfl 1 _)
      have FIN : Hid (RgF x V w6 (.bool false) ((w9.setCell ⟨V, 0, none⟩ (.string ⟨#[]⟩)).setCell ⟨V, 1, none⟩ (.slice none 0 0))) := ⟨EX.out, Or.inl ⟨hbig, rfl⟩⟩
      refine rdq 8 rfl fun K hK => ?_
      go_simp
      refine hK.out _ _ (by exact trivial) (fun hHeld => ?_)
      clear hK K
      try simp only [Act.put, sq]
      refine tkq (v := ?_) 9 rfl ?_ ?_
      rotate_left
      ·intro w' hSw
       go_simp <;> with_reducible rfl
      try simp only [Act.put, sq]
      refine wpAnyH_done (by kernel_rfl) ?_ _
      clear y0 y1 f0 f1
      go_wp2_with fail
      go_meet
      exact FIN.out
  case rest =>
   obtain ⟨hex, ⟨hbig, rfl⟩ | ⟨hsm, rfl, a9, c9, hV9, hs9⟩⟩ := hcut
   ·rename World => w9
    have B9 : Hid (Below w.heap.size w w9) := B6.out.trans (hex.below B6.out.size (fun b hb => by have h1 := HVL.out; omega))
    have R9 : Hid (Blk w9 (w.heap.size + 1) #[.int .i64 0, .slice none 0 0] 30) := R6.out.exq hex (by have h1 := HVL.out; omega)
    have HO : Hid (outI R r.1 = (8, noY)) := by unfold Hid outI outY; rw [if_neg (by rw [HG.out]; decide), if_neg (by rw [H0.out]; decide), if_neg (by rw [H0.out]; decide), if_pos (by rw [← HXX.out]; exact hbig)]
    clear hbig hex B6 R6 V6 U6 S6
    have B6 := B9
    have R6 := R9
    clear B9 R9
    have r0 := R6.out.c0
    have r1 := R6.out.c1
    have f0 : w9.frozen? ⟨w.heap.size + 1, 0, none⟩ = false := R6.out.frozen 0
    have f1 : w9.frozen? ⟨w.heap.size + 1, 1, none⟩ = false := R6.out.frozen 1
    go_wp2_with fail
    have R7 : Hid (Blk ((w9.setCell ⟨w.heap.size + 1, 0, none⟩ (.int .i64 0)).setCell ⟨w.heap.size + 1, 1, none⟩ (.slice none 0 0)) (w.heap.size + 1) #[.int .i64 0, .slice none 0 0] 30) := (R6.out.set 0 _).set 1 _
    have B7 : Hid (Below w.heap.size w ((w9.setCell ⟨w.heap.size + 1, 0, none⟩ (.int .i64 0)).setCell ⟨w.heap.size + 1, 1, none⟩ (.slice none 0 0))) := belSetI (belSetI B6.out (by omega) 0 _) (by omega) 1 _
    generalize ((w9.setCell ⟨w.heap.size + 1, 0, none⟩ (.int .i64 0)).setCell ⟨w.heap.size + 1, 1, none⟩ (.slice none 0 0)) = w7 at *
    have c0 := R7.out.cell 0
    have c1 := R7.out.cell 1
    simp only [List.getElem?_toArray, List.getElem?_cons_zero, List.getElem?_cons_succ] at c0 c1
    refine bodyPost_ret (v := .tuple #[.agg #[.int .i64 0, .slice none 0 0], .int .i64 8]) (by simp [results, Tryz.results51, go_sem, c0, c1]) rfl ?_
    refine ⟨none, 0, ?_, ?_, B7.out⟩
    ·rw [← HRR.out, HO.out]; rfl
    ·rw [← HRR.out, HO.out]; exact ⟨by simp [noY], Or.inl rfl⟩
   ·rename World => w9
    have B9 : Hid (Below w.heap.size w w9) := B6.out.trans (hex.below B6.out.size (fun b hb => by have h1 := HVL.out; omega))
    have R9 : Hid (Blk w9 (w.heap.size + 1) #[.int .i64 0, .slice none 0 0] 30) := R6.out.exq hex (by have h1 := HVL.out; omega)
    have HO : Hid (outI R r.1 = (0, ayT (varsP [] (preL [x])) x)) := by unfold Hid outI outY; rw [if_neg (by rw [HG.out]; decide), if_neg (by rw [H0.out]; decide), if_neg (by rw [H0.out]; decide), if_neg (by rw [← HXX.out]; omega), HXX.out]
    have HSM := hide hsm
    have V9 := hide hV9
    have S9 := hide hs9
    clear hsm hV9 hs9 hex B6 R6 V6 U6 S6
    have hmm := @run_makeMap Tryz.prog
    have v0 := V9.out.c0
    have v1 : w9.cell? ⟨V, 1, none⟩ = some (.slice a9 x.args.length c9) := V9.out.cell 1
    go_wp2_with fail
    have M10 := hide (MapAt.new w9)
    have O10 : Hid (Below w9.heap.size w9 (w9.alloc (.map #[] 0))) := (Below.refl _ _).alloc (Nat.le_refl _) _
    refine (numbered_any x [] _ w9.heap.size _ (fun b => b < w9.heap.size) HKX.out ⟨a9, c9, rfl, (S9.out.mono (Y := fun b => b < w9.heap.size) fun b _ h => h).later O10.out⟩ (fun b hb => by omega) (by simpa [nuS] using M10.out) (by have := HSM.out; simp; omega)).mono ?_
    rintro e w11 ⟨a11, c11, rfl, hs11, hm11, he11⟩
    obtain ⟨TY, hTY⟩ : ∃ TY, TY = ayT (varsP [] (preL [x])) x := ⟨_, rfl⟩
    rw [← hTY] at hs11 HO ⊢
    clear hTY
    have O11 : Hid (Below w9.heap.size w9 w11) := ((ExQ.ofBelow (Q := fun b => b = w9.heap.size) O10.out).trans he11).below (Nat.le_refl _) (fun b hb => by omega)
    have S11 : Hid (SlY w11 (fun b => w9.heap.size ≤ b) a11 TY.subs) := hs11.mono fun b hb _ => Nat.le_trans O10.out.size hb
    have R11 := hide (R9.out.below O11.out R9.out.lt)
    have gR : Hid (w.heap.size + 1 < w9.heap.size) := R9.out.lt
    clear hs11 hm11 he11 v0 v1 hmm
    have r0 := R11.out.c0
    have r1 := R11.out.c1
    have f0 : w11.frozen? ⟨w.heap.size + 1, 0, none⟩ = false := R11.out.frozen 0
    have f1 : w11.frozen? ⟨w.heap.size + 1, 1, none⟩ = false := R11.out.frozen 1
    go_wp2_with fail
    have R12 : Hid (Blk ((w11.setCell ⟨w.heap.size + 1, 0, none⟩ (.int .i64 TY.base)).setCell ⟨w.heap.size + 1, 1, none⟩ (.slice a11 TY.subs.length c11)) (w.heap.size + 1) #[.int .i64 TY.base, .slice a11 TY.subs.length c11] 30) := (R11.out.set 0 _).set 1 _
    have B12 : Hid (Below w.heap.size w ((w11.setCell ⟨w.heap.size + 1, 0, none⟩ (.int .i64 TY.base)).setCell ⟨w.heap.size + 1, 1, none⟩ (.slice a11 TY.subs.length c11))) := belSetI (belSetI (B9.out.trans (O11.out.mono B9.out.size)) (by omega) 0 _) (by omega) 1 _
    have S12 : Hid (SlY ((w11.setCell ⟨w.heap.size + 1, 0, none⟩ (.int .i64 TY.base)).setCell ⟨w.heap.size + 1, 1, none⟩ (.slice a11 TY.subs.length c11)) (fun b => w.heap.size ≤ b) a11 TY.subs) := (S11.out.kept fun b hb => by have h1 := gR.out; rw [Below.heap_setCell _ _ _ _ (by simp; omega), Below.heap_setCell _ _ _ _ (by simp; omega)]).mono fun b hb _ => Nat.le_trans B9.out.size hb
    generalize ((w11.setCell ⟨w.heap.size + 1, 0, none⟩ (.int .i64 TY.base)).setCell ⟨w.heap.size + 1, 1, none⟩ (.slice a11 TY.subs.length c11)) = w12 at *
    have c0 := R12.out.cell 0
    have c1 := R12.out.cell 1
    simp only [List.getElem?_toArray, List.getElem?_cons_zero, List.getElem?_cons_succ] at c0 c1
    refine bodyPost_ret (v := .tuple #[.agg #[.int .i64 TY.base, .slice a11 TY.subs.length c11], .int .i64 0]) (by simp [results, Tryz.results51, go_sem, c0, c1]) rfl ?_
    refine ⟨a11, c11, ?_, ?_, B12.out⟩
    ·rw [← HRR.out, HO.out]
    ·rw [← HRR.out, HO.out]; exact S12.out
end Go.Proofs.YthnncjgjmohinaaGreatDoor
