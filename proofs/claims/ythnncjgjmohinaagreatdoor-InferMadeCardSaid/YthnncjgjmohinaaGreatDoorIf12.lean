import Derived.Test.YthnncjgjmohinaaGreatDoorZInferMadeOwn
import Derived.Test.YthnncjgjmohinaaGreatDoorZCInferMadeOwn
import Derived.Test.YthnncjgjmohinaaGreatDoorW114
namespace Go.Proofs.YthnncjgjmohinaaGreatDoor
open Go.RowKit
set_option linter.unusedSimpArgs false
set_option linter.unusedVariables false
set_option maxRecDepth 8000
def noY : Ty := ⟨0, []⟩
def outY (R : Int × List Bd) (x : Tm) : Int × Ty :=
 if R.1 = 6 then (11, noY) else if R.1 ≠ 0 then (R.1, noY) else if 2000 < sizeL [onT R.2 x] then (8, noY) else (0, ayT (varsP [] (preL [onT R.2 x])) (onT R.2 x))
theorem AsK.qv {E : Nat → Prop} {w : World} {N P T n : Nat} {q : Value} {cs : List Pc} (h : AsK E w N P T n q cs) : QV w (fun _ => True) q (cs.map (·.1)) := by
 have k : QRow w N (fun _ => False) q cs := ⟨h.own, fun x hx => ⟨(h.row x hx).1.mono fun b hb _ => Or.inr ⟨hb.1, hb.2.2.1⟩, (h.row x hx).2.mono fun b hb _ => Or.inr ⟨hb.1, hb.2.2.1⟩⟩⟩
 exact k.qv.mono fun _ _ _ => trivial
def PrP (O : Int × Ty) (w : World) (e : Ending) (w' : World) : Prop :=
 ∃ a c, e = .returned (.tuple #[.agg #[.int .i64 O.2.base, .slice a O.2.subs.length c], .int .i64 O.1]) ∧ SlY w' (fun b => w.heap.size ≤ b) a O.2.subs ∧ Below w.heap.size w w'
theorem askStart (w : World) (N T : Nat) (hN : N ≤ w.heap.size) : AsK (fun _ => False) (w.alloc (.cells #[.slice none 0 0, .int .i64 0] T)) N w.heap.size T 0 (.slice none 0 0) [] :=
 ⟨Blk.new _ _ _, World.ownsRow_nil _ N _ 4, fun x hx => by simp at hx, by simp [Value.ownBlock], Nat.le_trans hN (by simp), hN⟩
set_option maxHeartbeats 8000000 in
theorem prinR_any {t : Lm} (he : errM 0 0 [t] = 0) (hc : csL [t] = false) (hz : sizeM [t] ≤ 60) (R : Int × List Bd) (g : Nat) (hR : uRun true g [] (tyT 84 t [] 0).2.1 = some R) (v : Value) (w : World) (X : Nat → Prop) (hv : MV w X v t) :
  Calls Tryz.prog 7 #[v] w fun e w' => PrP (outY R (tyT 84 t [] 0).1) w e w' := by
 obtain ⟨a, c, rfl, hs⟩ := hv
 have HV := hide (show MV w (fun b => X b ∧ b < w.heap.size) (.agg #[.int .i64 t.kind, .int .i64 t.idx, .slice a t.subs.length c]) t from ⟨a, c, rfl, hs.mono fun b h1 h2 => ⟨h1, h2⟩⟩)
 have HP := hide (ty_pairs (p := 84) (Or.inl rfl) he hc hz)
 have HOK := hide (ty_ok (p := 84) (Or.inl rfl) t [] 0 he hc (fun a ha => by simp at ha) (by omega))
 have HKN := hide (ty_kn (p := 84) (Or.inl rfl) t [] 0 he hc KnL.nil)
 have HE := hide he
 have HC := hide hc
 have HR := hide hR
 clear hs hR he hc
 have B2 : Hid (Below w.heap.size w ((w.alloc (.cells #[.int .i64 t.kind, .int .i64 t.idx, .slice a t.subs.length c] 25)).alloc (.cells #[.int .i64 0, .slice none 0 0] 30))) := ((Below.refl _ _).alloc (Nat.le_refl _) _).alloc (by simp) _
 have hz2 : ((w.alloc (.cells #[.int .i64 t.kind, .int .i64 t.idx, .slice a t.subs.length c] 25)).alloc (.cells #[.int .i64 0, .slice none 0 0] 30)).heap.size = w.heap.size + 1 + 1 := by simp
 have K3 : Hid (AsK (fun _ => False) (((w.alloc (.cells #[.int .i64 t.kind, .int .i64 t.idx, .slice a t.subs.length c] 25)).alloc (.cells #[.int .i64 0, .slice none 0 0] 30)).alloc (.cells #[.slice none 0 0, .int .i64 0] 45)) w.heap.size (w.heap.size + 1 + 1) 45 0 (.slice none 0 0) []) := by have h := askStart ((w.alloc (.cells #[.int .i64 t.kind, .int .i64 t.idx, .slice a t.subs.length c] 25)).alloc (.cells #[.int .i64 0, .slice none 0 0] 30)) w.heap.size 45 (by simp; omega); rw [hz2] at h; exact h
 have B3 : Hid (Below w.heap.size w (((w.alloc (.cells #[.int .i64 t.kind, .int .i64 t.idx, .slice a t.subs.length c] 25)).alloc (.cells #[.int .i64 0, .slice none 0 0] 30)).alloc (.cells #[.slice none 0 0, .int .i64 0] 45))) := B2.out.alloc B2.out.size _
 have A3 : Hid (Blk (((w.alloc (.cells #[.int .i64 t.kind, .int .i64 t.idx, .slice a t.subs.length c] 25)).alloc (.cells #[.int .i64 0, .slice none 0 0] 30)).alloc (.cells #[.slice none 0 0, .int .i64 0] 45)) w.heap.size #[.int .i64 t.kind, .int .i64 t.idx, .slice a t.subs.length c] 25) := ((Blk.new _ _ _).alloc _).alloc _
 have R3 : Hid (Blk (((w.alloc (.cells #[.int .i64 t.kind, .int .i64 t.idx, .slice a t.subs.length c] 25)).alloc (.cells #[.int .i64 0, .slice none 0 0] 30)).alloc (.cells #[.slice none 0 0, .int .i64 0] 45)) (w.heap.size + 1) #[.int .i64 0, .slice none 0 0] 30) := by have h := (Blk.new (w.alloc (.cells #[.int .i64 t.kind, .int .i64 t.idx, .slice a t.subs.length c] 25)) #[.int .i64 0, .slice none 0 0] 30).alloc (.cells #[.slice none 0 0, .int .i64 0] 45); rw [World.size_alloc] at h; exact h
 clear hz2
 go_enter Tryz.func7, Tryz.ntmps7
 go_upto_region 2 with fail
 generalize (((w.alloc (.cells #[.int .i64 t.kind, .int .i64 t.idx, .slice a t.subs.length c] 25)).alloc (.cells #[.int .i64 0, .slice none 0 0] 30)).alloc (.cells #[.slice none 0 0, .int .i64 0] 45)) = w3 at *
 have x0 := A3.out.c0
 have x1 := A3.out.c1
 have x2 := A3.out.c2
 go_wp2_with fail
 refine (typeR_any (B := w.heap.size) t (fun _ => False) w.heap.size (w.heap.size + 1 + 1) 0 (.slice none 0 0) _ [] [] none 0 w3 (fun b => X b ∧ b < w.heap.size) (by simpa using HE.out) HC.out (by omega) (by simp; omega) (by simp; omega) (by simp) (HV.out.later B3.out) (fun x hx => hx.2) (Nat.le_refl _) K3.out ⟨by simp, Or.inl rfl⟩ (fun b hb => hb.elim)).mono ?_
 rintro e w4 ⟨a4, c4, q4, cs4, rfl, hs4, hk4, hm4, hf4⟩
 simp only [List.map_nil, List.nil_append] at hm4
 obtain ⟨r, hr⟩ : ∃ r, r = tyT 84 t [] 0 := ⟨_, rfl⟩
 rw [← hr] at hs4 hk4 hm4 HP HOK HKN HR ⊢
 have HRR := hide hr
 clear hr
 have O5 : Hid (Below w4.heap.size w4 (w4.alloc (.cells #[.string r.1.name, .slice a4 r.1.args.length c4] 48))) := (Below.refl _ _).alloc (Nat.le_refl _) _
 have V5 : Hid (Blk (w4.alloc (.cells #[.string r.1.name, .slice a4 r.1.args.length c4] 48)) w4.heap.size #[.string r.1.name, .slice a4 r.1.args.length c4] 48) := Blk.new _ _ _
 have K5 := hide (hk4.later O5.out)
 have S5 := hide (hs4.later O5.out)
 have M5 := hide hm4
 have B5 : Hid (Below w.heap.size w (w4.alloc (.cells #[.string r.1.name, .slice a4 r.1.args.length c4] 48))) := B3.out.trans (((K3.out.below hf4)).trans (O5.out.mono (Nat.le_trans B3.out.size hf4.1.size)))
 have R5 : Hid (Blk (w4.alloc (.cells #[.string r.1.name, .slice a4 r.1.args.length c4] 48)) (w.heap.size + 1) #[.int .i64 0, .slice none 0 0] 30) := (R3.out.exq hf4.1 (fun h => by rcases h with h | h; omega; simp [Value.ownBlock] at h)).alloc _
 clear hs4 hk4 hm4 hf4 K3 A3 R3 x0 x1 x2 B2 B3 HV
 skip
 go_upto_region 3 with fail
 generalize w4.heap.size = V at *
 generalize w4.alloc (.cells #[.string r.1.name, .slice a4 r.1.args.length c4] 48) = w5 at *
 have p0 : w5.cell? ⟨w.heap.size + 1 + 1, 0, none⟩ = some q4 := K5.out.box.cell 0
 have QV5 : Hid (QV w5 (fun _ => True) q4 r.2.1) := by have h := K5.out.qv; rw [M5.out] at h; exact h
 obtain ⟨_, _, hUI, hVV⟩ := pairs_start HP.out
 have HUI := hide hUI
 have HVV := hide hVV
 clear hUI hVV
 by_cases h0 : R.1 = 0
 ·go_wp2_with fail
  refine (unifyOf_some HVV.out HUI.out HR.out h0 q4 w5 _ QV5.out).mono ?_
  rintro e w6 ⟨u6, rfl, hu6, hb6⟩
  have U6 := hide hu6
  have B6 := hide (B5.out.trans (hb6.mono B5.out.size))
  have R6 := hide (R5.out.below hb6 R5.out.lt)
  have V6 := hide (V5.out.below hb6 V5.out.lt)
  have S6 := hide ((S5.out.later hb6).mono (Y := fun _ => True) fun _ _ _ => trivial)
  clear hu6 hb6 p0 B5 R5 V5 S5 K5 QV5
  have H0 := hide h0
  clear h0
  have v0 := V6.out.c0
  have v1 := V6.out.c1
  go_wp2_with fail
  refine (onAll_any R.2 r.1 u6 _ w6 (fun _ => True) U6.out ⟨a4, c4, rfl, S6.out⟩ (by have := HOK.out.size; omega)).mono ?_
  rintro e w8 ⟨hb8, ⟨hbig, rfl⟩ | ⟨hsm, a8, c8, rfl, hs8⟩⟩
  ·have HO : Hid (outY R r.1 = (8, noY)) := by unfold Hid outY; rw [if_neg (by rw [H0.out]; decide), if_neg (by rw [H0.out]; decide), if_pos hbig]
   have B6' : Hid (Below w.heap.size w (w8.alloc (.cells #[.string ⟨#[]⟩, .slice none 0 0] 48))) := (B6.out.trans (hb8.mono B6.out.size)).alloc (B6.out.trans (hb8.mono B6.out.size)).size _
   have R6' : Hid (Blk (w8.alloc (.cells #[.string ⟨#[]⟩, .slice none 0 0] 48)) (w.heap.size + 1) #[.int .i64 0, .slice none 0 0] 30) := (R6.out.below hb8 R6.out.lt).alloc _
   clear B6 R6 v0 v1 hbig
   have B6 := B6'
   have R6 := R6'
   clear B6' R6'
   go_upto_region 9 with fail
   generalize w8.alloc (.cells #[.string ⟨#[]⟩, .slice none 0 0] 48) = w9 at *
   have r0 := R6.out.c0
   have r1 := R6.out.c1
   have f0 : w9.frozen? ⟨w.heap.size + 1, 0, none⟩ = false := R6.out.frozen 0
   have f1 : w9.frozen? ⟨w.heap.size + 1, 1, none⟩ = false := R6.out.frozen 1
   go_wp2_with fail
   have R7 : Hid (Blk ((w9.setCell ⟨w.heap.size + 1, 0, none⟩ (.int .i64 0)).setCell ⟨w.heap.size + 1, 1, none⟩ (.slice none 0 0)) (w.heap.size + 1) #[.int .i64 0, .slice none 0 0] 30) := (R6.out.set 0 _).set 1 _
   have B7 : Hid (Below w.heap.size w ((w9.setCell ⟨w.heap.size + 1, 0, none⟩ (.int .i64 0)).setCell ⟨w.heap.size + 1, 1, none⟩ (.slice none 0 0))) := belSetI (belSetI B6.out (by omega) 0 _) (by omega) 1 _
   generalize ((w9.setCell ⟨w.heap.size + 1, 0, none⟩ (.int .i64 0)).setCell ⟨w.heap.size + 1, 1, none⟩ (.slice none 0 0)) = w7 at *
   have c0 := R7.out.cell 0
   have c1 := R7.out.cell 1
   simp only [List.getElem?_toArray, List.getElem?_cons_zero, List.getElem?_cons_succ] at c0 c1
   refine bodyPost_ret (v := .tuple #[.agg #[.int .i64 0, .slice none 0 0], .int .i64 8]) (by simp [results, Tryz.results7, go_sem, c0, c1]) rfl ?_
   refine ⟨none, 0, ?_, ?_, B7.out⟩
   ·rw [← HRR.out, HO.out]; rfl
   ·rw [← HRR.out, HO.out]; exact ⟨by simp [noY], Or.inl rfl⟩
  ·obtain ⟨x, hx⟩ : ∃ x, x = onT R.2 r.1 := ⟨_, rfl⟩
   rw [← hx] at hsm hs8 ⊢
   have HO : Hid (outY R r.1 = (0, ayT (varsP [] (preL [x])) x)) := by unfold Hid outY; rw [if_neg (by rw [H0.out]; decide), if_neg (by rw [H0.out]; decide), if_neg (by rw [← hx]; omega), hx]
   have HKX : Hid (KnL [x]) := by rw [hx]; exact onT_kn (uRun_kn true g (fun d hd => by simp at hd) HKN.out.2 HR.out) HKN.out.1
   clear hx
   have O9 : Hid (Below w8.heap.size w8 (w8.alloc (.cells #[.string x.name, .slice a8 x.args.length c8] 48))) := (Below.refl _ _).alloc (Nat.le_refl _) _
   have X9 : Hid (Blk (w8.alloc (.cells #[.string x.name, .slice a8 x.args.length c8] 48)) w8.heap.size #[.string x.name, .slice a8 x.args.length c8] 48) := Blk.new _ _ _
   have S9 : Hid (Sl (w8.alloc (.cells #[.string x.name, .slice a8 x.args.length c8] 48)) (fun _ => True) a8 x.args) := (hs8.later O9.out).mono fun _ _ _ => trivial
   have B9 : Hid (Below w.heap.size w (w8.alloc (.cells #[.string x.name, .slice a8 x.args.length c8] 48))) := (B6.out.trans (hb8.mono B6.out.size)).trans (O9.out.mono (B6.out.trans (hb8.mono B6.out.size)).size)
   have R9 := hide ((R6.out.below hb8 R6.out.lt).below O9.out (R6.out.below hb8 R6.out.lt).lt)
   have HSM := hide hsm
   have gR : Hid (w.heap.size + 1 < w8.heap.size) := (R6.out.below hb8 R6.out.lt).lt
   clear hs8 hb8 O9 B6 R6 v0 v1 hsm
   go_upto_region 9 with fail
   generalize w8.heap.size = V2 at *
   generalize w8.alloc (.cells #[.string x.name, .slice a8 x.args.length c8] 48) = w9 at *
   go_wp2_with fail
   have kd : Blk w9.drew V2 #[.string x.name, .slice a8 x.args.length c8] 48 := X9.out
   refine wp_region_held_drew (S := fun w' => Blk w' V2 #[.string x.name, .slice a8 x.args.length c8] 48) (by kernel_rfl) kd (fun hHeld => ?_)
   refine tkq (v := ?_) 0 rfl ?_ ?_
   rotate_left
   ·intro w' hSw
    have y0 : w'.cell? ⟨V2, 0, none⟩ = some (.string x.name) := hSw.cell 0
    have y1 : w'.cell? ⟨V2, 1, none⟩ = some (.slice a8 x.args.length c8) := hSw.cell 1
    go_simp <;> with_reducible rfl
   try simp only [Act.put, sq]
   refine tkq (v := ?_) 1 rfl ?_ ?_
   rotate_left
   ·intro w' hSw
    have y0 : w'.cell? ⟨V2, 0, none⟩ = some (.string x.name) := hSw.cell 0
    have y1 : w'.cell? ⟨V2, 1, none⟩ = some (.slice a8 x.args.length c8) := hSw.cell 1
    go_simp <;> with_reducible rfl
   try simp only [Act.put, sq]
   refine rdq 2 rfl fun K hK => ?_
   go_simp
   go_at_call 16
   refine (varsOf_any x _ w9.drew (fun _ => True) ⟨a8, c8, rfl, S9.out.later (Below.refl _ _).drew⟩ (by have := HSM.out; omega)).mono ?_
   rintro e w10 ⟨u10, rfl, hu10, hb10⟩
   have O10 : Hid (Below w9.heap.size w9 w10) := ((Below.refl w9.heap.size w9).drew).trans hb10
   have U10 := hide hu10
   have k10 : Blk w10 V2 #[.string x.name, .slice a8 x.args.length c8] 48 := X9.out.below O10.out X9.out.lt
   clear hu10 hb10
   go_simp
   refine hK.out _ _ (by exact k10) (fun hHeld => ?_)
   clear hK K
   try simp only [Act.put, sq]
   refine rdq 3 rfl fun K hK => ?_
   go_simp
   go_at_call 15
   refine (asType_any (by have h := varsP_len (preL [x]) []; rw [preL_length] at h; have := HSM.out; simp at h; omega) x _ u10 w10 (fun _ => True) _ HKX.out (vars_all [x] HKX.out []) ⟨a8, c8, rfl, S9.out.later O10.out⟩ U10.out).mono ?_
   rintro e w11 ⟨a11, c11, rfl, hs11, hb11⟩
   obtain ⟨TY, hTY⟩ : ∃ TY, TY = ayT (varsP [] (preL [x])) x := ⟨_, rfl⟩
   rw [← hTY] at hs11 HO ⊢
   clear hTY
   have O11 : Hid (Below w9.heap.size w9 w11) := O10.out.trans (hb11.mono O10.out.size)
   have S11 : Hid (SlY w11 (fun b => w9.heap.size ≤ b) a11 TY.subs) := hs11.mono fun b hb _ => Nat.le_trans O10.out.size hb
   have k11 : Blk w11 V2 #[.string x.name, .slice a8 x.args.length c8] 48 := X9.out.below O11.out X9.out.lt
   clear hs11 hb11
   go_simp
   refine hK.out _ _ (by exact k11) (fun hHeld => ?_)
   clear hK K
   try simp only [Act.put, sq]
   have R11 := hide (R9.out.below O11.out R9.out.lt)
   have g9 : Hid (V2 < w9.heap.size) := X9.out.lt
   have r0 := R11.out.c0
   have r1 := R11.out.c1
   have f0 : w11.frozen? ⟨w.heap.size + 1, 0, none⟩ = false := R11.out.frozen 0
   have f1 : w11.frozen? ⟨w.heap.size + 1, 1, none⟩ = false := R11.out.frozen 1
   have k12 : Blk ((w11.setCell ⟨w.heap.size + 1, 0, none⟩ (.int .i64 TY.base)).setCell ⟨w.heap.size + 1, 1, none⟩ (.slice a11 TY.subs.length c11)) V2 #[.string x.name, .slice a8 x.args.length c8] 48 := (k11.setOther 0 _ (by have h1 := gR.out; omega)).setOther 1 _ (by have h1 := gR.out; omega)
   refine rdq 4 rfl fun K hK => ?_
   go_simp
   refine hK.out _ _ (by exact k12) (fun hHeld => ?_)
   clear hK K
   try simp only [Act.put, sq]
   refine tkq (v := ?_) 5 rfl ?_ ?_
   rotate_left
   ·intro w' hSw
    go_simp <;> with_reducible rfl
   try simp only [Act.put, sq]
   refine wpAnyH_done (by kernel_rfl) ?_ _
   have R12 : Hid (Blk ((w11.setCell ⟨w.heap.size + 1, 0, none⟩ (.int .i64 TY.base)).setCell ⟨w.heap.size + 1, 1, none⟩ (.slice a11 TY.subs.length c11)) (w.heap.size + 1) #[.int .i64 TY.base, .slice a11 TY.subs.length c11] 30) := (R11.out.set 0 _).set 1 _
   have B12 : Hid (Below w.heap.size w ((w11.setCell ⟨w.heap.size + 1, 0, none⟩ (.int .i64 TY.base)).setCell ⟨w.heap.size + 1, 1, none⟩ (.slice a11 TY.subs.length c11))) := belSetI (belSetI (B9.out.trans (O11.out.mono B9.out.size)) (by omega) 0 _) (by omega) 1 _
   have S12 : Hid (SlY ((w11.setCell ⟨w.heap.size + 1, 0, none⟩ (.int .i64 TY.base)).setCell ⟨w.heap.size + 1, 1, none⟩ (.slice a11 TY.subs.length c11)) (fun b => w.heap.size ≤ b) a11 TY.subs) := (S11.out.kept fun b hb => by have h1 := gR.out; have h2 := g9.out; rw [Below.heap_setCell _ _ _ _ (by simp; omega), Below.heap_setCell _ _ _ _ (by simp; omega)]).mono fun b hb _ => Nat.le_trans B9.out.size hb
   generalize ((w11.setCell ⟨w.heap.size + 1, 0, none⟩ (.int .i64 TY.base)).setCell ⟨w.heap.size + 1, 1, none⟩ (.slice a11 TY.subs.length c11)) = w12 at *
   clear r0 r1 f0 f1
   go_wp2_with fail
   have c0 := R12.out.cell 0
   have c1 := R12.out.cell 1
   simp only [List.getElem?_toArray, List.getElem?_cons_zero, List.getElem?_cons_succ] at c0 c1
   refine bodyPost_ret (v := .tuple #[.agg #[.int .i64 TY.base, .slice a11 TY.subs.length c11], .int .i64 0]) (by simp [results, Tryz.results7, go_sem, c0, c1]) rfl ?_
   refine ⟨a11, c11, ?_, ?_, B12.out⟩
   ·rw [← HRR.out, HO.out]
   ·rw [← HRR.out, HO.out]; exact S12.out
 ·go_wp2_with fail
  refine (unifyOf_none HVV.out HUI.out HR.out h0 q4 w5 _ QV5.out).mono ?_
  rintro e w6 ⟨rfl, hb6⟩
  have B6 := hide (B5.out.trans (hb6.mono B5.out.size))
  have R6 := hide (R5.out.below hb6 R5.out.lt)
  clear hb6 p0 B5 R5 V5 S5 K5 QV5
  by_cases h6 : R.1 = 6
  ·have HO : Hid (outY R r.1 = (11, noY)) := by unfold Hid outY; rw [if_pos h6]
   rw [h6]
   clear h6 h0
   have r0 := R6.out.c0
   have r1 := R6.out.c1
   have f0 : w6.frozen? ⟨w.heap.size + 1, 0, none⟩ = false := R6.out.frozen 0
   have f1 : w6.frozen? ⟨w.heap.size + 1, 1, none⟩ = false := R6.out.frozen 1
   go_wp2_with fail
   have R7 : Hid (Blk ((w6.setCell ⟨w.heap.size + 1, 0, none⟩ (.int .i64 0)).setCell ⟨w.heap.size + 1, 1, none⟩ (.slice none 0 0)) (w.heap.size + 1) #[.int .i64 0, .slice none 0 0] 30) := (R6.out.set 0 _).set 1 _
   have B7 : Hid (Below w.heap.size w ((w6.setCell ⟨w.heap.size + 1, 0, none⟩ (.int .i64 0)).setCell ⟨w.heap.size + 1, 1, none⟩ (.slice none 0 0))) := belSetI (belSetI B6.out (by omega) 0 _) (by omega) 1 _
   generalize ((w6.setCell ⟨w.heap.size + 1, 0, none⟩ (.int .i64 0)).setCell ⟨w.heap.size + 1, 1, none⟩ (.slice none 0 0)) = w7 at *
   have c0 := R7.out.cell 0
   have c1 := R7.out.cell 1
   simp only [List.getElem?_toArray, List.getElem?_cons_zero, List.getElem?_cons_succ] at c0 c1
   refine bodyPost_ret (v := .tuple #[.agg #[.int .i64 0, .slice none 0 0], .int .i64 11]) (by simp [results, Tryz.results7, go_sem, c0, c1]) rfl ?_
   refine ⟨none, 0, ?_, ?_, B7.out⟩
   ·rw [← HRR.out, HO.out]; rfl
   ·rw [← HRR.out, HO.out]; exact ⟨by simp [noY], Or.inl rfl⟩
  ·have HO : Hid (outY R r.1 = (R.1, noY)) := by unfold Hid outY; rw [if_neg h6, if_pos h0]
   have e6 : (R.1 == 6) = false := by simpa using h6
   have e0 : (R.1 != 0) = true := by simpa using h0
   have e0' : (R.1 == 0) = false := by simpa using h0
   clear h6 h0
   have r0 := R6.out.c0
   have r1 := R6.out.c1
   have f0 : w6.frozen? ⟨w.heap.size + 1, 0, none⟩ = false := R6.out.frozen 0
   have f1 : w6.frozen? ⟨w.heap.size + 1, 1, none⟩ = false := R6.out.frozen 1
   go_wp2_with fail
   have R7 : Hid (Blk ((w6.setCell ⟨w.heap.size + 1, 0, none⟩ (.int .i64 0)).setCell ⟨w.heap.size + 1, 1, none⟩ (.slice none 0 0)) (w.heap.size + 1) #[.int .i64 0, .slice none 0 0] 30) := (R6.out.set 0 _).set 1 _
   have B7 : Hid (Below w.heap.size w ((w6.setCell ⟨w.heap.size + 1, 0, none⟩ (.int .i64 0)).setCell ⟨w.heap.size + 1, 1, none⟩ (.slice none 0 0))) := belSetI (belSetI B6.out (by omega) 0 _) (by omega) 1 _
   generalize ((w6.setCell ⟨w.heap.size + 1, 0, none⟩ (.int .i64 0)).setCell ⟨w.heap.size + 1, 1, none⟩ (.slice none 0 0)) = w7 at *
   have c0 := R7.out.cell 0
   have c1 := R7.out.cell 1
   simp only [List.getElem?_toArray, List.getElem?_cons_zero, List.getElem?_cons_succ] at c0 c1
   refine bodyPost_ret (v := .tuple #[.agg #[.int .i64 0, .slice none 0 0], .int .i64 R.1]) (by simp [results, Tryz.results7, go_sem, c0, c1]) rfl ?_
   refine ⟨none, 0, ?_, ?_, B7.out⟩
   ·rw [← HRR.out, HO.out]; rfl
   ·rw [← HRR.out, HO.out]; exact ⟨by simp [noY], Or.inl rfl⟩
end Go.Proofs.YthnncjgjmohinaaGreatDoor
