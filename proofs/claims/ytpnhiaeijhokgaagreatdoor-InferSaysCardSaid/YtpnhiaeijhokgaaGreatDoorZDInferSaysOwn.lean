/- Several texts in one. -/
import Derived.Test.YtpnhiaeijhokgaaGreatDoorZInferSaysOwn
import Derived.Test.YtpnhiaeijhokgaaGreatDoorZCInferSaysOwn
import Derived.Test.YtpnhiaeijhokgaaGreatDoorZBInferSaysOwn
import Derived.Laws.EntriesVeiled
namespace Go.Proofs.YtpnhiaeijhokgaaGreatDoor
open Go.RowKit
set_option linter.unusedSimpArgs false
set_option linter.unusedVariables false
set_option maxRecDepth 8000
def RgO (E : Nat → Prop) (N P T n : Nat) (q : Value) (cs : List Pc) (b : Lm) (ar : List Tm) (w4 : World) (V8 : Value) (w' : World) : Prop :=
 ∃ A8 a c q' cs', V8 = .pointer (some ⟨A8, 0, none⟩) ∧ Bq w' P q' A8 #[.string (tyT 84 b (ar ++ [vrT 84 (n + 1)]) (n + 1)).1.name, .slice a (tyT 84 b (ar ++ [vrT 84 (n + 1)]) (n + 1)).1.args.length c] 53 ∧ Sl w' (Zq E N P q') a (tyT 84 b (ar ++ [vrT 84 (n + 1)]) (n + 1)).1.args ∧ AsK E w' N P T (tyT 84 b (ar ++ [vrT 84 (n + 1)]) (n + 1)).2.2 q' cs' ∧ cs'.map (·.1) = cs.map (·.1) ++ (tyT 84 b (ar ++ [vrT 84 (n + 1)]) (n + 1)).2.1 ∧ AsF w4 w' P q q'
theorem rgO_mk {E : Nat → Prop} {N P T n : Nat} {q : Value} {cs : List Pc} {b : Lm} {ar : List Tm} {w4 w' : World} {r : Tm × List Pr × Nat} (hr : tyT 84 b (ar ++ [vrT 84 (n + 1)]) (n + 1) = r) {A8 c : Nat} {a : Option Addr} {q' : Value} {cs' : List Pc} (h1 : Bq w' P q' A8 #[.string r.1.name, .slice a r.1.args.length c] 53) (h2 : Sl w' (Zq E N P q') a r.1.args) (h3 : AsK E w' N P T r.2.2 q' cs') (h4 : cs'.map (·.1) = cs.map (·.1) ++ r.2.1) (h5 : AsF w4 w' P q q') : RgO E N P T n q cs b ar w4 (.pointer (some ⟨A8, 0, none⟩)) w' := by
 subst hr
 exact ⟨A8, a, c, q', cs', rfl, h1, h2, h3, h4, h5⟩
theorem seI {w : World} {E1 E2 : Nat → Prop} {N P s g : Nat} {q : Value} {a : Option Addr} {l : List Tm} (hs : Sl w (fun d => (Zq E1 N P q d ∧ d < s) ∨ d = g) a l) (hE : ∀ d, d < s → E2 d → E1 d) (hg : Zq E2 N P q g) : Sl w (Zq E2 N P q) a l :=
 hs.mono fun d hd _ => hd.elim (fun h => ⟨h.1.1, h.1.2.1, h.1.2.2.1, fun e => h.1.2.2.2 (hE d h.2 e)⟩) (fun e => by rw [e]; exact hg)
theorem AsF.bq0 {w w' : World} {P : Nat} {q q' : Value} (h : AsF w w' P q q') {w1 : World} {b : Nat} {cs : Array Value} {T : Nat} (hb : Bq w1 P q' b cs T) : b ≠ P ∧ some b ≠ q'.ownBlock := hb.2
def S8 (B n V : Nat) (w : World) (b' o' c : Nat) (w' : World) : Prop := Blk w' V #[.string (vrN 84 (n + 1)), .slice none 0 0] 53 ∧ Blk w' w.heap.size #[.int .i64 2, .int .i64 0, .slice (some ⟨b', o', none⟩) 1 c] 24 ∧ Below B w w'
set_option maxHeartbeats 8000000 in
theorem typeR_any {B : Nat} (t : Lm) : ∀ (E : Nat → Prop) (N P n : Nat) (q v : Value) (cs : List Pc) (ar : List Tm) (au : Option Addr) (ac : Nat) (w : World) (X : Nat → Prop), errM ar.length 0 [t] = 0 → csL [t] = false → n + sizeM [t] ≤ 900 → cs.length + sizeM [t] ≤ 100000 → ar.length + sizeM [t] ≤ 1000 → ar.length ≤ ac → MV w X v t → (∀ x, X x → x < B) → B ≤ N → AsK E w N P 50 n q cs → Sl w (Zq E N P q) au ar → (∀ b, E b → b < w.heap.size) →
  Calls Tryz.prog 26 #[.pointer (some ⟨P, 0, none⟩), v, .slice au ar.length ac] w fun e w' => TyP 84 E N P 50 n q cs t ar w e w' := by
 induction t using Lm.ind with
 | h k0 i0 l0 ih =>
  intro E N P n q v cs ar au ac w X he hc hn hcs har hac hv hX hBN hK hS hEw
  have IH := hide ih
  clear ih
  obtain ⟨a, c, rfl, hs⟩ := hv
  have HX := hide hX
  have HAR := hide har
  have HN := hide hn
  have HCS := hide hcs
  rcases may_look he with ⟨x, e, h1, h2⟩ | ⟨b, e, hb⟩ | ⟨f, x, e, hf, hx⟩ | ⟨x, e, _, _⟩
  ·cases e
   obtain ⟨i, rfl⟩ : ∃ i : Nat, i0 = (i : Int) := ⟨i0.toNat, by omega⟩
   have hil : i < ar.length := by omega
   have K1 := hide (hK.later ((Below.refl _ _).alloc (Nat.le_refl _) (.cells #[.int .i64 1, .int .i64 (i : Int), .slice a 0 c] 24)))
   have K2 : Hid (AsK (fun b => E b ∨ b = w.heap.size + 1) ((w.alloc (.cells #[.int .i64 1, .int .i64 (i : Int), .slice a 0 c] 24)).alloc (.cells #[.string ⟨#[]⟩, .slice none 0 0] 53)) N P 50 n q cs) := (hK.excl (E' := fun b => E b ∨ b = w.heap.size + 1) fun b hb h => h.elim id (fun h => by omega)).later (((Below.refl _ _).alloc (Nat.le_refl _) _).alloc (by simp) _)
   have A2 : Hid (Bq ((w.alloc (.cells #[.int .i64 1, .int .i64 (i : Int), .slice a 0 c] 24)).alloc (.cells #[.string ⟨#[]⟩, .slice none 0 0] 53)) P q w.heap.size #[.int .i64 1, .int .i64 (i : Int), .slice a 0 c] 24) := (Bq.new hK _ _).later ((Below.refl _ _).alloc (Nat.le_refl _) _)
   have R2 : Hid (Bq ((w.alloc (.cells #[.int .i64 1, .int .i64 (i : Int), .slice a 0 c] 24)).alloc (.cells #[.string ⟨#[]⟩, .slice none 0 0] 53)) P q (w.heap.size + 1) #[.string ⟨#[]⟩, .slice none 0 0] 53) := by have h := Bq.new K1.out #[.string ⟨#[]⟩, .slice none 0 0] 53; rw [World.size_alloc] at h; exact h
   have B2 : Hid (Below w.heap.size w ((w.alloc (.cells #[.int .i64 1, .int .i64 (i : Int), .slice a 0 c] 24)).alloc (.cells #[.string ⟨#[]⟩, .slice none 0 0] 53))) := ((Below.refl _ _).alloc (Nat.le_refl _) _).alloc (by simp) _
   have S2 := hide ((sl_excl (E' := fun b => E b ∨ b = w.heap.size + 1) hS fun b hb h => h.elim id (fun h => by omega)).later B2.out)
   have F2 := hide (AsF.ofBelow B2.out P q)
   clear hK hS K1
   have HR := hide (tyT_bound 84 (i : Int) ar n)
   have hlt : ar.length - 1 - i < ar.length := by omega
   have HG : Hid ((tyT 84 ⟨1, (i : Int), []⟩ ar n).1 = ar[ar.length - 1 - i]) := by unfold Hid; rw [HR.out]; show ar.getD (ar.length - 1 - (i : Int).toNat) noT = _; rw [Int.toNat_natCast, List.getD_eq_getElem?_getD, List.getElem?_eq_getElem hlt]; rfl
   have HR2 : Hid ((tyT 84 ⟨1, (i : Int), []⟩ ar n).2 = ([], n)) := by unfold Hid; rw [HR.out]
   obtain ⟨b, o, a', c', rfl, d0, d1, hx⟩ := S2.out.get (Below.refl _ _) (fun _ _ h => h) (ar.length - 1 - i) hlt
   obtain ⟨j, hj⟩ : ∃ j, j = ar.length - 1 - i := ⟨_, rfl⟩
   have hji : (ar.length : Int) - 1 - (i : Int) = (j : Int) := by omega
   have HJ : Hid (ar.length - 1 - i = j) := hj.symm
   have hjl : (j : Int) < (ar.length : Int) := by omega
   have HM := S2.out.1
   obtain ⟨y, hy⟩ : ∃ y, y = ar[ar.length - 1 - i] := ⟨_, rfl⟩
   rw [← hy] at d0 d1 hx HG
   rw [← hj] at d0 d1
   clear hy hj hlt
   obtain ⟨a9, c9, e9, hy9⟩ := hx
   cases e9
   have Y9 := hide hy9
   clear hy9
   go_enter Tryz.func26, Tryz.ntmps26
   go_upto_region 1 with fail
   generalize ((w.alloc (.cells #[.int .i64 1, .int .i64 (i : Int), .slice a 0 c] 24)).alloc (.cells #[.string ⟨#[]⟩, .slice none 0 0] 53)) = w2 at *
   have x0 := A2.out.1.c0
   have x1 := A2.out.1.c1
   have x2 := A2.out.1.c2
   have r0 := R2.out.1.c0
   have r1 := R2.out.1.c1
   have f0 : w2.frozen? ⟨w.heap.size + 1, 0, none⟩ = false := R2.out.1.frozen 0
   have f1 : w2.frozen? ⟨w.heap.size + 1, 1, none⟩ = false := R2.out.1.frozen 1
   have hneg : ¬ ((ar.length : Int) - 1 - (i : Int) < 0) := by omega
   go_wp2_with fail
   obtain ⟨K3, F3, R3, S3⟩ := K2.out.store F2.out R2.out (by omega) (.string y.name) (.slice a' y.args.length c') Y9.out
   generalize ((w2.setCell ⟨w.heap.size + 1, 0, none⟩ (.string y.name)).setCell ⟨w.heap.size + 1, 1, none⟩ (.slice a' y.args.length c')) = w5 at *
   have c0 := R3.cell 0
   have c1 := R3.cell 1
   simp only [List.getElem?_toArray, List.getElem?_cons_zero, List.getElem?_cons_succ] at c0 c1
   refine bodyPost_ret (v := .agg #[.string y.name, .slice a' y.args.length c']) (by simp [results, Tryz.results26, go_sem, c0, c1]) rfl ?_
   refine ⟨a', c', q, cs, ?_, ?_, ?_, ?_, F3⟩
   ·rw [HG.out]
   ·rw [HG.out]; exact S3
   ·rw [HR2.out]; exact K3
   ·rw [HR2.out]; simp
  ·cases e
   obtain ⟨b', o', a1, c1, rfl, hKP⟩ := slM_one (B := B) hs hX
   have KP := hide hKP
   have hK0 := hK.le
   have hq0 : ∀ b, some b = q.ownBlock → N ≤ b ∧ b < w.heap.size := fun b hb => hK.own.lt b hb.symm
   have IHB := hide (IH.out b (by simp))
   clear hKP hs IH
   have e1 : ([b] : List Lm).length = 1 := rfl
   rw [e1]
   clear e1
   have K1 := hide (hK.later ((Below.refl _ _).alloc (Nat.le_refl _) (.cells #[.int .i64 2, .int .i64 0, .slice (some ⟨b', o', none⟩) 1 c] 24)))
   have K2 : Hid (AsK (fun b => E b ∨ b = w.heap.size + 1) ((w.alloc (.cells #[.int .i64 2, .int .i64 0, .slice (some ⟨b', o', none⟩) 1 c] 24)).alloc (.cells #[.string ⟨#[]⟩, .slice none 0 0] 53)) N P 50 n q cs) := (hK.excl (E' := fun b => E b ∨ b = w.heap.size + 1) fun b hb h => h.elim id (fun h => by omega)).later (((Below.refl _ _).alloc (Nat.le_refl _) _).alloc (by simp) _)
   have A2 : Hid (Bq ((w.alloc (.cells #[.int .i64 2, .int .i64 0, .slice (some ⟨b', o', none⟩) 1 c] 24)).alloc (.cells #[.string ⟨#[]⟩, .slice none 0 0] 53)) P q w.heap.size #[.int .i64 2, .int .i64 0, .slice (some ⟨b', o', none⟩) 1 c] 24) := (Bq.new hK _ _).later ((Below.refl _ _).alloc (Nat.le_refl _) _)
   have R2 : Hid (Bq ((w.alloc (.cells #[.int .i64 2, .int .i64 0, .slice (some ⟨b', o', none⟩) 1 c] 24)).alloc (.cells #[.string ⟨#[]⟩, .slice none 0 0] 53)) P q (w.heap.size + 1) #[.string ⟨#[]⟩, .slice none 0 0] 53) := by have h := Bq.new K1.out #[.string ⟨#[]⟩, .slice none 0 0] 53; rw [World.size_alloc] at h; exact h
   have B2 : Hid (Below w.heap.size w ((w.alloc (.cells #[.int .i64 2, .int .i64 0, .slice (some ⟨b', o', none⟩) 1 c] 24)).alloc (.cells #[.string ⟨#[]⟩, .slice none 0 0] 53))) := ((Below.refl _ _).alloc (Nat.le_refl _) _).alloc (by simp) _
   have S2 := hide ((sl_excl (E' := fun b => E b ∨ b = w.heap.size + 1) hS fun b hb h => h.elim id (fun h => by omega)).later B2.out)
   have F2 := hide (AsF.ofBelow B2.out P q)
   clear hK hS K1
   have HF := hide (tyT_fun 84 0 b ar n)
   have hzb : sizeM [(⟨2, 0, [b]⟩ : Lm)] = 1 + sizeM [b] := sizeM_oneI 2 0 [b]
   have HZB := hide hzb
   rw [hzb] at hn hcs har
   clear hzb HN HCS HAR
   have hcb : csL [b] = false := by rw [csL_one] at hc; simpa using hc
   have HCB := hide hcb
   clear hcb hc he
   have HEB : Hid (errM ((ar ++ [vrT 84 (n + 1)]).length) 0 [b] = 0) := by unfold Hid; rw [show ((ar ++ [vrT 84 (n + 1)]).length : Int) = (ar.length : Int) + 1 by simp]; exact hb
   clear hb hX
   have UP2 : Hid (Below B w _) := B2.out.mono (Nat.le_trans hBN hK0)
   go_enter Tryz.func26, Tryz.ntmps26
   go_upto_region 1 with fail
   generalize ((w.alloc (.cells #[.int .i64 2, .int .i64 0, .slice (some ⟨b', o', none⟩) 1 c] 24)).alloc (.cells #[.string ⟨#[]⟩, .slice none 0 0] 53)) = w2 at *
   have x0 := A2.out.1.c0
   have x1 := A2.out.1.c1
   have x2 := A2.out.1.c2
   go_wp2_with fail
   refine (freshR_any K2.out (by omega)).mono ?_
   rintro e w3 ⟨rfl, hk3, hf3⟩
   have K4 : Hid (AsK (fun b => E b ∨ b = w.heap.size + 1) (w3.alloc (.cells #[.string (vrN 84 (n + 1)), .slice none 0 0] 53)) N P 50 (n + 1) q cs) := hk3.later ((Below.refl _ _).alloc (Nat.le_refl _) _)
   have F4 : Hid (AsF w (w3.alloc (.cells #[.string (vrN 84 (n + 1)), .slice none 0 0] 53)) P q q) := (F2.out.trans hf3).then ((Below.refl _ _).alloc (Nat.le_refl _) _)
   have V4 : Hid (Bq (w3.alloc (.cells #[.string (vrN 84 (n + 1)), .slice none 0 0] 53)) P q w3.heap.size #[.string (vrN 84 (n + 1)), .slice none 0 0] 53) := Bq.new hk3 _ _
   have A4 := hide ((hf3.bq A2.out).later ((Below.refl _ _).alloc (Nat.le_refl _) (.cells #[.string (vrN 84 (n + 1)), .slice none 0 0] 53)))
   have R4 := hide ((hf3.bq R2.out).later ((Below.refl _ _).alloc (Nat.le_refl _) (.cells #[.string (vrN 84 (n + 1)), .slice none 0 0] 53)))
   have S4 := hide ((hf3.sl S2.out).later ((Below.refl _ _).alloc (Nat.le_refl _) (.cells #[.string (vrN 84 (n + 1)), .slice none 0 0] 53)))
   clear hk3 hf3 K2 F2 A2 R2 S2 x0 x1 x2
   go_upto_region 6 with fail
   generalize w3.heap.size = V at *
   generalize w3.alloc (.cells #[.string (vrN 84 (n + 1)), .slice none 0 0] 53) = w4 at *
   have hE4 : Hid (∀ b, (E b ∨ b = w.heap.size + 1) → b < w4.heap.size) := fun b hb => by have h1 := R4.out.1.lt; rcases hb with hb | hb; exact Nat.lt_trans (hEw b hb) (by omega); omega
   have UP4 : Hid (Below B w w4) := (F4.out.1.below hK0 (fun b hb => by rcases hb with rfl | hb; exact K4.out.ge; exact (hq0 b hb).1)).mono hBN
   have hBw : Hid (B ≤ w4.heap.size) := Nat.le_trans (Nat.le_trans hBN hK0) F4.out.1.size
   have KB : Hid (∀ w', Below w4.heap.size w4 w' → (S8 B n V w b' o' c w')) := fun w' hb => ⟨V4.out.1.below hb V4.out.1.lt, A4.out.1.below hb A4.out.1.lt, UP4.out.trans (hb.mono hBw.out)⟩
   have KS : Hid (∀ w', (S8 B n V w b' o' c w') → (w'.cell? ⟨V, 0, none⟩ = some (.string (vrN 84 (n + 1))) ∧ w'.cell? ⟨V, 1, none⟩ = some (.slice none 0 0)) ∧ w'.cell? ⟨w.heap.size, 2, none⟩ = some (.slice (some ⟨b', o', none⟩) 1 c) ∧ (w'.cell? ⟨b', o', none⟩ = some (.int .i64 b.kind) ∧ w'.cell? ⟨b', o' + 1, none⟩ = some (.int .i64 b.idx) ∧ w'.cell? ⟨b', o' + 2, none⟩ = some (.slice a1 b.subs.length c1))) := fun w' h => ⟨⟨h.1.cell 0, h.1.cell 1⟩, h.2.1.cell 2, (KP.out w' h.2.2).1⟩
   have S4B : Hid (Sl w4 (fun d => Zq (fun b => E b ∨ b = w.heap.size + 1) N P q d ∧ d < w4.heap.size) au ar) := S4.out.mono fun d h1 h2 => ⟨h1, h2⟩
   have QN : Hid (∀ g, w4.heap.size ≤ g → g ≠ P ∧ some g ≠ q.ownBlock) := fun g hg => ⟨by have := K4.out.box.lt; omega, fun e => by have := (K4.out.own.lt g e.symm).2; omega⟩
   have HAL : Hid (ar.length ≤ 100000) := by unfold Hid; omega
   have CALL : Hid (∀ (E2 : Nat → Prop) (g cap : Nat) (wC : World), Below w4.heap.size w4 wC → Sl wC (Zq E2 N P q) (some ⟨g, 0, none⟩) (ar ++ [vrT 84 (n + 1)]) → ar.length + 1 ≤ cap → (∀ d, E2 d → d < wC.heap.size) → (∀ d, d < w4.heap.size → E2 d → E d ∨ d = w.heap.size + 1) → Calls Tryz.prog 26 #[.pointer (some ⟨P, 0, none⟩), .agg #[.int .i64 b.kind, .int .i64 b.idx, .slice a1 b.subs.length c1], .slice (some ⟨g, 0, none⟩) (ar.length + 1) cap] wC fun e w' => TyP 84 E2 N P 50 (n + 1) q cs b (ar ++ [vrT 84 (n + 1)]) wC e w') := by
    intro E2 g cap wC hb hs hc hE2 hEE
    have h := IHB.out E2 N P (n + 1) q (.agg #[.int .i64 b.kind, .int .i64 b.idx, .slice a1 b.subs.length c1]) cs (ar ++ [vrT 84 (n + 1)]) (some ⟨g, 0, none⟩) cap wC X HEB.out HCB.out (by omega) (by omega) (by simp; omega) (by simp; exact hc) (KP.out wC (KB.out wC hb).2.2).2 HX.out hBN ((K4.out.excl hEE).later hb) hs hE2
    rw [show (ar ++ [vrT 84 (n + 1)]).length = ar.length + 1 by simp] at h
    exact h
   go_cut [8] (fun V8 w9 => RgO (fun b => E b ∨ b = w.heap.size + 1) N P 50 n q cs b ar w4 V8 w9)
   case first =>
    have kd : (S8 B n V w b' o' c w4.drew) := KB.out _ (Below.refl _ _).drew
    have k0 : Below w4.heap.size w4 w4.drew := (Below.refl _ _).drew
    refine wp_region_held_drew (S := fun w' => (S8 B n V w b' o' c w')) (by kernel_rfl) kd (fun hHeld => ?_)
    refine tkq (v := ?_) 0 rfl ?_ ?_
    rotate_left
    ·intro w' hSw
     go_simp <;> with_reducible rfl
    try simp only [Act.put, sq]
    refine tkq (v := ?_) 1 rfl ?_ ?_
    rotate_left
    ·intro w' hSw
     go_simp <;> with_reducible rfl
    try simp only [Act.put, sq]
    refine tkq (v := ?_) 2 rfl ?_ ?_
    rotate_left
    ·intro w' hSw
     obtain ⟨⟨y0, y1⟩, y2, y3, y4, y5⟩ := KS.out w' hSw
     go_simp <;> with_reducible rfl
    try simp only [Act.put, sq]
    refine tkq (v := ?_) 3 rfl ?_ ?_
    rotate_left
    ·intro w' hSw
     go_simp <;> with_reducible rfl
    try simp only [Act.put, sq]
    refine tkq (v := ?_) 4 rfl ?_ ?_
    rotate_left
    ·intro w' hSw
     obtain ⟨⟨y0, y1⟩, y2, y3, y4, y5⟩ := KS.out w' hSw
     go_simp <;> with_reducible rfl
    try simp only [Act.put, sq]
    refine tkq (v := ?_) 6 rfl ?_ ?_
    rotate_left
    ·intro w' hSw
     go_simp <;> with_reducible rfl
    try simp only [Act.put, sq]
    refine tkq (v := ?_) 8 rfl ?_ ?_
    rotate_left
    ·intro w' hSw
     obtain ⟨⟨y0, y1⟩, y2, y3, y4, y5⟩ := KS.out w' hSw
     go_simp <;> with_reducible rfl
    try simp only [Act.put, sq]
    refine wpAnyH_ready (rs := [5, 9, 12]) (by kernel_rfl) (by simp) ?_
    refine AllReadyH.cons rfl (fun K hK => ?_) (AllReadyH.cons rfl (fun K hK => ?_) (AllReadyH.cons rfl (fun K hK => ?_) AllReadyH.nil))
    ·go_simp
     have kr1 : Below w4.heap.size w4 ((w4.alloc (.cells #[] 53)).drew) := ((Below.refl w4.heap.size w4).alloc (Nat.le_refl _) _).drew
     have owr1 : Hid (Below w4.heap.size w4 ((w4.alloc (.cells #[] 53)).drew)) := ((Below.refl _ _).alloc (Nat.le_refl _) _).drew
     have Gwr1 : Hid (Blk ((w4.alloc (.cells #[] 53)).drew) w4.heap.size #[] 53) := Blk.new w4 _ _
     have geGwr1 : Hid (w4.heap.size ≤ w4.heap.size) := Nat.le_refl _
     refine hK.out _ _ (by exact KB.out _ kr1) (fun hHeld => ?_)
     clear hK K
     try simp only [Act.put, sq]
     generalize ((w4.alloc (.cells #[] 53)).drew) = wr1 at *
     refine wpAnyH_ready (rs := [7, 9, 12]) (by kernel_rfl) (by simp) ?_
     refine AllReadyH.cons rfl (fun K hK => ?_) (AllReadyH.cons rfl (fun K hK => ?_) (AllReadyH.cons rfl (fun K hK => ?_) AllReadyH.nil))
     ·obtain ⟨vwr2, wr2, xswr2, hrun, hown, hrow, hbel, hfr, hsz, hat⟩ := spreadTI (c := ac) kr1 geGwr1.out Gwr1.out S4B.out HAL.out
      have HRwr2 := hide hrun
      have Rwr2 := hide hown
      have RRwr2 := hide hrow
      have kr2 := hbel
      clear hrun hown hrow hbel hfr hsz hat
      refine step_append_eqM rfl _ _ _ _ rfl rfl rfl HRwr2.out ?_
      refine hK.out _ _ (by exact KB.out _ kr2) (fun hHeld => ?_)
      clear hK K
      try simp only [Act.put, sq]
      refine wpAnyH_ready (rs := [9, 12]) (by kernel_rfl) (by simp) ?_
      refine AllReadyH.cons rfl (fun K hK => ?_) (AllReadyH.cons rfl (fun K hK => ?_) AllReadyH.nil)
      ·go_simp
       have kr3 : Below w4.heap.size w4 (wr2.alloc (.cells #[.string (vrN 84 (n + 1)), .slice none 0 0] 53)) := kr2.alloc kr2.size _
       have owr3 : Hid (Below wr2.heap.size wr2 (wr2.alloc (.cells #[.string (vrN 84 (n + 1)), .slice none 0 0] 53))) := ((Below.refl _ _).alloc (Nat.le_refl _) _)
       have Qwr3 : Hid (Blk (wr2.alloc (.cells #[.string (vrN 84 (n + 1)), .slice none 0 0] 53)) wr2.heap.size #[.string (vrN 84 (n + 1)), .slice none 0 0] 53) := Blk.new wr2 _ _
       have geQwr3 : Hid (w4.heap.size ≤ wr2.heap.size) := kr2.size
       have Rwr3 := hide (ownsRow_at Rwr2.out fun g hg => owr3.out.block g (Rwr2.out.lt g hg).2)
       refine hK.out _ _ (by exact KB.out _ kr3) (fun hHeld => ?_)
       clear hK K
       try simp only [Act.put, sq]
       generalize (wr2.alloc (.cells #[.string (vrN 84 (n + 1)), .slice none 0 0] 53)) = wr3 at *
       refine wpAnyH_ready (rs := [10, 12]) (by kernel_rfl) (by simp) ?_
       refine AllReadyH.cons rfl (fun K hK => ?_) (AllReadyH.cons rfl (fun K hK => ?_) AllReadyH.nil)
       ·obtain ⟨gwr4, capwr4, wr4, hrun, hsl, hbel, hgg, hcap, hfr, hsz, hat⟩ := oneTI kr3 Rwr3.out RRwr2.out Qwr3.out HAL.out
        have HRwr4 := hide hrun
        have Swr4 := hide hsl
        have Cwr4 := hide hcap
        have glwr4 := hide hgg.2
        have ggwr4 := hide hgg.1
        have kr4 := hbel
        clear hrun hsl hbel hgg hcap hfr hsz hat
        refine step_append_eqM rfl _ _ _ _ rfl rfl rfl HRwr4.out ?_
        refine hK.out _ _ (by exact KB.out _ kr4) (fun hHeld => ?_)
        clear hK K
        try simp only [Act.put, sq]
        refine wpAnyH_ready (rs := [11, 12]) (by kernel_rfl) (by simp) ?_
        refine AllReadyH.cons rfl (fun K hK => ?_) (AllReadyH.cons rfl (fun K hK => ?_) AllReadyH.nil)
        ·have SE : Hid (Sl wr4 (Zq (fun b => E b ∨ b = w.heap.size + 1) N P q) (some ⟨gwr4, 0, none⟩) (ar ++ [vrT 84 (n + 1)])) := seI Swr4.out (fun d hd h => h) ⟨Nat.le_trans K4.out.le ggwr4.out, (QN.out _ ggwr4.out).1, (QN.out _ ggwr4.out).2, fun h => by have h1 := hE4.out _ h; have h2 := ggwr4.out; omega⟩
         have CL := CALL.out (fun b => E b ∨ b = w.heap.size + 1) gwr4 capwr4 wr4 kr4 SE.out Cwr4.out (fun d h => Nat.lt_of_lt_of_le (hE4.out d h) kr4.size) (fun d hd h => h)
         have HCL := hide CL
         clear CL
         go_simp
         go_at_call 26
         refine HCL.out.mono ?_
         rintro e w9 ⟨a9, c9, q9, cs9, rfl, hs9, hk9, hm9, hf9⟩
         have F9 : Hid (AsF w4 w9 P q q9) := (AsF.ofBelow kr4 P q).trans hf9
         have K9 := hide hk9
         have S9 := hide hs9
         have M9 := hide hm9
         have hS9 : (S8 B n V w b' o' c w9) := ⟨(F9.out.bq V4.out).1, (F9.out.bq A4.out).1, UP4.out.trans ((K4.out.below F9.out).mono hBN)⟩
         clear hs9 hk9 hm9 hf9 HCL SE
         generalize hty : tyT 84 b (ar ++ [vrT 84 (n + 1)]) (n + 1) = r at *
         have HTY := hide hty
         clear hty
         go_simp
         refine hK.out _ _ (by exact hS9) (fun hHeld => ?_)
         clear hK K
         try simp only [Act.put, sq]
         have hS10 := hS9
         refine rdq 12 rfl fun K hK => ?_
         go_simp
         have owr6 : Hid (Below w9.heap.size w9 (w9.alloc (.cells #[.string ⟨#[]⟩, .slice none 0 0] 53))) := (Below.refl _ _).alloc (Nat.le_refl _) _
         have Awr6 : Hid (Bq (w9.alloc (.cells #[.string ⟨#[]⟩, .slice none 0 0] 53)) P q9 w9.heap.size #[.string ⟨#[]⟩, .slice none 0 0] 53) := Bq.new K9.out _ _
         have Kwr6 : Hid (AsK (fun d => (E d ∨ d = w.heap.size + 1) ∨ d = w9.heap.size) (w9.alloc (.cells #[.string ⟨#[]⟩, .slice none 0 0] 53)) N P 50 r.2.2 q9 cs9) := (K9.out.excl (E' := fun d => (E d ∨ d = w.heap.size + 1) ∨ d = w9.heap.size) fun d hd h => h.elim id (fun h => by omega)).later owr6.out
         have Swr6 : Hid (Sl (w9.alloc (.cells #[.string ⟨#[]⟩, .slice none 0 0] 53)) (Zq (fun d => (E d ∨ d = w.heap.size + 1) ∨ d = w9.heap.size) N P q9) a9 r.1.args) := (sl_excl (E' := fun d => (E d ∨ d = w.heap.size + 1) ∨ d = w9.heap.size) S9.out fun d hd h => h.elim id (fun h => by omega)).later owr6.out
         have Fwr6 := hide (F9.out.then owr6.out)
         have gewr6 : Hid (w4.heap.size ≤ w9.heap.size) := F9.out.1.size
         have Hwr6 : (S8 B n V w b' o' c (w9.alloc (.cells #[.string ⟨#[]⟩, .slice none 0 0] 53))) := ⟨hS9.1.alloc _, hS9.2.1.alloc _, hS9.2.2.alloc (belSizeI hS9.2.2 (Nat.le_trans hBN hK0)) _⟩
         refine hK.out _ _ (by exact Hwr6) (fun hHeld => ?_)
         clear hK K
         try simp only [Act.put, sq]
         have hS10 := Hwr6
         generalize (w9.alloc (.cells #[.string ⟨#[]⟩, .slice none 0 0] 53)) = wz at *
         obtain ⟨KX, FX, BX, SX⟩ := AsK.store (E := (fun b => E b ∨ b = w.heap.size + 1)) Kwr6.out Fwr6.out Awr6.out gewr6.out (.string r.1.name) (.slice a9 r.1.args.length c9) Swr6.out
         have b0 := Awr6.out.1.cell 0
         have b1 := Awr6.out.1.cell 1
         have z0 := Awr6.out.1.frozen 0
         have z1 := Awr6.out.1.frozen 1
         simp only [List.getElem?_toArray, List.getElem?_cons_zero, List.getElem?_cons_succ] at b0 b1
         have neV : V ≠ w9.heap.size := fun e => by have h1 := V4.out.1.lt; have h2 := gewr6.out; omega
         have neA : w.heap.size ≠ w9.heap.size := fun e => by have h1 := A4.out.1.lt; have h2 := gewr6.out; omega
         have HX : (S8 B n V w b' o' c ((wz.setCell ⟨w9.heap.size, 0, none⟩ (.string r.1.name)).setCell ⟨w9.heap.size, 1, none⟩ (.slice a9 r.1.args.length c9))) := ⟨(hS10.1.setOther 0 _ neV).setOther 1 _ neV, (hS10.2.1.setOther 0 _ neA).setOther 1 _ neA, belSetI (belSetI hS10.2.2 (Nat.le_trans hBw.out gewr6.out) 0 _) (Nat.le_trans hBw.out gewr6.out) 1 _⟩
         refine rdq 13 rfl fun K hK => ?_
         go_simp
         refine hK.out _ _ (by exact HX) (fun hHeld => ?_)
         clear hK K
         try simp only [Act.put, sq]
         refine wpAnyH_done (by kernel_rfl) ?_ _
         have FIN := hide (rgO_mk HTY.out ⟨BX, (FX.bq0 Awr6.out)⟩ SX KX M9.out FX)
         clear b0 b1 z0 z1
         go_wp2_with fail
         go_meet
         exact FIN.out
        ·go_simp
         have kr7 : Below w4.heap.size w4 (wr4.alloc (.cells #[.string ⟨#[]⟩, .slice none 0 0] 53)) := kr4.alloc kr4.size _
         have owr7 : Hid (Below wr4.heap.size wr4 (wr4.alloc (.cells #[.string ⟨#[]⟩, .slice none 0 0] 53))) := ((Below.refl _ _).alloc (Nat.le_refl _) _)
         have Awr7 : Hid (Blk (wr4.alloc (.cells #[.string ⟨#[]⟩, .slice none 0 0] 53)) wr4.heap.size #[.string ⟨#[]⟩, .slice none 0 0] 53) := Blk.new wr4 _ _
         have geAwr7 : Hid (w4.heap.size ≤ wr4.heap.size) := kr4.size
         have Swr7 := hide (Swr4.out.later owr7.out)
         have glwr7 : Hid (gwr4 < (wr4.alloc (.cells #[.string ⟨#[]⟩, .slice none 0 0] 53)).heap.size) := Nat.lt_of_lt_of_le glwr4.out owr7.out.size
         have ngwr7 : Hid (gwr4 ≠ wr4.heap.size) := by have h1 := glwr4.out; unfold Hid; omega
         refine hK.out _ _ (by exact KB.out _ kr7) (fun hHeld => ?_)
         clear hK K
         try simp only [Act.put, sq]
         generalize (wr4.alloc (.cells #[.string ⟨#[]⟩, .slice none 0 0] 53)) = wr7 at *
         refine rdq 11 rfl fun K hK => ?_
         have SE : Hid (Sl wr7 (Zq (fun d => (E d ∨ d = w.heap.size + 1) ∨ d = wr4.heap.size) N P q) (some ⟨gwr4, 0, none⟩) (ar ++ [vrT 84 (n + 1)])) := seI Swr7.out (fun d hd h => h.elim id (fun h => by have h1 := geAwr7.out; omega)) ⟨Nat.le_trans K4.out.le ggwr4.out, (QN.out _ ggwr4.out).1, (QN.out _ ggwr4.out).2, fun h => h.elim (fun h => by have h1 := hE4.out _ h; have h2 := ggwr4.out; omega) ngwr7.out⟩
         have AQ : Hid (Bq wr7 P q wr4.heap.size #[.string ⟨#[]⟩, .slice none 0 0] 53) := ⟨Awr7.out, QN.out _ geAwr7.out⟩
         have CL := CALL.out (fun d => (E d ∨ d = w.heap.size + 1) ∨ d = wr4.heap.size) gwr4 capwr4 wr7 kr7 SE.out Cwr4.out (fun d hd => hd.elim (fun h => Nat.lt_of_lt_of_le (hE4.out d h) kr7.size) (fun h => by rw [h]; exact Awr7.out.lt)) (fun d hd h => h.elim id (fun h => by have h1 := geAwr7.out; omega))
         have HCL := hide CL
         clear CL
         go_simp
         go_at_call 26
         refine HCL.out.mono ?_
         rintro e w9 ⟨a9, c9, q9, cs9, rfl, hs9, hk9, hm9, hf9⟩
         have F9 : Hid (AsF w4 w9 P q q9) := (AsF.ofBelow kr7 P q).trans hf9
         have K9 := hide hk9
         have S9 := hide hs9
         have M9 := hide hm9
         have hS9 : (S8 B n V w b' o' c w9) := ⟨(F9.out.bq V4.out).1, (F9.out.bq A4.out).1, UP4.out.trans ((K4.out.below F9.out).mono hBN)⟩
         have A9 := hide (hf9.bq AQ.out)
         clear hs9 hk9 hm9 hf9 HCL SE
         generalize hty : tyT 84 b (ar ++ [vrT 84 (n + 1)]) (n + 1) = r at *
         have HTY := hide hty
         clear hty
         go_simp
         refine hK.out _ _ (by exact hS9) (fun hHeld => ?_)
         clear hK K
         try simp only [Act.put, sq]
         have hS10 := hS9
         obtain ⟨KX, FX, BX, SX⟩ := AsK.store (E := (fun b => E b ∨ b = w.heap.size + 1)) K9.out F9.out A9.out geAwr7.out (.string r.1.name) (.slice a9 r.1.args.length c9) S9.out
         have b0 := A9.out.1.cell 0
         have b1 := A9.out.1.cell 1
         have z0 := A9.out.1.frozen 0
         have z1 := A9.out.1.frozen 1
         simp only [List.getElem?_toArray, List.getElem?_cons_zero, List.getElem?_cons_succ] at b0 b1
         have neV : V ≠ wr4.heap.size := fun e => by have h1 := V4.out.1.lt; have h2 := geAwr7.out; omega
         have neA : w.heap.size ≠ wr4.heap.size := fun e => by have h1 := A4.out.1.lt; have h2 := geAwr7.out; omega
         have HX : (S8 B n V w b' o' c ((w9.setCell ⟨wr4.heap.size, 0, none⟩ (.string r.1.name)).setCell ⟨wr4.heap.size, 1, none⟩ (.slice a9 r.1.args.length c9))) := ⟨(hS10.1.setOther 0 _ neV).setOther 1 _ neV, (hS10.2.1.setOther 0 _ neA).setOther 1 _ neA, belSetI (belSetI hS10.2.2 (Nat.le_trans hBw.out geAwr7.out) 0 _) (Nat.le_trans hBw.out geAwr7.out) 1 _⟩
         refine rdq 13 rfl fun K hK => ?_
         go_simp
         refine hK.out _ _ (by exact HX) (fun hHeld => ?_)
         clear hK K
         try simp only [Act.put, sq]
         refine wpAnyH_done (by kernel_rfl) ?_ _
         have FIN := hide (rgO_mk HTY.out ⟨BX, (FX.bq0 A9.out)⟩ SX KX M9.out FX)
         clear b0 b1 z0 z1
         go_wp2_with fail
         go_meet
         exact FIN.out
       ·go_simp
        have kr9 : Below w4.heap.size w4 (wr3.alloc (.cells #[.string ⟨#[]⟩, .slice none 0 0] 53)) := kr3.alloc kr3.size _
        have owr9 : Hid (Below wr3.heap.size wr3 (wr3.alloc (.cells #[.string ⟨#[]⟩, .slice none 0 0] 53))) := ((Below.refl _ _).alloc (Nat.le_refl _) _)
        have Awr9 : Hid (Blk (wr3.alloc (.cells #[.string ⟨#[]⟩, .slice none 0 0] 53)) wr3.heap.size #[.string ⟨#[]⟩, .slice none 0 0] 53) := Blk.new wr3 _ _
        have Qwr9 := hide (Qwr3.out.below owr9.out Qwr3.out.lt)
        have neQAwr9 : Hid (wr2.heap.size ≠ wr3.heap.size) := by have h1 := Qwr3.out.lt; unfold Hid; omega
        have geAwr9 : Hid (w4.heap.size ≤ wr3.heap.size) := kr3.size
        have Rwr9 := hide (ownsRow_at Rwr3.out fun g hg => owr9.out.block g (Rwr3.out.lt g hg).2)
        have nrwr9 : Hid (some wr3.heap.size ≠ (vwr2 : Value).ownBlock) := fun e => by have h1 := (Rwr3.out.lt _ e.symm).2; omega
        refine hK.out _ _ (by exact KB.out _ kr9) (fun hHeld => ?_)
        clear hK K
        try simp only [Act.put, sq]
        generalize (wr3.alloc (.cells #[.string ⟨#[]⟩, .slice none 0 0] 53)) = wr9 at *
        refine rdq 10 rfl fun K hK => ?_
        obtain ⟨gwr10, capwr10, wr10, hrun, hsl, hbel, hgg, hcap, hfr, hsz, hat⟩ := oneTI kr9 Rwr9.out RRwr2.out Qwr9.out HAL.out
        have HRwr10 := hide hrun
        have Swr10 := hide hsl
        have Cwr10 := hide hcap
        have glwr10 := hide hgg.2
        have ggwr10 := hide hgg.1
        have kr10 := hbel
        have Awr10 : Hid (Blk wr10 wr3.heap.size #[.string ⟨#[]⟩, .slice none 0 0] 53) := (hfr _ Awr9.out.lt nrwr9.out).trans Awr9.out
        have ngwr10 : Hid (gwr10 ≠ wr3.heap.size) := fun e => by have h1 := Awr9.out.lt; rcases hat with h2 | h2; exact nrwr9.out (by rw [h2, e]); omega
        clear hrun hsl hbel hgg hcap hfr hsz hat
        refine step_append_eqM rfl _ _ _ _ rfl rfl rfl HRwr10.out ?_
        refine hK.out _ _ (by exact KB.out _ kr10) (fun hHeld => ?_)
        clear hK K
        try simp only [Act.put, sq]
        refine rdq 11 rfl fun K hK => ?_
        have SE : Hid (Sl wr10 (Zq (fun d => (E d ∨ d = w.heap.size + 1) ∨ d = wr3.heap.size) N P q) (some ⟨gwr10, 0, none⟩) (ar ++ [vrT 84 (n + 1)])) := seI Swr10.out (fun d hd h => h.elim id (fun h => by have h1 := geAwr9.out; omega)) ⟨Nat.le_trans K4.out.le ggwr10.out, (QN.out _ ggwr10.out).1, (QN.out _ ggwr10.out).2, fun h => h.elim (fun h => by have h1 := hE4.out _ h; have h2 := ggwr10.out; omega) ngwr10.out⟩
        have AQ : Hid (Bq wr10 P q wr3.heap.size #[.string ⟨#[]⟩, .slice none 0 0] 53) := ⟨Awr10.out, QN.out _ geAwr9.out⟩
        have CL := CALL.out (fun d => (E d ∨ d = w.heap.size + 1) ∨ d = wr3.heap.size) gwr10 capwr10 wr10 kr10 SE.out Cwr10.out (fun d hd => hd.elim (fun h => Nat.lt_of_lt_of_le (hE4.out d h) kr10.size) (fun h => by rw [h]; exact Awr10.out.lt)) (fun d hd h => h.elim id (fun h => by have h1 := geAwr9.out; omega))
        have HCL := hide CL
        clear CL
        go_simp
        go_at_call 26
        refine HCL.out.mono ?_
        rintro e w9 ⟨a9, c9, q9, cs9, rfl, hs9, hk9, hm9, hf9⟩
        have F9 : Hid (AsF w4 w9 P q q9) := (AsF.ofBelow kr10 P q).trans hf9
        have K9 := hide hk9
        have S9 := hide hs9
        have M9 := hide hm9
        have hS9 : (S8 B n V w b' o' c w9) := ⟨(F9.out.bq V4.out).1, (F9.out.bq A4.out).1, UP4.out.trans ((K4.out.below F9.out).mono hBN)⟩
        have A9 := hide (hf9.bq AQ.out)
        clear hs9 hk9 hm9 hf9 HCL SE
        generalize hty : tyT 84 b (ar ++ [vrT 84 (n + 1)]) (n + 1) = r at *
        have HTY := hide hty
        clear hty
        go_simp
        refine hK.out _ _ (by exact hS9) (fun hHeld => ?_)
        clear hK K
        try simp only [Act.put, sq]
        have hS10 := hS9
        obtain ⟨KX, FX, BX, SX⟩ := AsK.store (E := (fun b => E b ∨ b = w.heap.size + 1)) K9.out F9.out A9.out geAwr9.out (.string r.1.name) (.slice a9 r.1.args.length c9) S9.out
        have b0 := A9.out.1.cell 0
        have b1 := A9.out.1.cell 1
        have z0 := A9.out.1.frozen 0
        have z1 := A9.out.1.frozen 1
        simp only [List.getElem?_toArray, List.getElem?_cons_zero, List.getElem?_cons_succ] at b0 b1
        have neV : V ≠ wr3.heap.size := fun e => by have h1 := V4.out.1.lt; have h2 := geAwr9.out; omega
        have neA : w.heap.size ≠ wr3.heap.size := fun e => by have h1 := A4.out.1.lt; have h2 := geAwr9.out; omega
        have HX : (S8 B n V w b' o' c ((w9.setCell ⟨wr3.heap.size, 0, none⟩ (.string r.1.name)).setCell ⟨wr3.heap.size, 1, none⟩ (.slice a9 r.1.args.length c9))) := ⟨(hS10.1.setOther 0 _ neV).setOther 1 _ neV, (hS10.2.1.setOther 0 _ neA).setOther 1 _ neA, belSetI (belSetI hS10.2.2 (Nat.le_trans hBw.out geAwr9.out) 0 _) (Nat.le_trans hBw.out geAwr9.out) 1 _⟩
        refine rdq 13 rfl fun K hK => ?_
        go_simp
        refine hK.out _ _ (by exact HX) (fun hHeld => ?_)
        clear hK K
        try simp only [Act.put, sq]
        refine wpAnyH_done (by kernel_rfl) ?_ _
        have FIN := hide (rgO_mk HTY.out ⟨BX, (FX.bq0 A9.out)⟩ SX KX M9.out FX)
        clear b0 b1 z0 z1
        go_wp2_with fail
        go_meet
        exact FIN.out
      ·go_simp
       have kr12 : Below w4.heap.size w4 (wr2.alloc (.cells #[.string ⟨#[]⟩, .slice none 0 0] 53)) := kr2.alloc kr2.size _
       have owr12 : Hid (Below wr2.heap.size wr2 (wr2.alloc (.cells #[.string ⟨#[]⟩, .slice none 0 0] 53))) := ((Below.refl _ _).alloc (Nat.le_refl _) _)
       have Awr12 : Hid (Blk (wr2.alloc (.cells #[.string ⟨#[]⟩, .slice none 0 0] 53)) wr2.heap.size #[.string ⟨#[]⟩, .slice none 0 0] 53) := Blk.new wr2 _ _
       have geAwr12 : Hid (w4.heap.size ≤ wr2.heap.size) := kr2.size
       have Rwr12 := hide (ownsRow_at Rwr2.out fun g hg => owr12.out.block g (Rwr2.out.lt g hg).2)
       have nrwr12 : Hid (some wr2.heap.size ≠ (vwr2 : Value).ownBlock) := fun e => by have h1 := (Rwr2.out.lt _ e.symm).2; omega
       refine hK.out _ _ (by exact KB.out _ kr12) (fun hHeld => ?_)
       clear hK K
       try simp only [Act.put, sq]
       generalize (wr2.alloc (.cells #[.string ⟨#[]⟩, .slice none 0 0] 53)) = wr12 at *
       refine rdq 9 rfl fun K hK => ?_
       go_simp
       have kr13 : Below w4.heap.size w4 (wr12.alloc (.cells #[.string (vrN 84 (n + 1)), .slice none 0 0] 53)) := kr12.alloc kr12.size _
       have owr13 : Hid (Below wr12.heap.size wr12 (wr12.alloc (.cells #[.string (vrN 84 (n + 1)), .slice none 0 0] 53))) := ((Below.refl _ _).alloc (Nat.le_refl _) _)
       have Qwr13 : Hid (Blk (wr12.alloc (.cells #[.string (vrN 84 (n + 1)), .slice none 0 0] 53)) wr12.heap.size #[.string (vrN 84 (n + 1)), .slice none 0 0] 53) := Blk.new wr12 _ _
       have Awr13 := hide (Awr12.out.below owr13.out Awr12.out.lt)
       have neAQwr13 : Hid (wr2.heap.size ≠ wr12.heap.size) := by have h1 := Awr12.out.lt; unfold Hid; omega
       have geQwr13 : Hid (w4.heap.size ≤ wr12.heap.size) := kr12.size
       have Rwr13 := hide (ownsRow_at Rwr12.out fun g hg => owr13.out.block g (Rwr12.out.lt g hg).2)
       refine hK.out _ _ (by exact KB.out _ kr13) (fun hHeld => ?_)
       clear hK K
       try simp only [Act.put, sq]
       generalize (wr12.alloc (.cells #[.string (vrN 84 (n + 1)), .slice none 0 0] 53)) = wr13 at *
       refine rdq 10 rfl fun K hK => ?_
       obtain ⟨gwr14, capwr14, wr14, hrun, hsl, hbel, hgg, hcap, hfr, hsz, hat⟩ := oneTI kr13 Rwr13.out RRwr2.out Qwr13.out HAL.out
       have HRwr14 := hide hrun
       have Swr14 := hide hsl
       have Cwr14 := hide hcap
       have glwr14 := hide hgg.2
       have ggwr14 := hide hgg.1
       have kr14 := hbel
       have Awr14 : Hid (Blk wr14 wr2.heap.size #[.string ⟨#[]⟩, .slice none 0 0] 53) := (hfr _ Awr13.out.lt nrwr12.out).trans Awr13.out
       have ngwr14 : Hid (gwr14 ≠ wr2.heap.size) := fun e => by have h1 := Awr13.out.lt; rcases hat with h2 | h2; exact nrwr12.out (by rw [h2, e]); omega
       clear hrun hsl hbel hgg hcap hfr hsz hat
       refine step_append_eqM rfl _ _ _ _ rfl rfl rfl HRwr14.out ?_
       refine hK.out _ _ (by exact KB.out _ kr14) (fun hHeld => ?_)
       clear hK K
       try simp only [Act.put, sq]
       refine rdq 11 rfl fun K hK => ?_
       have SE : Hid (Sl wr14 (Zq (fun d => (E d ∨ d = w.heap.size + 1) ∨ d = wr2.heap.size) N P q) (some ⟨gwr14, 0, none⟩) (ar ++ [vrT 84 (n + 1)])) := seI Swr14.out (fun d hd h => h.elim id (fun h => by have h1 := geAwr12.out; omega)) ⟨Nat.le_trans K4.out.le ggwr14.out, (QN.out _ ggwr14.out).1, (QN.out _ ggwr14.out).2, fun h => h.elim (fun h => by have h1 := hE4.out _ h; have h2 := ggwr14.out; omega) ngwr14.out⟩
       have AQ : Hid (Bq wr14 P q wr2.heap.size #[.string ⟨#[]⟩, .slice none 0 0] 53) := ⟨Awr14.out, QN.out _ geAwr12.out⟩
       have CL := CALL.out (fun d => (E d ∨ d = w.heap.size + 1) ∨ d = wr2.heap.size) gwr14 capwr14 wr14 kr14 SE.out Cwr14.out (fun d hd => hd.elim (fun h => Nat.lt_of_lt_of_le (hE4.out d h) kr14.size) (fun h => by rw [h]; exact Awr14.out.lt)) (fun d hd h => h.elim id (fun h => by have h1 := geAwr12.out; omega))
       have HCL := hide CL
       clear CL
       go_simp
       go_at_call 26
       refine HCL.out.mono ?_
       rintro e w9 ⟨a9, c9, q9, cs9, rfl, hs9, hk9, hm9, hf9⟩
       have F9 : Hid (AsF w4 w9 P q q9) := (AsF.ofBelow kr14 P q).trans hf9
       have K9 := hide hk9
       have S9 := hide hs9
       have M9 := hide hm9
       have hS9 : (S8 B n V w b' o' c w9) := ⟨(F9.out.bq V4.out).1, (F9.out.bq A4.out).1, UP4.out.trans ((K4.out.below F9.out).mono hBN)⟩
       have A9 := hide (hf9.bq AQ.out)
       clear hs9 hk9 hm9 hf9 HCL SE
       generalize hty : tyT 84 b (ar ++ [vrT 84 (n + 1)]) (n + 1) = r at *
       have HTY := hide hty
       clear hty
       go_simp
       refine hK.out _ _ (by exact hS9) (fun hHeld => ?_)
       clear hK K
       try simp only [Act.put, sq]
       have hS10 := hS9
       obtain ⟨KX, FX, BX, SX⟩ := AsK.store (E := (fun b => E b ∨ b = w.heap.size + 1)) K9.out F9.out A9.out geAwr12.out (.string r.1.name) (.slice a9 r.1.args.length c9) S9.out
       have b0 := A9.out.1.cell 0
       have b1 := A9.out.1.cell 1
       have z0 := A9.out.1.frozen 0
       have z1 := A9.out.1.frozen 1
       simp only [List.getElem?_toArray, List.getElem?_cons_zero, List.getElem?_cons_succ] at b0 b1
       have neV : V ≠ wr2.heap.size := fun e => by have h1 := V4.out.1.lt; have h2 := geAwr12.out; omega
       have neA : w.heap.size ≠ wr2.heap.size := fun e => by have h1 := A4.out.1.lt; have h2 := geAwr12.out; omega
       have HX : (S8 B n V w b' o' c ((w9.setCell ⟨wr2.heap.size, 0, none⟩ (.string r.1.name)).setCell ⟨wr2.heap.size, 1, none⟩ (.slice a9 r.1.args.length c9))) := ⟨(hS10.1.setOther 0 _ neV).setOther 1 _ neV, (hS10.2.1.setOther 0 _ neA).setOther 1 _ neA, belSetI (belSetI hS10.2.2 (Nat.le_trans hBw.out geAwr12.out) 0 _) (Nat.le_trans hBw.out geAwr12.out) 1 _⟩
       refine rdq 13 rfl fun K hK => ?_
       go_simp
       refine hK.out _ _ (by exact HX) (fun hHeld => ?_)
       clear hK K
       try simp only [Act.put, sq]
       refine wpAnyH_done (by kernel_rfl) ?_ _
       have FIN := hide (rgO_mk HTY.out ⟨BX, (FX.bq0 A9.out)⟩ SX KX M9.out FX)
       clear b0 b1 z0 z1
       go_wp2_with fail
       go_meet
       exact FIN.out
     ·go_simp
      have kr16 : Below w4.heap.size w4 (wr1.alloc (.cells #[.string (vrN 84 (n + 1)), .slice none 0 0] 53)) := kr1.alloc kr1.size _
      have owr16 : Hid (Below wr1.heap.size wr1 (wr1.alloc (.cells #[.string (vrN 84 (n + 1)), .slice none 0 0] 53))) := ((Below.refl _ _).alloc (Nat.le_refl _) _)
      have Qwr16 : Hid (Blk (wr1.alloc (.cells #[.string (vrN 84 (n + 1)), .slice none 0 0] 53)) wr1.heap.size #[.string (vrN 84 (n + 1)), .slice none 0 0] 53) := Blk.new wr1 _ _
      have Gwr16 := hide (Gwr1.out.below owr16.out Gwr1.out.lt)
      have neGQwr16 : Hid (w4.heap.size ≠ wr1.heap.size) := by have h1 := Gwr1.out.lt; unfold Hid; omega
      have geQwr16 : Hid (w4.heap.size ≤ wr1.heap.size) := kr1.size
      refine hK.out _ _ (by exact KB.out _ kr16) (fun hHeld => ?_)
      clear hK K
      try simp only [Act.put, sq]
      generalize (wr1.alloc (.cells #[.string (vrN 84 (n + 1)), .slice none 0 0] 53)) = wr16 at *
      refine wpAnyH_ready (rs := [7, 12]) (by kernel_rfl) (by simp) ?_
      refine AllReadyH.cons rfl (fun K hK => ?_) (AllReadyH.cons rfl (fun K hK => ?_) AllReadyH.nil)
      ·obtain ⟨vwr17, wr17, xswr17, hrun, hown, hrow, hbel, hfr, hsz, hat⟩ := spreadTI (c := ac) kr16 geGwr1.out Gwr16.out S4B.out HAL.out
       have HRwr17 := hide hrun
       have Rwr17 := hide hown
       have RRwr17 := hide hrow
       have kr17 := hbel
       have Qwr17 : Hid (Blk wr17 wr1.heap.size #[.string (vrN 84 (n + 1)), .slice none 0 0] 53) := (hfr _ Qwr16.out.lt ((neGQwr16.out).symm)).trans Qwr16.out
       clear hrun hown hrow hbel hfr hsz hat
       refine step_append_eqM rfl _ _ _ _ rfl rfl rfl HRwr17.out ?_
       refine hK.out _ _ (by exact KB.out _ kr17) (fun hHeld => ?_)
       clear hK K
       try simp only [Act.put, sq]
       refine wpAnyH_ready (rs := [10, 12]) (by kernel_rfl) (by simp) ?_
       refine AllReadyH.cons rfl (fun K hK => ?_) (AllReadyH.cons rfl (fun K hK => ?_) AllReadyH.nil)
       ·obtain ⟨gwr18, capwr18, wr18, hrun, hsl, hbel, hgg, hcap, hfr, hsz, hat⟩ := oneTI kr17 Rwr17.out RRwr17.out Qwr17.out HAL.out
        have HRwr18 := hide hrun
        have Swr18 := hide hsl
        have Cwr18 := hide hcap
        have glwr18 := hide hgg.2
        have ggwr18 := hide hgg.1
        have kr18 := hbel
        clear hrun hsl hbel hgg hcap hfr hsz hat
        refine step_append_eqM rfl _ _ _ _ rfl rfl rfl HRwr18.out ?_
        refine hK.out _ _ (by exact KB.out _ kr18) (fun hHeld => ?_)
        clear hK K
        try simp only [Act.put, sq]
        refine wpAnyH_ready (rs := [11, 12]) (by kernel_rfl) (by simp) ?_
        refine AllReadyH.cons rfl (fun K hK => ?_) (AllReadyH.cons rfl (fun K hK => ?_) AllReadyH.nil)
        ·have SE : Hid (Sl wr18 (Zq (fun b => E b ∨ b = w.heap.size + 1) N P q) (some ⟨gwr18, 0, none⟩) (ar ++ [vrT 84 (n + 1)])) := seI Swr18.out (fun d hd h => h) ⟨Nat.le_trans K4.out.le ggwr18.out, (QN.out _ ggwr18.out).1, (QN.out _ ggwr18.out).2, fun h => by have h1 := hE4.out _ h; have h2 := ggwr18.out; omega⟩
         have CL := CALL.out (fun b => E b ∨ b = w.heap.size + 1) gwr18 capwr18 wr18 kr18 SE.out Cwr18.out (fun d h => Nat.lt_of_lt_of_le (hE4.out d h) kr18.size) (fun d hd h => h)
         have HCL := hide CL
         clear CL
         go_simp
         go_at_call 26
         refine HCL.out.mono ?_
         rintro e w9 ⟨a9, c9, q9, cs9, rfl, hs9, hk9, hm9, hf9⟩
         have F9 : Hid (AsF w4 w9 P q q9) := (AsF.ofBelow kr18 P q).trans hf9
         have K9 := hide hk9
         have S9 := hide hs9
         have M9 := hide hm9
         have hS9 : (S8 B n V w b' o' c w9) := ⟨(F9.out.bq V4.out).1, (F9.out.bq A4.out).1, UP4.out.trans ((K4.out.below F9.out).mono hBN)⟩
         clear hs9 hk9 hm9 hf9 HCL SE
         generalize hty : tyT 84 b (ar ++ [vrT 84 (n + 1)]) (n + 1) = r at *
         have HTY := hide hty
         clear hty
         go_simp
         refine hK.out _ _ (by exact hS9) (fun hHeld => ?_)
         clear hK K
         try simp only [Act.put, sq]
         have hS10 := hS9
         refine rdq 12 rfl fun K hK => ?_
         go_simp
         have owr20 : Hid (Below w9.heap.size w9 (w9.alloc (.cells #[.string ⟨#[]⟩, .slice none 0 0] 53))) := (Below.refl _ _).alloc (Nat.le_refl _) _
         have Awr20 : Hid (Bq (w9.alloc (.cells #[.string ⟨#[]⟩, .slice none 0 0] 53)) P q9 w9.heap.size #[.string ⟨#[]⟩, .slice none 0 0] 53) := Bq.new K9.out _ _
         have Kwr20 : Hid (AsK (fun d => (E d ∨ d = w.heap.size + 1) ∨ d = w9.heap.size) (w9.alloc (.cells #[.string ⟨#[]⟩, .slice none 0 0] 53)) N P 50 r.2.2 q9 cs9) := (K9.out.excl (E' := fun d => (E d ∨ d = w.heap.size + 1) ∨ d = w9.heap.size) fun d hd h => h.elim id (fun h => by omega)).later owr20.out
         have Swr20 : Hid (Sl (w9.alloc (.cells #[.string ⟨#[]⟩, .slice none 0 0] 53)) (Zq (fun d => (E d ∨ d = w.heap.size + 1) ∨ d = w9.heap.size) N P q9) a9 r.1.args) := (sl_excl (E' := fun d => (E d ∨ d = w.heap.size + 1) ∨ d = w9.heap.size) S9.out fun d hd h => h.elim id (fun h => by omega)).later owr20.out
         have Fwr20 := hide (F9.out.then owr20.out)
         have gewr20 : Hid (w4.heap.size ≤ w9.heap.size) := F9.out.1.size
         have Hwr20 : (S8 B n V w b' o' c (w9.alloc (.cells #[.string ⟨#[]⟩, .slice none 0 0] 53))) := ⟨hS9.1.alloc _, hS9.2.1.alloc _, hS9.2.2.alloc (belSizeI hS9.2.2 (Nat.le_trans hBN hK0)) _⟩
         refine hK.out _ _ (by exact Hwr20) (fun hHeld => ?_)
         clear hK K
         try simp only [Act.put, sq]
         have hS10 := Hwr20
         generalize (w9.alloc (.cells #[.string ⟨#[]⟩, .slice none 0 0] 53)) = wz at *
         obtain ⟨KX, FX, BX, SX⟩ := AsK.store (E := (fun b => E b ∨ b = w.heap.size + 1)) Kwr20.out Fwr20.out Awr20.out gewr20.out (.string r.1.name) (.slice a9 r.1.args.length c9) Swr20.out
         have b0 := Awr20.out.1.cell 0
         have b1 := Awr20.out.1.cell 1
         have z0 := Awr20.out.1.frozen 0
         have z1 := Awr20.out.1.frozen 1
         simp only [List.getElem?_toArray, List.getElem?_cons_zero, List.getElem?_cons_succ] at b0 b1
         have neV : V ≠ w9.heap.size := fun e => by have h1 := V4.out.1.lt; have h2 := gewr20.out; omega
         have neA : w.heap.size ≠ w9.heap.size := fun e => by have h1 := A4.out.1.lt; have h2 := gewr20.out; omega
         have HX : (S8 B n V w b' o' c ((wz.setCell ⟨w9.heap.size, 0, none⟩ (.string r.1.name)).setCell ⟨w9.heap.size, 1, none⟩ (.slice a9 r.1.args.length c9))) := ⟨(hS10.1.setOther 0 _ neV).setOther 1 _ neV, (hS10.2.1.setOther 0 _ neA).setOther 1 _ neA, belSetI (belSetI hS10.2.2 (Nat.le_trans hBw.out gewr20.out) 0 _) (Nat.le_trans hBw.out gewr20.out) 1 _⟩
         refine rdq 13 rfl fun K hK => ?_
         go_simp
         refine hK.out _ _ (by exact HX) (fun hHeld => ?_)
         clear hK K
         try simp only [Act.put, sq]
         refine wpAnyH_done (by kernel_rfl) ?_ _
         have FIN := hide (rgO_mk HTY.out ⟨BX, (FX.bq0 Awr20.out)⟩ SX KX M9.out FX)
         clear b0 b1 z0 z1
         go_wp2_with fail
         go_meet
         exact FIN.out
        ·go_simp
         have kr21 : Below w4.heap.size w4 (wr18.alloc (.cells #[.string ⟨#[]⟩, .slice none 0 0] 53)) := kr18.alloc kr18.size _
         have owr21 : Hid (Below wr18.heap.size wr18 (wr18.alloc (.cells #[.string ⟨#[]⟩, .slice none 0 0] 53))) := ((Below.refl _ _).alloc (Nat.le_refl _) _)
         have Awr21 : Hid (Blk (wr18.alloc (.cells #[.string ⟨#[]⟩, .slice none 0 0] 53)) wr18.heap.size #[.string ⟨#[]⟩, .slice none 0 0] 53) := Blk.new wr18 _ _
         have geAwr21 : Hid (w4.heap.size ≤ wr18.heap.size) := kr18.size
         have Swr21 := hide (Swr18.out.later owr21.out)
         have glwr21 : Hid (gwr18 < (wr18.alloc (.cells #[.string ⟨#[]⟩, .slice none 0 0] 53)).heap.size) := Nat.lt_of_lt_of_le glwr18.out owr21.out.size
         have ngwr21 : Hid (gwr18 ≠ wr18.heap.size) := by have h1 := glwr18.out; unfold Hid; omega
         refine hK.out _ _ (by exact KB.out _ kr21) (fun hHeld => ?_)
         clear hK K
         try simp only [Act.put, sq]
         generalize (wr18.alloc (.cells #[.string ⟨#[]⟩, .slice none 0 0] 53)) = wr21 at *
         refine rdq 11 rfl fun K hK => ?_
         have SE : Hid (Sl wr21 (Zq (fun d => (E d ∨ d = w.heap.size + 1) ∨ d = wr18.heap.size) N P q) (some ⟨gwr18, 0, none⟩) (ar ++ [vrT 84 (n + 1)])) := seI Swr21.out (fun d hd h => h.elim id (fun h => by have h1 := geAwr21.out; omega)) ⟨Nat.le_trans K4.out.le ggwr18.out, (QN.out _ ggwr18.out).1, (QN.out _ ggwr18.out).2, fun h => h.elim (fun h => by have h1 := hE4.out _ h; have h2 := ggwr18.out; omega) ngwr21.out⟩
         have AQ : Hid (Bq wr21 P q wr18.heap.size #[.string ⟨#[]⟩, .slice none 0 0] 53) := ⟨Awr21.out, QN.out _ geAwr21.out⟩
         have CL := CALL.out (fun d => (E d ∨ d = w.heap.size + 1) ∨ d = wr18.heap.size) gwr18 capwr18 wr21 kr21 SE.out Cwr18.out (fun d hd => hd.elim (fun h => Nat.lt_of_lt_of_le (hE4.out d h) kr21.size) (fun h => by rw [h]; exact Awr21.out.lt)) (fun d hd h => h.elim id (fun h => by have h1 := geAwr21.out; omega))
         have HCL := hide CL
         clear CL
         go_simp
         go_at_call 26
         refine HCL.out.mono ?_
         rintro e w9 ⟨a9, c9, q9, cs9, rfl, hs9, hk9, hm9, hf9⟩
         have F9 : Hid (AsF w4 w9 P q q9) := (AsF.ofBelow kr21 P q).trans hf9
         have K9 := hide hk9
         have S9 := hide hs9
         have M9 := hide hm9
         have hS9 : (S8 B n V w b' o' c w9) := ⟨(F9.out.bq V4.out).1, (F9.out.bq A4.out).1, UP4.out.trans ((K4.out.below F9.out).mono hBN)⟩
         have A9 := hide (hf9.bq AQ.out)
         clear hs9 hk9 hm9 hf9 HCL SE
         generalize hty : tyT 84 b (ar ++ [vrT 84 (n + 1)]) (n + 1) = r at *
         have HTY := hide hty
         clear hty
         go_simp
         refine hK.out _ _ (by exact hS9) (fun hHeld => ?_)
         clear hK K
         try simp only [Act.put, sq]
         have hS10 := hS9
         obtain ⟨KX, FX, BX, SX⟩ := AsK.store (E := (fun b => E b ∨ b = w.heap.size + 1)) K9.out F9.out A9.out geAwr21.out (.string r.1.name) (.slice a9 r.1.args.length c9) S9.out
         have b0 := A9.out.1.cell 0
         have b1 := A9.out.1.cell 1
         have z0 := A9.out.1.frozen 0
         have z1 := A9.out.1.frozen 1
         simp only [List.getElem?_toArray, List.getElem?_cons_zero, List.getElem?_cons_succ] at b0 b1
         have neV : V ≠ wr18.heap.size := fun e => by have h1 := V4.out.1.lt; have h2 := geAwr21.out; omega
         have neA : w.heap.size ≠ wr18.heap.size := fun e => by have h1 := A4.out.1.lt; have h2 := geAwr21.out; omega
         have HX : (S8 B n V w b' o' c ((w9.setCell ⟨wr18.heap.size, 0, none⟩ (.string r.1.name)).setCell ⟨wr18.heap.size, 1, none⟩ (.slice a9 r.1.args.length c9))) := ⟨(hS10.1.setOther 0 _ neV).setOther 1 _ neV, (hS10.2.1.setOther 0 _ neA).setOther 1 _ neA, belSetI (belSetI hS10.2.2 (Nat.le_trans hBw.out geAwr21.out) 0 _) (Nat.le_trans hBw.out geAwr21.out) 1 _⟩
         refine rdq 13 rfl fun K hK => ?_
         go_simp
         refine hK.out _ _ (by exact HX) (fun hHeld => ?_)
         clear hK K
         try simp only [Act.put, sq]
         refine wpAnyH_done (by kernel_rfl) ?_ _
         have FIN := hide (rgO_mk HTY.out ⟨BX, (FX.bq0 A9.out)⟩ SX KX M9.out FX)
         clear b0 b1 z0 z1
         go_wp2_with fail
         go_meet
         exact FIN.out
       ·go_simp
        have kr23 : Below w4.heap.size w4 (wr17.alloc (.cells #[.string ⟨#[]⟩, .slice none 0 0] 53)) := kr17.alloc kr17.size _
        have owr23 : Hid (Below wr17.heap.size wr17 (wr17.alloc (.cells #[.string ⟨#[]⟩, .slice none 0 0] 53))) := ((Below.refl _ _).alloc (Nat.le_refl _) _)
        have Awr23 : Hid (Blk (wr17.alloc (.cells #[.string ⟨#[]⟩, .slice none 0 0] 53)) wr17.heap.size #[.string ⟨#[]⟩, .slice none 0 0] 53) := Blk.new wr17 _ _
        have Qwr23 := hide (Qwr17.out.below owr23.out Qwr17.out.lt)
        have neQAwr23 : Hid (wr1.heap.size ≠ wr17.heap.size) := by have h1 := Qwr17.out.lt; unfold Hid; omega
        have geAwr23 : Hid (w4.heap.size ≤ wr17.heap.size) := kr17.size
        have Rwr23 := hide (ownsRow_at Rwr17.out fun g hg => owr23.out.block g (Rwr17.out.lt g hg).2)
        have nrwr23 : Hid (some wr17.heap.size ≠ (vwr17 : Value).ownBlock) := fun e => by have h1 := (Rwr17.out.lt _ e.symm).2; omega
        refine hK.out _ _ (by exact KB.out _ kr23) (fun hHeld => ?_)
        clear hK K
        try simp only [Act.put, sq]
        generalize (wr17.alloc (.cells #[.string ⟨#[]⟩, .slice none 0 0] 53)) = wr23 at *
        refine rdq 10 rfl fun K hK => ?_
        obtain ⟨gwr24, capwr24, wr24, hrun, hsl, hbel, hgg, hcap, hfr, hsz, hat⟩ := oneTI kr23 Rwr23.out RRwr17.out Qwr23.out HAL.out
        have HRwr24 := hide hrun
        have Swr24 := hide hsl
        have Cwr24 := hide hcap
        have glwr24 := hide hgg.2
        have ggwr24 := hide hgg.1
        have kr24 := hbel
        have Awr24 : Hid (Blk wr24 wr17.heap.size #[.string ⟨#[]⟩, .slice none 0 0] 53) := (hfr _ Awr23.out.lt nrwr23.out).trans Awr23.out
        have ngwr24 : Hid (gwr24 ≠ wr17.heap.size) := fun e => by have h1 := Awr23.out.lt; rcases hat with h2 | h2; exact nrwr23.out (by rw [h2, e]); omega
        clear hrun hsl hbel hgg hcap hfr hsz hat
        refine step_append_eqM rfl _ _ _ _ rfl rfl rfl HRwr24.out ?_
        refine hK.out _ _ (by exact KB.out _ kr24) (fun hHeld => ?_)
        clear hK K
        try simp only [Act.put, sq]
        refine rdq 11 rfl fun K hK => ?_
        have SE : Hid (Sl wr24 (Zq (fun d => (E d ∨ d = w.heap.size + 1) ∨ d = wr17.heap.size) N P q) (some ⟨gwr24, 0, none⟩) (ar ++ [vrT 84 (n + 1)])) := seI Swr24.out (fun d hd h => h.elim id (fun h => by have h1 := geAwr23.out; omega)) ⟨Nat.le_trans K4.out.le ggwr24.out, (QN.out _ ggwr24.out).1, (QN.out _ ggwr24.out).2, fun h => h.elim (fun h => by have h1 := hE4.out _ h; have h2 := ggwr24.out; omega) ngwr24.out⟩
        have AQ : Hid (Bq wr24 P q wr17.heap.size #[.string ⟨#[]⟩, .slice none 0 0] 53) := ⟨Awr24.out, QN.out _ geAwr23.out⟩
        have CL := CALL.out (fun d => (E d ∨ d = w.heap.size + 1) ∨ d = wr17.heap.size) gwr24 capwr24 wr24 kr24 SE.out Cwr24.out (fun d hd => hd.elim (fun h => Nat.lt_of_lt_of_le (hE4.out d h) kr24.size) (fun h => by rw [h]; exact Awr24.out.lt)) (fun d hd h => h.elim id (fun h => by have h1 := geAwr23.out; omega))
        have HCL := hide CL
        clear CL
        go_simp
        go_at_call 26
        refine HCL.out.mono ?_
        rintro e w9 ⟨a9, c9, q9, cs9, rfl, hs9, hk9, hm9, hf9⟩
        have F9 : Hid (AsF w4 w9 P q q9) := (AsF.ofBelow kr24 P q).trans hf9
        have K9 := hide hk9
        have S9 := hide hs9
        have M9 := hide hm9
        have hS9 : (S8 B n V w b' o' c w9) := ⟨(F9.out.bq V4.out).1, (F9.out.bq A4.out).1, UP4.out.trans ((K4.out.below F9.out).mono hBN)⟩
        have A9 := hide (hf9.bq AQ.out)
        clear hs9 hk9 hm9 hf9 HCL SE
        generalize hty : tyT 84 b (ar ++ [vrT 84 (n + 1)]) (n + 1) = r at *
        have HTY := hide hty
        clear hty
        go_simp
        refine hK.out _ _ (by exact hS9) (fun hHeld => ?_)
        clear hK K
        try simp only [Act.put, sq]
        have hS10 := hS9
        obtain ⟨KX, FX, BX, SX⟩ := AsK.store (E := (fun b => E b ∨ b = w.heap.size + 1)) K9.out F9.out A9.out geAwr23.out (.string r.1.name) (.slice a9 r.1.args.length c9) S9.out
        have b0 := A9.out.1.cell 0
        have b1 := A9.out.1.cell 1
        have z0 := A9.out.1.frozen 0
        have z1 := A9.out.1.frozen 1
        simp only [List.getElem?_toArray, List.getElem?_cons_zero, List.getElem?_cons_succ] at b0 b1
        have neV : V ≠ wr17.heap.size := fun e => by have h1 := V4.out.1.lt; have h2 := geAwr23.out; omega
        have neA : w.heap.size ≠ wr17.heap.size := fun e => by have h1 := A4.out.1.lt; have h2 := geAwr23.out; omega
        have HX : (S8 B n V w b' o' c ((w9.setCell ⟨wr17.heap.size, 0, none⟩ (.string r.1.name)).setCell ⟨wr17.heap.size, 1, none⟩ (.slice a9 r.1.args.length c9))) := ⟨(hS10.1.setOther 0 _ neV).setOther 1 _ neV, (hS10.2.1.setOther 0 _ neA).setOther 1 _ neA, belSetI (belSetI hS10.2.2 (Nat.le_trans hBw.out geAwr23.out) 0 _) (Nat.le_trans hBw.out geAwr23.out) 1 _⟩
        refine rdq 13 rfl fun K hK => ?_
        go_simp
        refine hK.out _ _ (by exact HX) (fun hHeld => ?_)
        clear hK K
        try simp only [Act.put, sq]
        refine wpAnyH_done (by kernel_rfl) ?_ _
        have FIN := hide (rgO_mk HTY.out ⟨BX, (FX.bq0 A9.out)⟩ SX KX M9.out FX)
        clear b0 b1 z0 z1
        go_wp2_with fail
        go_meet
        exact FIN.out
      ·go_simp
       have kr26 : Below w4.heap.size w4 (wr16.alloc (.cells #[.string ⟨#[]⟩, .slice none 0 0] 53)) := kr16.alloc kr16.size _
       have owr26 : Hid (Below wr16.heap.size wr16 (wr16.alloc (.cells #[.string ⟨#[]⟩, .slice none 0 0] 53))) := ((Below.refl _ _).alloc (Nat.le_refl _) _)
       have Awr26 : Hid (Blk (wr16.alloc (.cells #[.string ⟨#[]⟩, .slice none 0 0] 53)) wr16.heap.size #[.string ⟨#[]⟩, .slice none 0 0] 53) := Blk.new wr16 _ _
       have Gwr26 := hide (Gwr16.out.below owr26.out Gwr16.out.lt)
       have neGAwr26 : Hid (w4.heap.size ≠ wr16.heap.size) := by have h1 := Gwr16.out.lt; unfold Hid; omega
       have Qwr26 := hide (Qwr16.out.below owr26.out Qwr16.out.lt)
       have neQAwr26 : Hid (wr1.heap.size ≠ wr16.heap.size) := by have h1 := Qwr16.out.lt; unfold Hid; omega
       have geAwr26 : Hid (w4.heap.size ≤ wr16.heap.size) := kr16.size
       refine hK.out _ _ (by exact KB.out _ kr26) (fun hHeld => ?_)
       clear hK K
       try simp only [Act.put, sq]
       generalize (wr16.alloc (.cells #[.string ⟨#[]⟩, .slice none 0 0] 53)) = wr26 at *
       refine rdq 7 rfl fun K hK => ?_
       obtain ⟨vwr27, wr27, xswr27, hrun, hown, hrow, hbel, hfr, hsz, hat⟩ := spreadTI (c := ac) kr26 geGwr1.out Gwr26.out S4B.out HAL.out
       have HRwr27 := hide hrun
       have Rwr27 := hide hown
       have RRwr27 := hide hrow
       have kr27 := hbel
       have Qwr27 : Hid (Blk wr27 wr1.heap.size #[.string (vrN 84 (n + 1)), .slice none 0 0] 53) := (hfr _ Qwr26.out.lt ((neGQwr16.out).symm)).trans Qwr26.out
       have Awr27 : Hid (Blk wr27 wr16.heap.size #[.string ⟨#[]⟩, .slice none 0 0] 53) := (hfr _ Awr26.out.lt ((neGAwr26.out).symm)).trans Awr26.out
       have nrwr27 : Hid (some wr16.heap.size ≠ (vwr27 : Value).ownBlock) := fun e => by have h1 := Awr26.out.lt; rcases hat _ e.symm with h2 | h2; exact ((neGAwr26.out).symm) h2; omega
       clear hrun hown hrow hbel hfr hsz hat
       refine step_append_eqM rfl _ _ _ _ rfl rfl rfl HRwr27.out ?_
       refine hK.out _ _ (by exact KB.out _ kr27) (fun hHeld => ?_)
       clear hK K
       try simp only [Act.put, sq]
       refine rdq 10 rfl fun K hK => ?_
       obtain ⟨gwr28, capwr28, wr28, hrun, hsl, hbel, hgg, hcap, hfr, hsz, hat⟩ := oneTI kr27 Rwr27.out RRwr27.out Qwr27.out HAL.out
       have HRwr28 := hide hrun
       have Swr28 := hide hsl
       have Cwr28 := hide hcap
       have glwr28 := hide hgg.2
       have ggwr28 := hide hgg.1
       have kr28 := hbel
       have Awr28 : Hid (Blk wr28 wr16.heap.size #[.string ⟨#[]⟩, .slice none 0 0] 53) := (hfr _ Awr27.out.lt nrwr27.out).trans Awr27.out
       have ngwr28 : Hid (gwr28 ≠ wr16.heap.size) := fun e => by have h1 := Awr27.out.lt; rcases hat with h2 | h2; exact nrwr27.out (by rw [h2, e]); omega
       clear hrun hsl hbel hgg hcap hfr hsz hat
       refine step_append_eqM rfl _ _ _ _ rfl rfl rfl HRwr28.out ?_
       refine hK.out _ _ (by exact KB.out _ kr28) (fun hHeld => ?_)
       clear hK K
       try simp only [Act.put, sq]
       refine rdq 11 rfl fun K hK => ?_
       have SE : Hid (Sl wr28 (Zq (fun d => (E d ∨ d = w.heap.size + 1) ∨ d = wr16.heap.size) N P q) (some ⟨gwr28, 0, none⟩) (ar ++ [vrT 84 (n + 1)])) := seI Swr28.out (fun d hd h => h.elim id (fun h => by have h1 := geAwr26.out; omega)) ⟨Nat.le_trans K4.out.le ggwr28.out, (QN.out _ ggwr28.out).1, (QN.out _ ggwr28.out).2, fun h => h.elim (fun h => by have h1 := hE4.out _ h; have h2 := ggwr28.out; omega) ngwr28.out⟩
       have AQ : Hid (Bq wr28 P q wr16.heap.size #[.string ⟨#[]⟩, .slice none 0 0] 53) := ⟨Awr28.out, QN.out _ geAwr26.out⟩
       have CL := CALL.out (fun d => (E d ∨ d = w.heap.size + 1) ∨ d = wr16.heap.size) gwr28 capwr28 wr28 kr28 SE.out Cwr28.out (fun d hd => hd.elim (fun h => Nat.lt_of_lt_of_le (hE4.out d h) kr28.size) (fun h => by rw [h]; exact Awr28.out.lt)) (fun d hd h => h.elim id (fun h => by have h1 := geAwr26.out; omega))
       have HCL := hide CL
       clear CL
       go_simp
       go_at_call 26
       refine HCL.out.mono ?_
       rintro e w9 ⟨a9, c9, q9, cs9, rfl, hs9, hk9, hm9, hf9⟩
       have F9 : Hid (AsF w4 w9 P q q9) := (AsF.ofBelow kr28 P q).trans hf9
       have K9 := hide hk9
       have S9 := hide hs9
       have M9 := hide hm9
       have hS9 : (S8 B n V w b' o' c w9) := ⟨(F9.out.bq V4.out).1, (F9.out.bq A4.out).1, UP4.out.trans ((K4.out.below F9.out).mono hBN)⟩
       have A9 := hide (hf9.bq AQ.out)
       clear hs9 hk9 hm9 hf9 HCL SE
       generalize hty : tyT 84 b (ar ++ [vrT 84 (n + 1)]) (n + 1) = r at *
       have HTY := hide hty
       clear hty
       go_simp
       refine hK.out _ _ (by exact hS9) (fun hHeld => ?_)
       clear hK K
       try simp only [Act.put, sq]
       have hS10 := hS9
       obtain ⟨KX, FX, BX, SX⟩ := AsK.store (E := (fun b => E b ∨ b = w.heap.size + 1)) K9.out F9.out A9.out geAwr26.out (.string r.1.name) (.slice a9 r.1.args.length c9) S9.out
       have b0 := A9.out.1.cell 0
       have b1 := A9.out.1.cell 1
       have z0 := A9.out.1.frozen 0
       have z1 := A9.out.1.frozen 1
       simp only [List.getElem?_toArray, List.getElem?_cons_zero, List.getElem?_cons_succ] at b0 b1
       have neV : V ≠ wr16.heap.size := fun e => by have h1 := V4.out.1.lt; have h2 := geAwr26.out; omega
       have neA : w.heap.size ≠ wr16.heap.size := fun e => by have h1 := A4.out.1.lt; have h2 := geAwr26.out; omega
       have HX : (S8 B n V w b' o' c ((w9.setCell ⟨wr16.heap.size, 0, none⟩ (.string r.1.name)).setCell ⟨wr16.heap.size, 1, none⟩ (.slice a9 r.1.args.length c9))) := ⟨(hS10.1.setOther 0 _ neV).setOther 1 _ neV, (hS10.2.1.setOther 0 _ neA).setOther 1 _ neA, belSetI (belSetI hS10.2.2 (Nat.le_trans hBw.out geAwr26.out) 0 _) (Nat.le_trans hBw.out geAwr26.out) 1 _⟩
       refine rdq 13 rfl fun K hK => ?_
       go_simp
       refine hK.out _ _ (by exact HX) (fun hHeld => ?_)
       clear hK K
       try simp only [Act.put, sq]
       refine wpAnyH_done (by kernel_rfl) ?_ _
       have FIN := hide (rgO_mk HTY.out ⟨BX, (FX.bq0 A9.out)⟩ SX KX M9.out FX)
       clear b0 b1 z0 z1
       go_wp2_with fail
       go_meet
       exact FIN.out
     ·go_simp
      have kr30 : Below w4.heap.size w4 (wr1.alloc (.cells #[.string ⟨#[]⟩, .slice none 0 0] 53)) := kr1.alloc kr1.size _
      have owr30 : Hid (Below wr1.heap.size wr1 (wr1.alloc (.cells #[.string ⟨#[]⟩, .slice none 0 0] 53))) := ((Below.refl _ _).alloc (Nat.le_refl _) _)
      have Awr30 : Hid (Blk (wr1.alloc (.cells #[.string ⟨#[]⟩, .slice none 0 0] 53)) wr1.heap.size #[.string ⟨#[]⟩, .slice none 0 0] 53) := Blk.new wr1 _ _
      have Gwr30 := hide (Gwr1.out.below owr30.out Gwr1.out.lt)
      have neGAwr30 : Hid (w4.heap.size ≠ wr1.heap.size) := by have h1 := Gwr1.out.lt; unfold Hid; omega
      have geAwr30 : Hid (w4.heap.size ≤ wr1.heap.size) := kr1.size
      refine hK.out _ _ (by exact KB.out _ kr30) (fun hHeld => ?_)
      clear hK K
      try simp only [Act.put, sq]
      generalize (wr1.alloc (.cells #[.string ⟨#[]⟩, .slice none 0 0] 53)) = wr30 at *
      refine wpAnyH_ready (rs := [7, 9]) (by kernel_rfl) (by simp) ?_
      refine AllReadyH.cons rfl (fun K hK => ?_) (AllReadyH.cons rfl (fun K hK => ?_) AllReadyH.nil)
      ·obtain ⟨vwr31, wr31, xswr31, hrun, hown, hrow, hbel, hfr, hsz, hat⟩ := spreadTI (c := ac) kr30 geGwr1.out Gwr30.out S4B.out HAL.out
       have HRwr31 := hide hrun
       have Rwr31 := hide hown
       have RRwr31 := hide hrow
       have kr31 := hbel
       have Awr31 : Hid (Blk wr31 wr1.heap.size #[.string ⟨#[]⟩, .slice none 0 0] 53) := (hfr _ Awr30.out.lt ((neGAwr30.out).symm)).trans Awr30.out
       have nrwr31 : Hid (some wr1.heap.size ≠ (vwr31 : Value).ownBlock) := fun e => by have h1 := Awr30.out.lt; rcases hat _ e.symm with h2 | h2; exact ((neGAwr30.out).symm) h2; omega
       clear hrun hown hrow hbel hfr hsz hat
       refine step_append_eqM rfl _ _ _ _ rfl rfl rfl HRwr31.out ?_
       refine hK.out _ _ (by exact KB.out _ kr31) (fun hHeld => ?_)
       clear hK K
       try simp only [Act.put, sq]
       refine rdq 9 rfl fun K hK => ?_
       go_simp
       have kr32 : Below w4.heap.size w4 (wr31.alloc (.cells #[.string (vrN 84 (n + 1)), .slice none 0 0] 53)) := kr31.alloc kr31.size _
       have owr32 : Hid (Below wr31.heap.size wr31 (wr31.alloc (.cells #[.string (vrN 84 (n + 1)), .slice none 0 0] 53))) := ((Below.refl _ _).alloc (Nat.le_refl _) _)
       have Qwr32 : Hid (Blk (wr31.alloc (.cells #[.string (vrN 84 (n + 1)), .slice none 0 0] 53)) wr31.heap.size #[.string (vrN 84 (n + 1)), .slice none 0 0] 53) := Blk.new wr31 _ _
       have Awr32 := hide (Awr31.out.below owr32.out Awr31.out.lt)
       have neAQwr32 : Hid (wr1.heap.size ≠ wr31.heap.size) := by have h1 := Awr31.out.lt; unfold Hid; omega
       have geQwr32 : Hid (w4.heap.size ≤ wr31.heap.size) := kr31.size
       have Rwr32 := hide (ownsRow_at Rwr31.out fun g hg => owr32.out.block g (Rwr31.out.lt g hg).2)
       refine hK.out _ _ (by exact KB.out _ kr32) (fun hHeld => ?_)
       clear hK K
       try simp only [Act.put, sq]
       generalize (wr31.alloc (.cells #[.string (vrN 84 (n + 1)), .slice none 0 0] 53)) = wr32 at *
       refine rdq 10 rfl fun K hK => ?_
       obtain ⟨gwr33, capwr33, wr33, hrun, hsl, hbel, hgg, hcap, hfr, hsz, hat⟩ := oneTI kr32 Rwr32.out RRwr31.out Qwr32.out HAL.out
       have HRwr33 := hide hrun
       have Swr33 := hide hsl
       have Cwr33 := hide hcap
       have glwr33 := hide hgg.2
       have ggwr33 := hide hgg.1
       have kr33 := hbel
       have Awr33 : Hid (Blk wr33 wr1.heap.size #[.string ⟨#[]⟩, .slice none 0 0] 53) := (hfr _ Awr32.out.lt nrwr31.out).trans Awr32.out
       have ngwr33 : Hid (gwr33 ≠ wr1.heap.size) := fun e => by have h1 := Awr32.out.lt; rcases hat with h2 | h2; exact nrwr31.out (by rw [h2, e]); omega
       clear hrun hsl hbel hgg hcap hfr hsz hat
       refine step_append_eqM rfl _ _ _ _ rfl rfl rfl HRwr33.out ?_
       refine hK.out _ _ (by exact KB.out _ kr33) (fun hHeld => ?_)
       clear hK K
       try simp only [Act.put, sq]
       refine rdq 11 rfl fun K hK => ?_
       have SE : Hid (Sl wr33 (Zq (fun d => (E d ∨ d = w.heap.size + 1) ∨ d = wr1.heap.size) N P q) (some ⟨gwr33, 0, none⟩) (ar ++ [vrT 84 (n + 1)])) := seI Swr33.out (fun d hd h => h.elim id (fun h => by have h1 := geAwr30.out; omega)) ⟨Nat.le_trans K4.out.le ggwr33.out, (QN.out _ ggwr33.out).1, (QN.out _ ggwr33.out).2, fun h => h.elim (fun h => by have h1 := hE4.out _ h; have h2 := ggwr33.out; omega) ngwr33.out⟩
       have AQ : Hid (Bq wr33 P q wr1.heap.size #[.string ⟨#[]⟩, .slice none 0 0] 53) := ⟨Awr33.out, QN.out _ geAwr30.out⟩
       have CL := CALL.out (fun d => (E d ∨ d = w.heap.size + 1) ∨ d = wr1.heap.size) gwr33 capwr33 wr33 kr33 SE.out Cwr33.out (fun d hd => hd.elim (fun h => Nat.lt_of_lt_of_le (hE4.out d h) kr33.size) (fun h => by rw [h]; exact Awr33.out.lt)) (fun d hd h => h.elim id (fun h => by have h1 := geAwr30.out; omega))
       have HCL := hide CL
       clear CL
       go_simp
       go_at_call 26
       refine HCL.out.mono ?_
       rintro e w9 ⟨a9, c9, q9, cs9, rfl, hs9, hk9, hm9, hf9⟩
       have F9 : Hid (AsF w4 w9 P q q9) := (AsF.ofBelow kr33 P q).trans hf9
       have K9 := hide hk9
       have S9 := hide hs9
       have M9 := hide hm9
       have hS9 : (S8 B n V w b' o' c w9) := ⟨(F9.out.bq V4.out).1, (F9.out.bq A4.out).1, UP4.out.trans ((K4.out.below F9.out).mono hBN)⟩
       have A9 := hide (hf9.bq AQ.out)
       clear hs9 hk9 hm9 hf9 HCL SE
       generalize hty : tyT 84 b (ar ++ [vrT 84 (n + 1)]) (n + 1) = r at *
       have HTY := hide hty
       clear hty
       go_simp
       refine hK.out _ _ (by exact hS9) (fun hHeld => ?_)
       clear hK K
       try simp only [Act.put, sq]
       have hS10 := hS9
       obtain ⟨KX, FX, BX, SX⟩ := AsK.store (E := (fun b => E b ∨ b = w.heap.size + 1)) K9.out F9.out A9.out geAwr30.out (.string r.1.name) (.slice a9 r.1.args.length c9) S9.out
       have b0 := A9.out.1.cell 0
       have b1 := A9.out.1.cell 1
       have z0 := A9.out.1.frozen 0
       have z1 := A9.out.1.frozen 1
       simp only [List.getElem?_toArray, List.getElem?_cons_zero, List.getElem?_cons_succ] at b0 b1
       have neV : V ≠ wr1.heap.size := fun e => by have h1 := V4.out.1.lt; have h2 := geAwr30.out; omega
       have neA : w.heap.size ≠ wr1.heap.size := fun e => by have h1 := A4.out.1.lt; have h2 := geAwr30.out; omega
       have HX : (S8 B n V w b' o' c ((w9.setCell ⟨wr1.heap.size, 0, none⟩ (.string r.1.name)).setCell ⟨wr1.heap.size, 1, none⟩ (.slice a9 r.1.args.length c9))) := ⟨(hS10.1.setOther 0 _ neV).setOther 1 _ neV, (hS10.2.1.setOther 0 _ neA).setOther 1 _ neA, belSetI (belSetI hS10.2.2 (Nat.le_trans hBw.out geAwr30.out) 0 _) (Nat.le_trans hBw.out geAwr30.out) 1 _⟩
       refine rdq 13 rfl fun K hK => ?_
       go_simp
       refine hK.out _ _ (by exact HX) (fun hHeld => ?_)
       clear hK K
       try simp only [Act.put, sq]
       refine wpAnyH_done (by kernel_rfl) ?_ _
       have FIN := hide (rgO_mk HTY.out ⟨BX, (FX.bq0 A9.out)⟩ SX KX M9.out FX)
       clear b0 b1 z0 z1
       go_wp2_with fail
       go_meet
       exact FIN.out
      ·go_simp
       have kr35 : Below w4.heap.size w4 (wr30.alloc (.cells #[.string (vrN 84 (n + 1)), .slice none 0 0] 53)) := kr30.alloc kr30.size _
       have owr35 : Hid (Below wr30.heap.size wr30 (wr30.alloc (.cells #[.string (vrN 84 (n + 1)), .slice none 0 0] 53))) := ((Below.refl _ _).alloc (Nat.le_refl _) _)
       have Qwr35 : Hid (Blk (wr30.alloc (.cells #[.string (vrN 84 (n + 1)), .slice none 0 0] 53)) wr30.heap.size #[.string (vrN 84 (n + 1)), .slice none 0 0] 53) := Blk.new wr30 _ _
       have Gwr35 := hide (Gwr30.out.below owr35.out Gwr30.out.lt)
       have neGQwr35 : Hid (w4.heap.size ≠ wr30.heap.size) := by have h1 := Gwr30.out.lt; unfold Hid; omega
       have Awr35 := hide (Awr30.out.below owr35.out Awr30.out.lt)
       have neAQwr35 : Hid (wr1.heap.size ≠ wr30.heap.size) := by have h1 := Awr30.out.lt; unfold Hid; omega
       have geQwr35 : Hid (w4.heap.size ≤ wr30.heap.size) := kr30.size
       refine hK.out _ _ (by exact KB.out _ kr35) (fun hHeld => ?_)
       clear hK K
       try simp only [Act.put, sq]
       generalize (wr30.alloc (.cells #[.string (vrN 84 (n + 1)), .slice none 0 0] 53)) = wr35 at *
       refine rdq 7 rfl fun K hK => ?_
       obtain ⟨vwr36, wr36, xswr36, hrun, hown, hrow, hbel, hfr, hsz, hat⟩ := spreadTI (c := ac) kr35 geGwr1.out Gwr35.out S4B.out HAL.out
       have HRwr36 := hide hrun
       have Rwr36 := hide hown
       have RRwr36 := hide hrow
       have kr36 := hbel
       have Qwr36 : Hid (Blk wr36 wr30.heap.size #[.string (vrN 84 (n + 1)), .slice none 0 0] 53) := (hfr _ Qwr35.out.lt ((neGQwr35.out).symm)).trans Qwr35.out
       have Awr36 : Hid (Blk wr36 wr1.heap.size #[.string ⟨#[]⟩, .slice none 0 0] 53) := (hfr _ Awr35.out.lt ((neGAwr30.out).symm)).trans Awr35.out
       have nrwr36 : Hid (some wr1.heap.size ≠ (vwr36 : Value).ownBlock) := fun e => by have h1 := Awr35.out.lt; rcases hat _ e.symm with h2 | h2; exact ((neGAwr30.out).symm) h2; omega
       clear hrun hown hrow hbel hfr hsz hat
       refine step_append_eqM rfl _ _ _ _ rfl rfl rfl HRwr36.out ?_
       refine hK.out _ _ (by exact KB.out _ kr36) (fun hHeld => ?_)
       clear hK K
       try simp only [Act.put, sq]
       refine rdq 10 rfl fun K hK => ?_
       obtain ⟨gwr37, capwr37, wr37, hrun, hsl, hbel, hgg, hcap, hfr, hsz, hat⟩ := oneTI kr36 Rwr36.out RRwr36.out Qwr36.out HAL.out
       have HRwr37 := hide hrun
       have Swr37 := hide hsl
       have Cwr37 := hide hcap
       have glwr37 := hide hgg.2
       have ggwr37 := hide hgg.1
       have kr37 := hbel
       have Awr37 : Hid (Blk wr37 wr1.heap.size #[.string ⟨#[]⟩, .slice none 0 0] 53) := (hfr _ Awr36.out.lt nrwr36.out).trans Awr36.out
       have ngwr37 : Hid (gwr37 ≠ wr1.heap.size) := fun e => by have h1 := Awr36.out.lt; rcases hat with h2 | h2; exact nrwr36.out (by rw [h2, e]); omega
       clear hrun hsl hbel hgg hcap hfr hsz hat
       refine step_append_eqM rfl _ _ _ _ rfl rfl rfl HRwr37.out ?_
       refine hK.out _ _ (by exact KB.out _ kr37) (fun hHeld => ?_)
       clear hK K
       try simp only [Act.put, sq]
       refine rdq 11 rfl fun K hK => ?_
       have SE : Hid (Sl wr37 (Zq (fun d => (E d ∨ d = w.heap.size + 1) ∨ d = wr1.heap.size) N P q) (some ⟨gwr37, 0, none⟩) (ar ++ [vrT 84 (n + 1)])) := seI Swr37.out (fun d hd h => h.elim id (fun h => by have h1 := geAwr30.out; omega)) ⟨Nat.le_trans K4.out.le ggwr37.out, (QN.out _ ggwr37.out).1, (QN.out _ ggwr37.out).2, fun h => h.elim (fun h => by have h1 := hE4.out _ h; have h2 := ggwr37.out; omega) ngwr37.out⟩
       have AQ : Hid (Bq wr37 P q wr1.heap.size #[.string ⟨#[]⟩, .slice none 0 0] 53) := ⟨Awr37.out, QN.out _ geAwr30.out⟩
       have CL := CALL.out (fun d => (E d ∨ d = w.heap.size + 1) ∨ d = wr1.heap.size) gwr37 capwr37 wr37 kr37 SE.out Cwr37.out (fun d hd => hd.elim (fun h => Nat.lt_of_lt_of_le (hE4.out d h) kr37.size) (fun h => by rw [h]; exact Awr37.out.lt)) (fun d hd h => h.elim id (fun h => by have h1 := geAwr30.out; omega))
       have HCL := hide CL
       clear CL
       go_simp
       go_at_call 26
       refine HCL.out.mono ?_
       rintro e w9 ⟨a9, c9, q9, cs9, rfl, hs9, hk9, hm9, hf9⟩
       have F9 : Hid (AsF w4 w9 P q q9) := (AsF.ofBelow kr37 P q).trans hf9
       have K9 := hide hk9
       have S9 := hide hs9
       have M9 := hide hm9
       have hS9 : (S8 B n V w b' o' c w9) := ⟨(F9.out.bq V4.out).1, (F9.out.bq A4.out).1, UP4.out.trans ((K4.out.below F9.out).mono hBN)⟩
       have A9 := hide (hf9.bq AQ.out)
       clear hs9 hk9 hm9 hf9 HCL SE
       generalize hty : tyT 84 b (ar ++ [vrT 84 (n + 1)]) (n + 1) = r at *
       have HTY := hide hty
       clear hty
       go_simp
       refine hK.out _ _ (by exact hS9) (fun hHeld => ?_)
       clear hK K
       try simp only [Act.put, sq]
       have hS10 := hS9
       obtain ⟨KX, FX, BX, SX⟩ := AsK.store (E := (fun b => E b ∨ b = w.heap.size + 1)) K9.out F9.out A9.out geAwr30.out (.string r.1.name) (.slice a9 r.1.args.length c9) S9.out
       have b0 := A9.out.1.cell 0
       have b1 := A9.out.1.cell 1
       have z0 := A9.out.1.frozen 0
       have z1 := A9.out.1.frozen 1
       simp only [List.getElem?_toArray, List.getElem?_cons_zero, List.getElem?_cons_succ] at b0 b1
       have neV : V ≠ wr1.heap.size := fun e => by have h1 := V4.out.1.lt; have h2 := geAwr30.out; omega
       have neA : w.heap.size ≠ wr1.heap.size := fun e => by have h1 := A4.out.1.lt; have h2 := geAwr30.out; omega
       have HX : (S8 B n V w b' o' c ((w9.setCell ⟨wr1.heap.size, 0, none⟩ (.string r.1.name)).setCell ⟨wr1.heap.size, 1, none⟩ (.slice a9 r.1.args.length c9))) := ⟨(hS10.1.setOther 0 _ neV).setOther 1 _ neV, (hS10.2.1.setOther 0 _ neA).setOther 1 _ neA, belSetI (belSetI hS10.2.2 (Nat.le_trans hBw.out geAwr30.out) 0 _) (Nat.le_trans hBw.out geAwr30.out) 1 _⟩
       refine rdq 13 rfl fun K hK => ?_
       go_simp
       refine hK.out _ _ (by exact HX) (fun hHeld => ?_)
       clear hK K
       try simp only [Act.put, sq]
       refine wpAnyH_done (by kernel_rfl) ?_ _
       have FIN := hide (rgO_mk HTY.out ⟨BX, (FX.bq0 A9.out)⟩ SX KX M9.out FX)
       clear b0 b1 z0 z1
       go_wp2_with fail
       go_meet
       exact FIN.out
    ·go_simp
     have kr39 : Below w4.heap.size w4 ((w4.alloc (.cells #[.string (vrN 84 (n + 1)), .slice none 0 0] 53)).drew) := ((Below.refl w4.heap.size w4).alloc (Nat.le_refl _) _).drew
     have owr39 : Hid (Below w4.heap.size w4 ((w4.alloc (.cells #[.string (vrN 84 (n + 1)), .slice none 0 0] 53)).drew)) := ((Below.refl _ _).alloc (Nat.le_refl _) _).drew
     have Qwr39 : Hid (Blk ((w4.alloc (.cells #[.string (vrN 84 (n + 1)), .slice none 0 0] 53)).drew) w4.heap.size #[.string (vrN 84 (n + 1)), .slice none 0 0] 53) := Blk.new w4 _ _
     have geQwr39 : Hid (w4.heap.size ≤ w4.heap.size) := Nat.le_refl _
     refine hK.out _ _ (by exact KB.out _ kr39) (fun hHeld => ?_)
     clear hK K
     try simp only [Act.put, sq]
     generalize ((w4.alloc (.cells #[.string (vrN 84 (n + 1)), .slice none 0 0] 53)).drew) = wr39 at *
     refine wpAnyH_ready (rs := [5, 12]) (by kernel_rfl) (by simp) ?_
     refine AllReadyH.cons rfl (fun K hK => ?_) (AllReadyH.cons rfl (fun K hK => ?_) AllReadyH.nil)
     ·go_simp
      have kr40 : Below w4.heap.size w4 (wr39.alloc (.cells #[] 53)) := kr39.alloc kr39.size _
      have owr40 : Hid (Below wr39.heap.size wr39 (wr39.alloc (.cells #[] 53))) := ((Below.refl _ _).alloc (Nat.le_refl _) _)
      have Gwr40 : Hid (Blk (wr39.alloc (.cells #[] 53)) wr39.heap.size #[] 53) := Blk.new wr39 _ _
      have Qwr40 := hide (Qwr39.out.below owr40.out Qwr39.out.lt)
      have neQGwr40 : Hid (w4.heap.size ≠ wr39.heap.size) := by have h1 := Qwr39.out.lt; unfold Hid; omega
      have geGwr40 : Hid (w4.heap.size ≤ wr39.heap.size) := kr39.size
      refine hK.out _ _ (by exact KB.out _ kr40) (fun hHeld => ?_)
      clear hK K
      try simp only [Act.put, sq]
      generalize (wr39.alloc (.cells #[] 53)) = wr40 at *
      refine wpAnyH_ready (rs := [7, 12]) (by kernel_rfl) (by simp) ?_
      refine AllReadyH.cons rfl (fun K hK => ?_) (AllReadyH.cons rfl (fun K hK => ?_) AllReadyH.nil)
      ·obtain ⟨vwr41, wr41, xswr41, hrun, hown, hrow, hbel, hfr, hsz, hat⟩ := spreadTI (c := ac) kr40 geGwr40.out Gwr40.out S4B.out HAL.out
       have HRwr41 := hide hrun
       have Rwr41 := hide hown
       have RRwr41 := hide hrow
       have kr41 := hbel
       have Qwr41 : Hid (Blk wr41 w4.heap.size #[.string (vrN 84 (n + 1)), .slice none 0 0] 53) := (hfr _ Qwr40.out.lt (neQGwr40.out)).trans Qwr40.out
       clear hrun hown hrow hbel hfr hsz hat
       refine step_append_eqM rfl _ _ _ _ rfl rfl rfl HRwr41.out ?_
       refine hK.out _ _ (by exact KB.out _ kr41) (fun hHeld => ?_)
       clear hK K
       try simp only [Act.put, sq]
       refine wpAnyH_ready (rs := [10, 12]) (by kernel_rfl) (by simp) ?_
       refine AllReadyH.cons rfl (fun K hK => ?_) (AllReadyH.cons rfl (fun K hK => ?_) AllReadyH.nil)
       ·obtain ⟨gwr42, capwr42, wr42, hrun, hsl, hbel, hgg, hcap, hfr, hsz, hat⟩ := oneTI kr41 Rwr41.out RRwr41.out Qwr41.out HAL.out
        have HRwr42 := hide hrun
        have Swr42 := hide hsl
        have Cwr42 := hide hcap
        have glwr42 := hide hgg.2
        have ggwr42 := hide hgg.1
        have kr42 := hbel
        clear hrun hsl hbel hgg hcap hfr hsz hat
        refine step_append_eqM rfl _ _ _ _ rfl rfl rfl HRwr42.out ?_
        refine hK.out _ _ (by exact KB.out _ kr42) (fun hHeld => ?_)
        clear hK K
        try simp only [Act.put, sq]
        refine wpAnyH_ready (rs := [11, 12]) (by kernel_rfl) (by simp) ?_
        refine AllReadyH.cons rfl (fun K hK => ?_) (AllReadyH.cons rfl (fun K hK => ?_) AllReadyH.nil)
        ·have SE : Hid (Sl wr42 (Zq (fun b => E b ∨ b = w.heap.size + 1) N P q) (some ⟨gwr42, 0, none⟩) (ar ++ [vrT 84 (n + 1)])) := seI Swr42.out (fun d hd h => h) ⟨Nat.le_trans K4.out.le ggwr42.out, (QN.out _ ggwr42.out).1, (QN.out _ ggwr42.out).2, fun h => by have h1 := hE4.out _ h; have h2 := ggwr42.out; omega⟩
         have CL := CALL.out (fun b => E b ∨ b = w.heap.size + 1) gwr42 capwr42 wr42 kr42 SE.out Cwr42.out (fun d h => Nat.lt_of_lt_of_le (hE4.out d h) kr42.size) (fun d hd h => h)
         have HCL := hide CL
         clear CL
         go_simp
         go_at_call 26
         refine HCL.out.mono ?_
         rintro e w9 ⟨a9, c9, q9, cs9, rfl, hs9, hk9, hm9, hf9⟩
         have F9 : Hid (AsF w4 w9 P q q9) := (AsF.ofBelow kr42 P q).trans hf9
         have K9 := hide hk9
         have S9 := hide hs9
         have M9 := hide hm9
         have hS9 : (S8 B n V w b' o' c w9) := ⟨(F9.out.bq V4.out).1, (F9.out.bq A4.out).1, UP4.out.trans ((K4.out.below F9.out).mono hBN)⟩
         clear hs9 hk9 hm9 hf9 HCL SE
         generalize hty : tyT 84 b (ar ++ [vrT 84 (n + 1)]) (n + 1) = r at *
         have HTY := hide hty
         clear hty
         go_simp
         refine hK.out _ _ (by exact hS9) (fun hHeld => ?_)
         clear hK K
         try simp only [Act.put, sq]
         have hS10 := hS9
         refine rdq 12 rfl fun K hK => ?_
         go_simp
         have owr44 : Hid (Below w9.heap.size w9 (w9.alloc (.cells #[.string ⟨#[]⟩, .slice none 0 0] 53))) := (Below.refl _ _).alloc (Nat.le_refl _) _
         have Awr44 : Hid (Bq (w9.alloc (.cells #[.string ⟨#[]⟩, .slice none 0 0] 53)) P q9 w9.heap.size #[.string ⟨#[]⟩, .slice none 0 0] 53) := Bq.new K9.out _ _
         have Kwr44 : Hid (AsK (fun d => (E d ∨ d = w.heap.size + 1) ∨ d = w9.heap.size) (w9.alloc (.cells #[.string ⟨#[]⟩, .slice none 0 0] 53)) N P 50 r.2.2 q9 cs9) := (K9.out.excl (E' := fun d => (E d ∨ d = w.heap.size + 1) ∨ d = w9.heap.size) fun d hd h => h.elim id (fun h => by omega)).later owr44.out
         have Swr44 : Hid (Sl (w9.alloc (.cells #[.string ⟨#[]⟩, .slice none 0 0] 53)) (Zq (fun d => (E d ∨ d = w.heap.size + 1) ∨ d = w9.heap.size) N P q9) a9 r.1.args) := (sl_excl (E' := fun d => (E d ∨ d = w.heap.size + 1) ∨ d = w9.heap.size) S9.out fun d hd h => h.elim id (fun h => by omega)).later owr44.out
         have Fwr44 := hide (F9.out.then owr44.out)
         have gewr44 : Hid (w4.heap.size ≤ w9.heap.size) := F9.out.1.size
         have Hwr44 : (S8 B n V w b' o' c (w9.alloc (.cells #[.string ⟨#[]⟩, .slice none 0 0] 53))) := ⟨hS9.1.alloc _, hS9.2.1.alloc _, hS9.2.2.alloc (belSizeI hS9.2.2 (Nat.le_trans hBN hK0)) _⟩
         refine hK.out _ _ (by exact Hwr44) (fun hHeld => ?_)
         clear hK K
         try simp only [Act.put, sq]
         have hS10 := Hwr44
         generalize (w9.alloc (.cells #[.string ⟨#[]⟩, .slice none 0 0] 53)) = wz at *
         obtain ⟨KX, FX, BX, SX⟩ := AsK.store (E := (fun b => E b ∨ b = w.heap.size + 1)) Kwr44.out Fwr44.out Awr44.out gewr44.out (.string r.1.name) (.slice a9 r.1.args.length c9) Swr44.out
         have b0 := Awr44.out.1.cell 0
         have b1 := Awr44.out.1.cell 1
         have z0 := Awr44.out.1.frozen 0
         have z1 := Awr44.out.1.frozen 1
         simp only [List.getElem?_toArray, List.getElem?_cons_zero, List.getElem?_cons_succ] at b0 b1
         have neV : V ≠ w9.heap.size := fun e => by have h1 := V4.out.1.lt; have h2 := gewr44.out; omega
         have neA : w.heap.size ≠ w9.heap.size := fun e => by have h1 := A4.out.1.lt; have h2 := gewr44.out; omega
         have HX : (S8 B n V w b' o' c ((wz.setCell ⟨w9.heap.size, 0, none⟩ (.string r.1.name)).setCell ⟨w9.heap.size, 1, none⟩ (.slice a9 r.1.args.length c9))) := ⟨(hS10.1.setOther 0 _ neV).setOther 1 _ neV, (hS10.2.1.setOther 0 _ neA).setOther 1 _ neA, belSetI (belSetI hS10.2.2 (Nat.le_trans hBw.out gewr44.out) 0 _) (Nat.le_trans hBw.out gewr44.out) 1 _⟩
         refine rdq 13 rfl fun K hK => ?_
         go_simp
         refine hK.out _ _ (by exact HX) (fun hHeld => ?_)
         clear hK K
         try simp only [Act.put, sq]
         refine wpAnyH_done (by kernel_rfl) ?_ _
         have FIN := hide (rgO_mk HTY.out ⟨BX, (FX.bq0 Awr44.out)⟩ SX KX M9.out FX)
         clear b0 b1 z0 z1
         go_wp2_with fail
         go_meet
         exact FIN.out
        ·go_simp
         have kr45 : Below w4.heap.size w4 (wr42.alloc (.cells #[.string ⟨#[]⟩, .slice none 0 0] 53)) := kr42.alloc kr42.size _
         have owr45 : Hid (Below wr42.heap.size wr42 (wr42.alloc (.cells #[.string ⟨#[]⟩, .slice none 0 0] 53))) := ((Below.refl _ _).alloc (Nat.le_refl _) _)
         have Awr45 : Hid (Blk (wr42.alloc (.cells #[.string ⟨#[]⟩, .slice none 0 0] 53)) wr42.heap.size #[.string ⟨#[]⟩, .slice none 0 0] 53) := Blk.new wr42 _ _
         have geAwr45 : Hid (w4.heap.size ≤ wr42.heap.size) := kr42.size
         have Swr45 := hide (Swr42.out.later owr45.out)
         have glwr45 : Hid (gwr42 < (wr42.alloc (.cells #[.string ⟨#[]⟩, .slice none 0 0] 53)).heap.size) := Nat.lt_of_lt_of_le glwr42.out owr45.out.size
         have ngwr45 : Hid (gwr42 ≠ wr42.heap.size) := by have h1 := glwr42.out; unfold Hid; omega
         refine hK.out _ _ (by exact KB.out _ kr45) (fun hHeld => ?_)
         clear hK K
         try simp only [Act.put, sq]
         generalize (wr42.alloc (.cells #[.string ⟨#[]⟩, .slice none 0 0] 53)) = wr45 at *
         refine rdq 11 rfl fun K hK => ?_
         have SE : Hid (Sl wr45 (Zq (fun d => (E d ∨ d = w.heap.size + 1) ∨ d = wr42.heap.size) N P q) (some ⟨gwr42, 0, none⟩) (ar ++ [vrT 84 (n + 1)])) := seI Swr45.out (fun d hd h => h.elim id (fun h => by have h1 := geAwr45.out; omega)) ⟨Nat.le_trans K4.out.le ggwr42.out, (QN.out _ ggwr42.out).1, (QN.out _ ggwr42.out).2, fun h => h.elim (fun h => by have h1 := hE4.out _ h; have h2 := ggwr42.out; omega) ngwr45.out⟩
         have AQ : Hid (Bq wr45 P q wr42.heap.size #[.string ⟨#[]⟩, .slice none 0 0] 53) := ⟨Awr45.out, QN.out _ geAwr45.out⟩
         have CL := CALL.out (fun d => (E d ∨ d = w.heap.size + 1) ∨ d = wr42.heap.size) gwr42 capwr42 wr45 kr45 SE.out Cwr42.out (fun d hd => hd.elim (fun h => Nat.lt_of_lt_of_le (hE4.out d h) kr45.size) (fun h => by rw [h]; exact Awr45.out.lt)) (fun d hd h => h.elim id (fun h => by have h1 := geAwr45.out; omega))
         have HCL := hide CL
         clear CL
         go_simp
         go_at_call 26
         refine HCL.out.mono ?_
         rintro e w9 ⟨a9, c9, q9, cs9, rfl, hs9, hk9, hm9, hf9⟩
         have F9 : Hid (AsF w4 w9 P q q9) := (AsF.ofBelow kr45 P q).trans hf9
         have K9 := hide hk9
         have S9 := hide hs9
         have M9 := hide hm9
         have hS9 : (S8 B n V w b' o' c w9) := ⟨(F9.out.bq V4.out).1, (F9.out.bq A4.out).1, UP4.out.trans ((K4.out.below F9.out).mono hBN)⟩
         have A9 := hide (hf9.bq AQ.out)
         clear hs9 hk9 hm9 hf9 HCL SE
         generalize hty : tyT 84 b (ar ++ [vrT 84 (n + 1)]) (n + 1) = r at *
         have HTY := hide hty
         clear hty
         go_simp
         refine hK.out _ _ (by exact hS9) (fun hHeld => ?_)
         clear hK K
         try simp only [Act.put, sq]
         have hS10 := hS9
         obtain ⟨KX, FX, BX, SX⟩ := AsK.store (E := (fun b => E b ∨ b = w.heap.size + 1)) K9.out F9.out A9.out geAwr45.out (.string r.1.name) (.slice a9 r.1.args.length c9) S9.out
         have b0 := A9.out.1.cell 0
         have b1 := A9.out.1.cell 1
         have z0 := A9.out.1.frozen 0
         have z1 := A9.out.1.frozen 1
         simp only [List.getElem?_toArray, List.getElem?_cons_zero, List.getElem?_cons_succ] at b0 b1
         have neV : V ≠ wr42.heap.size := fun e => by have h1 := V4.out.1.lt; have h2 := geAwr45.out; omega
         have neA : w.heap.size ≠ wr42.heap.size := fun e => by have h1 := A4.out.1.lt; have h2 := geAwr45.out; omega
         have HX : (S8 B n V w b' o' c ((w9.setCell ⟨wr42.heap.size, 0, none⟩ (.string r.1.name)).setCell ⟨wr42.heap.size, 1, none⟩ (.slice a9 r.1.args.length c9))) := ⟨(hS10.1.setOther 0 _ neV).setOther 1 _ neV, (hS10.2.1.setOther 0 _ neA).setOther 1 _ neA, belSetI (belSetI hS10.2.2 (Nat.le_trans hBw.out geAwr45.out) 0 _) (Nat.le_trans hBw.out geAwr45.out) 1 _⟩
         refine rdq 13 rfl fun K hK => ?_
         go_simp
         refine hK.out _ _ (by exact HX) (fun hHeld => ?_)
         clear hK K
         try simp only [Act.put, sq]
         refine wpAnyH_done (by kernel_rfl) ?_ _
         have FIN := hide (rgO_mk HTY.out ⟨BX, (FX.bq0 A9.out)⟩ SX KX M9.out FX)
         clear b0 b1 z0 z1
         go_wp2_with fail
         go_meet
         exact FIN.out
       ·go_simp
        have kr47 : Below w4.heap.size w4 (wr41.alloc (.cells #[.string ⟨#[]⟩, .slice none 0 0] 53)) := kr41.alloc kr41.size _
        have owr47 : Hid (Below wr41.heap.size wr41 (wr41.alloc (.cells #[.string ⟨#[]⟩, .slice none 0 0] 53))) := ((Below.refl _ _).alloc (Nat.le_refl _) _)
        have Awr47 : Hid (Blk (wr41.alloc (.cells #[.string ⟨#[]⟩, .slice none 0 0] 53)) wr41.heap.size #[.string ⟨#[]⟩, .slice none 0 0] 53) := Blk.new wr41 _ _
        have Qwr47 := hide (Qwr41.out.below owr47.out Qwr41.out.lt)
        have neQAwr47 : Hid (w4.heap.size ≠ wr41.heap.size) := by have h1 := Qwr41.out.lt; unfold Hid; omega
        have geAwr47 : Hid (w4.heap.size ≤ wr41.heap.size) := kr41.size
        have Rwr47 := hide (ownsRow_at Rwr41.out fun g hg => owr47.out.block g (Rwr41.out.lt g hg).2)
        have nrwr47 : Hid (some wr41.heap.size ≠ (vwr41 : Value).ownBlock) := fun e => by have h1 := (Rwr41.out.lt _ e.symm).2; omega
        refine hK.out _ _ (by exact KB.out _ kr47) (fun hHeld => ?_)
        clear hK K
        try simp only [Act.put, sq]
        generalize (wr41.alloc (.cells #[.string ⟨#[]⟩, .slice none 0 0] 53)) = wr47 at *
        refine rdq 10 rfl fun K hK => ?_
        obtain ⟨gwr48, capwr48, wr48, hrun, hsl, hbel, hgg, hcap, hfr, hsz, hat⟩ := oneTI kr47 Rwr47.out RRwr41.out Qwr47.out HAL.out
        have HRwr48 := hide hrun
        have Swr48 := hide hsl
        have Cwr48 := hide hcap
        have glwr48 := hide hgg.2
        have ggwr48 := hide hgg.1
        have kr48 := hbel
        have Awr48 : Hid (Blk wr48 wr41.heap.size #[.string ⟨#[]⟩, .slice none 0 0] 53) := (hfr _ Awr47.out.lt nrwr47.out).trans Awr47.out
        have ngwr48 : Hid (gwr48 ≠ wr41.heap.size) := fun e => by have h1 := Awr47.out.lt; rcases hat with h2 | h2; exact nrwr47.out (by rw [h2, e]); omega
        clear hrun hsl hbel hgg hcap hfr hsz hat
        refine step_append_eqM rfl _ _ _ _ rfl rfl rfl HRwr48.out ?_
        refine hK.out _ _ (by exact KB.out _ kr48) (fun hHeld => ?_)
        clear hK K
        try simp only [Act.put, sq]
        refine rdq 11 rfl fun K hK => ?_
        have SE : Hid (Sl wr48 (Zq (fun d => (E d ∨ d = w.heap.size + 1) ∨ d = wr41.heap.size) N P q) (some ⟨gwr48, 0, none⟩) (ar ++ [vrT 84 (n + 1)])) := seI Swr48.out (fun d hd h => h.elim id (fun h => by have h1 := geAwr47.out; omega)) ⟨Nat.le_trans K4.out.le ggwr48.out, (QN.out _ ggwr48.out).1, (QN.out _ ggwr48.out).2, fun h => h.elim (fun h => by have h1 := hE4.out _ h; have h2 := ggwr48.out; omega) ngwr48.out⟩
        have AQ : Hid (Bq wr48 P q wr41.heap.size #[.string ⟨#[]⟩, .slice none 0 0] 53) := ⟨Awr48.out, QN.out _ geAwr47.out⟩
        have CL := CALL.out (fun d => (E d ∨ d = w.heap.size + 1) ∨ d = wr41.heap.size) gwr48 capwr48 wr48 kr48 SE.out Cwr48.out (fun d hd => hd.elim (fun h => Nat.lt_of_lt_of_le (hE4.out d h) kr48.size) (fun h => by rw [h]; exact Awr48.out.lt)) (fun d hd h => h.elim id (fun h => by have h1 := geAwr47.out; omega))
        have HCL := hide CL
        clear CL
        go_simp
        go_at_call 26
        refine HCL.out.mono ?_
        rintro e w9 ⟨a9, c9, q9, cs9, rfl, hs9, hk9, hm9, hf9⟩
        have F9 : Hid (AsF w4 w9 P q q9) := (AsF.ofBelow kr48 P q).trans hf9
        have K9 := hide hk9
        have S9 := hide hs9
        have M9 := hide hm9
        have hS9 : (S8 B n V w b' o' c w9) := ⟨(F9.out.bq V4.out).1, (F9.out.bq A4.out).1, UP4.out.trans ((K4.out.below F9.out).mono hBN)⟩
        have A9 := hide (hf9.bq AQ.out)
        clear hs9 hk9 hm9 hf9 HCL SE
        generalize hty : tyT 84 b (ar ++ [vrT 84 (n + 1)]) (n + 1) = r at *
        have HTY := hide hty
        clear hty
        go_simp
        refine hK.out _ _ (by exact hS9) (fun hHeld => ?_)
        clear hK K
        try simp only [Act.put, sq]
        have hS10 := hS9
        obtain ⟨KX, FX, BX, SX⟩ := AsK.store (E := (fun b => E b ∨ b = w.heap.size + 1)) K9.out F9.out A9.out geAwr47.out (.string r.1.name) (.slice a9 r.1.args.length c9) S9.out
        have b0 := A9.out.1.cell 0
        have b1 := A9.out.1.cell 1
        have z0 := A9.out.1.frozen 0
        have z1 := A9.out.1.frozen 1
        simp only [List.getElem?_toArray, List.getElem?_cons_zero, List.getElem?_cons_succ] at b0 b1
        have neV : V ≠ wr41.heap.size := fun e => by have h1 := V4.out.1.lt; have h2 := geAwr47.out; omega
        have neA : w.heap.size ≠ wr41.heap.size := fun e => by have h1 := A4.out.1.lt; have h2 := geAwr47.out; omega
        have HX : (S8 B n V w b' o' c ((w9.setCell ⟨wr41.heap.size, 0, none⟩ (.string r.1.name)).setCell ⟨wr41.heap.size, 1, none⟩ (.slice a9 r.1.args.length c9))) := ⟨(hS10.1.setOther 0 _ neV).setOther 1 _ neV, (hS10.2.1.setOther 0 _ neA).setOther 1 _ neA, belSetI (belSetI hS10.2.2 (Nat.le_trans hBw.out geAwr47.out) 0 _) (Nat.le_trans hBw.out geAwr47.out) 1 _⟩
        refine rdq 13 rfl fun K hK => ?_
        go_simp
        refine hK.out _ _ (by exact HX) (fun hHeld => ?_)
        clear hK K
        try simp only [Act.put, sq]
        refine wpAnyH_done (by kernel_rfl) ?_ _
        have FIN := hide (rgO_mk HTY.out ⟨BX, (FX.bq0 A9.out)⟩ SX KX M9.out FX)
        clear b0 b1 z0 z1
        go_wp2_with fail
        go_meet
        exact FIN.out
      ·go_simp
       have kr50 : Below w4.heap.size w4 (wr40.alloc (.cells #[.string ⟨#[]⟩, .slice none 0 0] 53)) := kr40.alloc kr40.size _
       have owr50 : Hid (Below wr40.heap.size wr40 (wr40.alloc (.cells #[.string ⟨#[]⟩, .slice none 0 0] 53))) := ((Below.refl _ _).alloc (Nat.le_refl _) _)
       have Awr50 : Hid (Blk (wr40.alloc (.cells #[.string ⟨#[]⟩, .slice none 0 0] 53)) wr40.heap.size #[.string ⟨#[]⟩, .slice none 0 0] 53) := Blk.new wr40 _ _
       have Gwr50 := hide (Gwr40.out.below owr50.out Gwr40.out.lt)
       have neGAwr50 : Hid (wr39.heap.size ≠ wr40.heap.size) := by have h1 := Gwr40.out.lt; unfold Hid; omega
       have Qwr50 := hide (Qwr40.out.below owr50.out Qwr40.out.lt)
       have neQAwr50 : Hid (w4.heap.size ≠ wr40.heap.size) := by have h1 := Qwr40.out.lt; unfold Hid; omega
       have geAwr50 : Hid (w4.heap.size ≤ wr40.heap.size) := kr40.size
       refine hK.out _ _ (by exact KB.out _ kr50) (fun hHeld => ?_)
       clear hK K
       try simp only [Act.put, sq]
       generalize (wr40.alloc (.cells #[.string ⟨#[]⟩, .slice none 0 0] 53)) = wr50 at *
       refine rdq 7 rfl fun K hK => ?_
       obtain ⟨vwr51, wr51, xswr51, hrun, hown, hrow, hbel, hfr, hsz, hat⟩ := spreadTI (c := ac) kr50 geGwr40.out Gwr50.out S4B.out HAL.out
       have HRwr51 := hide hrun
       have Rwr51 := hide hown
       have RRwr51 := hide hrow
       have kr51 := hbel
       have Qwr51 : Hid (Blk wr51 w4.heap.size #[.string (vrN 84 (n + 1)), .slice none 0 0] 53) := (hfr _ Qwr50.out.lt (neQGwr40.out)).trans Qwr50.out
       have Awr51 : Hid (Blk wr51 wr40.heap.size #[.string ⟨#[]⟩, .slice none 0 0] 53) := (hfr _ Awr50.out.lt ((neGAwr50.out).symm)).trans Awr50.out
       have nrwr51 : Hid (some wr40.heap.size ≠ (vwr51 : Value).ownBlock) := fun e => by have h1 := Awr50.out.lt; rcases hat _ e.symm with h2 | h2; exact ((neGAwr50.out).symm) h2; omega
       clear hrun hown hrow hbel hfr hsz hat
       refine step_append_eqM rfl _ _ _ _ rfl rfl rfl HRwr51.out ?_
       refine hK.out _ _ (by exact KB.out _ kr51) (fun hHeld => ?_)
       clear hK K
       try simp only [Act.put, sq]
       refine rdq 10 rfl fun K hK => ?_
       obtain ⟨gwr52, capwr52, wr52, hrun, hsl, hbel, hgg, hcap, hfr, hsz, hat⟩ := oneTI kr51 Rwr51.out RRwr51.out Qwr51.out HAL.out
       have HRwr52 := hide hrun
       have Swr52 := hide hsl
       have Cwr52 := hide hcap
       have glwr52 := hide hgg.2
       have ggwr52 := hide hgg.1
       have kr52 := hbel
       have Awr52 : Hid (Blk wr52 wr40.heap.size #[.string ⟨#[]⟩, .slice none 0 0] 53) := (hfr _ Awr51.out.lt nrwr51.out).trans Awr51.out
       have ngwr52 : Hid (gwr52 ≠ wr40.heap.size) := fun e => by have h1 := Awr51.out.lt; rcases hat with h2 | h2; exact nrwr51.out (by rw [h2, e]); omega
       clear hrun hsl hbel hgg hcap hfr hsz hat
       refine step_append_eqM rfl _ _ _ _ rfl rfl rfl HRwr52.out ?_
       refine hK.out _ _ (by exact KB.out _ kr52) (fun hHeld => ?_)
       clear hK K
       try simp only [Act.put, sq]
       refine rdq 11 rfl fun K hK => ?_
       have SE : Hid (Sl wr52 (Zq (fun d => (E d ∨ d = w.heap.size + 1) ∨ d = wr40.heap.size) N P q) (some ⟨gwr52, 0, none⟩) (ar ++ [vrT 84 (n + 1)])) := seI Swr52.out (fun d hd h => h.elim id (fun h => by have h1 := geAwr50.out; omega)) ⟨Nat.le_trans K4.out.le ggwr52.out, (QN.out _ ggwr52.out).1, (QN.out _ ggwr52.out).2, fun h => h.elim (fun h => by have h1 := hE4.out _ h; have h2 := ggwr52.out; omega) ngwr52.out⟩
       have AQ : Hid (Bq wr52 P q wr40.heap.size #[.string ⟨#[]⟩, .slice none 0 0] 53) := ⟨Awr52.out, QN.out _ geAwr50.out⟩
       have CL := CALL.out (fun d => (E d ∨ d = w.heap.size + 1) ∨ d = wr40.heap.size) gwr52 capwr52 wr52 kr52 SE.out Cwr52.out (fun d hd => hd.elim (fun h => Nat.lt_of_lt_of_le (hE4.out d h) kr52.size) (fun h => by rw [h]; exact Awr52.out.lt)) (fun d hd h => h.elim id (fun h => by have h1 := geAwr50.out; omega))
       have HCL := hide CL
       clear CL
       go_simp
       go_at_call 26
       refine HCL.out.mono ?_
       rintro e w9 ⟨a9, c9, q9, cs9, rfl, hs9, hk9, hm9, hf9⟩
       have F9 : Hid (AsF w4 w9 P q q9) := (AsF.ofBelow kr52 P q).trans hf9
       have K9 := hide hk9
       have S9 := hide hs9
       have M9 := hide hm9
       have hS9 : (S8 B n V w b' o' c w9) := ⟨(F9.out.bq V4.out).1, (F9.out.bq A4.out).1, UP4.out.trans ((K4.out.below F9.out).mono hBN)⟩
       have A9 := hide (hf9.bq AQ.out)
       clear hs9 hk9 hm9 hf9 HCL SE
       generalize hty : tyT 84 b (ar ++ [vrT 84 (n + 1)]) (n + 1) = r at *
       have HTY := hide hty
       clear hty
       go_simp
       refine hK.out _ _ (by exact hS9) (fun hHeld => ?_)
       clear hK K
       try simp only [Act.put, sq]
       have hS10 := hS9
       obtain ⟨KX, FX, BX, SX⟩ := AsK.store (E := (fun b => E b ∨ b = w.heap.size + 1)) K9.out F9.out A9.out geAwr50.out (.string r.1.name) (.slice a9 r.1.args.length c9) S9.out
       have b0 := A9.out.1.cell 0
       have b1 := A9.out.1.cell 1
       have z0 := A9.out.1.frozen 0
       have z1 := A9.out.1.frozen 1
       simp only [List.getElem?_toArray, List.getElem?_cons_zero, List.getElem?_cons_succ] at b0 b1
       have neV : V ≠ wr40.heap.size := fun e => by have h1 := V4.out.1.lt; have h2 := geAwr50.out; omega
       have neA : w.heap.size ≠ wr40.heap.size := fun e => by have h1 := A4.out.1.lt; have h2 := geAwr50.out; omega
       have HX : (S8 B n V w b' o' c ((w9.setCell ⟨wr40.heap.size, 0, none⟩ (.string r.1.name)).setCell ⟨wr40.heap.size, 1, none⟩ (.slice a9 r.1.args.length c9))) := ⟨(hS10.1.setOther 0 _ neV).setOther 1 _ neV, (hS10.2.1.setOther 0 _ neA).setOther 1 _ neA, belSetI (belSetI hS10.2.2 (Nat.le_trans hBw.out geAwr50.out) 0 _) (Nat.le_trans hBw.out geAwr50.out) 1 _⟩
       refine rdq 13 rfl fun K hK => ?_
       go_simp
       refine hK.out _ _ (by exact HX) (fun hHeld => ?_)
       clear hK K
       try simp only [Act.put, sq]
       refine wpAnyH_done (by kernel_rfl) ?_ _
       have FIN := hide (rgO_mk HTY.out ⟨BX, (FX.bq0 A9.out)⟩ SX KX M9.out FX)
       clear b0 b1 z0 z1
       go_wp2_with fail
       go_meet
       exact FIN.out
     ·go_simp
      have kr54 : Below w4.heap.size w4 (wr39.alloc (.cells #[.string ⟨#[]⟩, .slice none 0 0] 53)) := kr39.alloc kr39.size _
      have owr54 : Hid (Below wr39.heap.size wr39 (wr39.alloc (.cells #[.string ⟨#[]⟩, .slice none 0 0] 53))) := ((Below.refl _ _).alloc (Nat.le_refl _) _)
      have Awr54 : Hid (Blk (wr39.alloc (.cells #[.string ⟨#[]⟩, .slice none 0 0] 53)) wr39.heap.size #[.string ⟨#[]⟩, .slice none 0 0] 53) := Blk.new wr39 _ _
      have Qwr54 := hide (Qwr39.out.below owr54.out Qwr39.out.lt)
      have neQAwr54 : Hid (w4.heap.size ≠ wr39.heap.size) := by have h1 := Qwr39.out.lt; unfold Hid; omega
      have geAwr54 : Hid (w4.heap.size ≤ wr39.heap.size) := kr39.size
      refine hK.out _ _ (by exact KB.out _ kr54) (fun hHeld => ?_)
      clear hK K
      try simp only [Act.put, sq]
      generalize (wr39.alloc (.cells #[.string ⟨#[]⟩, .slice none 0 0] 53)) = wr54 at *
      refine rdq 5 rfl fun K hK => ?_
      go_simp
      have kr55 : Below w4.heap.size w4 (wr54.alloc (.cells #[] 53)) := kr54.alloc kr54.size _
      have owr55 : Hid (Below wr54.heap.size wr54 (wr54.alloc (.cells #[] 53))) := ((Below.refl _ _).alloc (Nat.le_refl _) _)
      have Gwr55 : Hid (Blk (wr54.alloc (.cells #[] 53)) wr54.heap.size #[] 53) := Blk.new wr54 _ _
      have Qwr55 := hide (Qwr54.out.below owr55.out Qwr54.out.lt)
      have neQGwr55 : Hid (w4.heap.size ≠ wr54.heap.size) := by have h1 := Qwr54.out.lt; unfold Hid; omega
      have Awr55 := hide (Awr54.out.below owr55.out Awr54.out.lt)
      have neAGwr55 : Hid (wr39.heap.size ≠ wr54.heap.size) := by have h1 := Awr54.out.lt; unfold Hid; omega
      have geGwr55 : Hid (w4.heap.size ≤ wr54.heap.size) := kr54.size
      refine hK.out _ _ (by exact KB.out _ kr55) (fun hHeld => ?_)
      clear hK K
      try simp only [Act.put, sq]
      generalize (wr54.alloc (.cells #[] 53)) = wr55 at *
      refine rdq 7 rfl fun K hK => ?_
      obtain ⟨vwr56, wr56, xswr56, hrun, hown, hrow, hbel, hfr, hsz, hat⟩ := spreadTI (c := ac) kr55 geGwr55.out Gwr55.out S4B.out HAL.out
      have HRwr56 := hide hrun
      have Rwr56 := hide hown
      have RRwr56 := hide hrow
      have kr56 := hbel
      have Qwr56 : Hid (Blk wr56 w4.heap.size #[.string (vrN 84 (n + 1)), .slice none 0 0] 53) := (hfr _ Qwr55.out.lt (neQGwr55.out)).trans Qwr55.out
      have Awr56 : Hid (Blk wr56 wr39.heap.size #[.string ⟨#[]⟩, .slice none 0 0] 53) := (hfr _ Awr55.out.lt (neAGwr55.out)).trans Awr55.out
      have nrwr56 : Hid (some wr39.heap.size ≠ (vwr56 : Value).ownBlock) := fun e => by have h1 := Awr55.out.lt; rcases hat _ e.symm with h2 | h2; exact (neAGwr55.out) h2; omega
      clear hrun hown hrow hbel hfr hsz hat
      refine step_append_eqM rfl _ _ _ _ rfl rfl rfl HRwr56.out ?_
      refine hK.out _ _ (by exact KB.out _ kr56) (fun hHeld => ?_)
      clear hK K
      try simp only [Act.put, sq]
      refine rdq 10 rfl fun K hK => ?_
      obtain ⟨gwr57, capwr57, wr57, hrun, hsl, hbel, hgg, hcap, hfr, hsz, hat⟩ := oneTI kr56 Rwr56.out RRwr56.out Qwr56.out HAL.out
      have HRwr57 := hide hrun
      have Swr57 := hide hsl
      have Cwr57 := hide hcap
      have glwr57 := hide hgg.2
      have ggwr57 := hide hgg.1
      have kr57 := hbel
      have Awr57 : Hid (Blk wr57 wr39.heap.size #[.string ⟨#[]⟩, .slice none 0 0] 53) := (hfr _ Awr56.out.lt nrwr56.out).trans Awr56.out
      have ngwr57 : Hid (gwr57 ≠ wr39.heap.size) := fun e => by have h1 := Awr56.out.lt; rcases hat with h2 | h2; exact nrwr56.out (by rw [h2, e]); omega
      clear hrun hsl hbel hgg hcap hfr hsz hat
      refine step_append_eqM rfl _ _ _ _ rfl rfl rfl HRwr57.out ?_
      refine hK.out _ _ (by exact KB.out _ kr57) (fun hHeld => ?_)
      clear hK K
      try simp only [Act.put, sq]
      refine rdq 11 rfl fun K hK => ?_
      have SE : Hid (Sl wr57 (Zq (fun d => (E d ∨ d = w.heap.size + 1) ∨ d = wr39.heap.size) N P q) (some ⟨gwr57, 0, none⟩) (ar ++ [vrT 84 (n + 1)])) := seI Swr57.out (fun d hd h => h.elim id (fun h => by have h1 := geAwr54.out; omega)) ⟨Nat.le_trans K4.out.le ggwr57.out, (QN.out _ ggwr57.out).1, (QN.out _ ggwr57.out).2, fun h => h.elim (fun h => by have h1 := hE4.out _ h; have h2 := ggwr57.out; omega) ngwr57.out⟩
      have AQ : Hid (Bq wr57 P q wr39.heap.size #[.string ⟨#[]⟩, .slice none 0 0] 53) := ⟨Awr57.out, QN.out _ geAwr54.out⟩
      have CL := CALL.out (fun d => (E d ∨ d = w.heap.size + 1) ∨ d = wr39.heap.size) gwr57 capwr57 wr57 kr57 SE.out Cwr57.out (fun d hd => hd.elim (fun h => Nat.lt_of_lt_of_le (hE4.out d h) kr57.size) (fun h => by rw [h]; exact Awr57.out.lt)) (fun d hd h => h.elim id (fun h => by have h1 := geAwr54.out; omega))
      have HCL := hide CL
      clear CL
      go_simp
      go_at_call 26
      refine HCL.out.mono ?_
      rintro e w9 ⟨a9, c9, q9, cs9, rfl, hs9, hk9, hm9, hf9⟩
      have F9 : Hid (AsF w4 w9 P q q9) := (AsF.ofBelow kr57 P q).trans hf9
      have K9 := hide hk9
      have S9 := hide hs9
      have M9 := hide hm9
      have hS9 : (S8 B n V w b' o' c w9) := ⟨(F9.out.bq V4.out).1, (F9.out.bq A4.out).1, UP4.out.trans ((K4.out.below F9.out).mono hBN)⟩
      have A9 := hide (hf9.bq AQ.out)
      clear hs9 hk9 hm9 hf9 HCL SE
      generalize hty : tyT 84 b (ar ++ [vrT 84 (n + 1)]) (n + 1) = r at *
      have HTY := hide hty
      clear hty
      go_simp
      refine hK.out _ _ (by exact hS9) (fun hHeld => ?_)
      clear hK K
      try simp only [Act.put, sq]
      have hS10 := hS9
      obtain ⟨KX, FX, BX, SX⟩ := AsK.store (E := (fun b => E b ∨ b = w.heap.size + 1)) K9.out F9.out A9.out geAwr54.out (.string r.1.name) (.slice a9 r.1.args.length c9) S9.out
      have b0 := A9.out.1.cell 0
      have b1 := A9.out.1.cell 1
      have z0 := A9.out.1.frozen 0
      have z1 := A9.out.1.frozen 1
      simp only [List.getElem?_toArray, List.getElem?_cons_zero, List.getElem?_cons_succ] at b0 b1
      have neV : V ≠ wr39.heap.size := fun e => by have h1 := V4.out.1.lt; have h2 := geAwr54.out; omega
      have neA : w.heap.size ≠ wr39.heap.size := fun e => by have h1 := A4.out.1.lt; have h2 := geAwr54.out; omega
      have HX : (S8 B n V w b' o' c ((w9.setCell ⟨wr39.heap.size, 0, none⟩ (.string r.1.name)).setCell ⟨wr39.heap.size, 1, none⟩ (.slice a9 r.1.args.length c9))) := ⟨(hS10.1.setOther 0 _ neV).setOther 1 _ neV, (hS10.2.1.setOther 0 _ neA).setOther 1 _ neA, belSetI (belSetI hS10.2.2 (Nat.le_trans hBw.out geAwr54.out) 0 _) (Nat.le_trans hBw.out geAwr54.out) 1 _⟩
      refine rdq 13 rfl fun K hK => ?_
      go_simp
      refine hK.out _ _ (by exact HX) (fun hHeld => ?_)
      clear hK K
      try simp only [Act.put, sq]
      refine wpAnyH_done (by kernel_rfl) ?_ _
      have FIN := hide (rgO_mk HTY.out ⟨BX, (FX.bq0 A9.out)⟩ SX KX M9.out FX)
      clear b0 b1 z0 z1
      go_wp2_with fail
      go_meet
      exact FIN.out
    ·go_simp
     have kr59 : Below w4.heap.size w4 ((w4.alloc (.cells #[.string ⟨#[]⟩, .slice none 0 0] 53)).drew) := ((Below.refl w4.heap.size w4).alloc (Nat.le_refl _) _).drew
     have owr59 : Hid (Below w4.heap.size w4 ((w4.alloc (.cells #[.string ⟨#[]⟩, .slice none 0 0] 53)).drew)) := ((Below.refl _ _).alloc (Nat.le_refl _) _).drew
     have Awr59 : Hid (Blk ((w4.alloc (.cells #[.string ⟨#[]⟩, .slice none 0 0] 53)).drew) w4.heap.size #[.string ⟨#[]⟩, .slice none 0 0] 53) := Blk.new w4 _ _
     have geAwr59 : Hid (w4.heap.size ≤ w4.heap.size) := Nat.le_refl _
     refine hK.out _ _ (by exact KB.out _ kr59) (fun hHeld => ?_)
     clear hK K
     try simp only [Act.put, sq]
     generalize ((w4.alloc (.cells #[.string ⟨#[]⟩, .slice none 0 0] 53)).drew) = wr59 at *
     refine wpAnyH_ready (rs := [5, 9]) (by kernel_rfl) (by simp) ?_
     refine AllReadyH.cons rfl (fun K hK => ?_) (AllReadyH.cons rfl (fun K hK => ?_) AllReadyH.nil)
     ·go_simp
      have kr60 : Below w4.heap.size w4 (wr59.alloc (.cells #[] 53)) := kr59.alloc kr59.size _
      have owr60 : Hid (Below wr59.heap.size wr59 (wr59.alloc (.cells #[] 53))) := ((Below.refl _ _).alloc (Nat.le_refl _) _)
      have Gwr60 : Hid (Blk (wr59.alloc (.cells #[] 53)) wr59.heap.size #[] 53) := Blk.new wr59 _ _
      have Awr60 := hide (Awr59.out.below owr60.out Awr59.out.lt)
      have neAGwr60 : Hid (w4.heap.size ≠ wr59.heap.size) := by have h1 := Awr59.out.lt; unfold Hid; omega
      have geGwr60 : Hid (w4.heap.size ≤ wr59.heap.size) := kr59.size
      refine hK.out _ _ (by exact KB.out _ kr60) (fun hHeld => ?_)
      clear hK K
      try simp only [Act.put, sq]
      generalize (wr59.alloc (.cells #[] 53)) = wr60 at *
      refine wpAnyH_ready (rs := [7, 9]) (by kernel_rfl) (by simp) ?_
      refine AllReadyH.cons rfl (fun K hK => ?_) (AllReadyH.cons rfl (fun K hK => ?_) AllReadyH.nil)
      ·obtain ⟨vwr61, wr61, xswr61, hrun, hown, hrow, hbel, hfr, hsz, hat⟩ := spreadTI (c := ac) kr60 geGwr60.out Gwr60.out S4B.out HAL.out
       have HRwr61 := hide hrun
       have Rwr61 := hide hown
       have RRwr61 := hide hrow
       have kr61 := hbel
       have Awr61 : Hid (Blk wr61 w4.heap.size #[.string ⟨#[]⟩, .slice none 0 0] 53) := (hfr _ Awr60.out.lt (neAGwr60.out)).trans Awr60.out
       have nrwr61 : Hid (some w4.heap.size ≠ (vwr61 : Value).ownBlock) := fun e => by have h1 := Awr60.out.lt; rcases hat _ e.symm with h2 | h2; exact (neAGwr60.out) h2; omega
       clear hrun hown hrow hbel hfr hsz hat
       refine step_append_eqM rfl _ _ _ _ rfl rfl rfl HRwr61.out ?_
       refine hK.out _ _ (by exact KB.out _ kr61) (fun hHeld => ?_)
       clear hK K
       try simp only [Act.put, sq]
       refine rdq 9 rfl fun K hK => ?_
       go_simp
       have kr62 : Below w4.heap.size w4 (wr61.alloc (.cells #[.string (vrN 84 (n + 1)), .slice none 0 0] 53)) := kr61.alloc kr61.size _
       have owr62 : Hid (Below wr61.heap.size wr61 (wr61.alloc (.cells #[.string (vrN 84 (n + 1)), .slice none 0 0] 53))) := ((Below.refl _ _).alloc (Nat.le_refl _) _)
       have Qwr62 : Hid (Blk (wr61.alloc (.cells #[.string (vrN 84 (n + 1)), .slice none 0 0] 53)) wr61.heap.size #[.string (vrN 84 (n + 1)), .slice none 0 0] 53) := Blk.new wr61 _ _
       have Awr62 := hide (Awr61.out.below owr62.out Awr61.out.lt)
       have neAQwr62 : Hid (w4.heap.size ≠ wr61.heap.size) := by have h1 := Awr61.out.lt; unfold Hid; omega
       have geQwr62 : Hid (w4.heap.size ≤ wr61.heap.size) := kr61.size
       have Rwr62 := hide (ownsRow_at Rwr61.out fun g hg => owr62.out.block g (Rwr61.out.lt g hg).2)
       refine hK.out _ _ (by exact KB.out _ kr62) (fun hHeld => ?_)
       clear hK K
       try simp only [Act.put, sq]
       generalize (wr61.alloc (.cells #[.string (vrN 84 (n + 1)), .slice none 0 0] 53)) = wr62 at *
       refine rdq 10 rfl fun K hK => ?_
       obtain ⟨gwr63, capwr63, wr63, hrun, hsl, hbel, hgg, hcap, hfr, hsz, hat⟩ := oneTI kr62 Rwr62.out RRwr61.out Qwr62.out HAL.out
       have HRwr63 := hide hrun
       have Swr63 := hide hsl
       have Cwr63 := hide hcap
       have glwr63 := hide hgg.2
       have ggwr63 := hide hgg.1
       have kr63 := hbel
       have Awr63 : Hid (Blk wr63 w4.heap.size #[.string ⟨#[]⟩, .slice none 0 0] 53) := (hfr _ Awr62.out.lt nrwr61.out).trans Awr62.out
       have ngwr63 : Hid (gwr63 ≠ w4.heap.size) := fun e => by have h1 := Awr62.out.lt; rcases hat with h2 | h2; exact nrwr61.out (by rw [h2, e]); omega
       clear hrun hsl hbel hgg hcap hfr hsz hat
       refine step_append_eqM rfl _ _ _ _ rfl rfl rfl HRwr63.out ?_
       refine hK.out _ _ (by exact KB.out _ kr63) (fun hHeld => ?_)
       clear hK K
       try simp only [Act.put, sq]
       refine rdq 11 rfl fun K hK => ?_
       have SE : Hid (Sl wr63 (Zq (fun d => (E d ∨ d = w.heap.size + 1) ∨ d = w4.heap.size) N P q) (some ⟨gwr63, 0, none⟩) (ar ++ [vrT 84 (n + 1)])) := seI Swr63.out (fun d hd h => h.elim id (fun h => by have h1 := geAwr59.out; omega)) ⟨Nat.le_trans K4.out.le ggwr63.out, (QN.out _ ggwr63.out).1, (QN.out _ ggwr63.out).2, fun h => h.elim (fun h => by have h1 := hE4.out _ h; have h2 := ggwr63.out; omega) ngwr63.out⟩
       have AQ : Hid (Bq wr63 P q w4.heap.size #[.string ⟨#[]⟩, .slice none 0 0] 53) := ⟨Awr63.out, QN.out _ geAwr59.out⟩
       have CL := CALL.out (fun d => (E d ∨ d = w.heap.size + 1) ∨ d = w4.heap.size) gwr63 capwr63 wr63 kr63 SE.out Cwr63.out (fun d hd => hd.elim (fun h => Nat.lt_of_lt_of_le (hE4.out d h) kr63.size) (fun h => by rw [h]; exact Awr63.out.lt)) (fun d hd h => h.elim id (fun h => by have h1 := geAwr59.out; omega))
       have HCL := hide CL
       clear CL
       go_simp
       go_at_call 26
       refine HCL.out.mono ?_
       rintro e w9 ⟨a9, c9, q9, cs9, rfl, hs9, hk9, hm9, hf9⟩
       have F9 : Hid (AsF w4 w9 P q q9) := (AsF.ofBelow kr63 P q).trans hf9
       have K9 := hide hk9
       have S9 := hide hs9
       have M9 := hide hm9
       have hS9 : (S8 B n V w b' o' c w9) := ⟨(F9.out.bq V4.out).1, (F9.out.bq A4.out).1, UP4.out.trans ((K4.out.below F9.out).mono hBN)⟩
       have A9 := hide (hf9.bq AQ.out)
       clear hs9 hk9 hm9 hf9 HCL SE
       generalize hty : tyT 84 b (ar ++ [vrT 84 (n + 1)]) (n + 1) = r at *
       have HTY := hide hty
       clear hty
       go_simp
       refine hK.out _ _ (by exact hS9) (fun hHeld => ?_)
       clear hK K
       try simp only [Act.put, sq]
       have hS10 := hS9
       obtain ⟨KX, FX, BX, SX⟩ := AsK.store (E := (fun b => E b ∨ b = w.heap.size + 1)) K9.out F9.out A9.out geAwr59.out (.string r.1.name) (.slice a9 r.1.args.length c9) S9.out
       have b0 := A9.out.1.cell 0
       have b1 := A9.out.1.cell 1
       have z0 := A9.out.1.frozen 0
       have z1 := A9.out.1.frozen 1
       simp only [List.getElem?_toArray, List.getElem?_cons_zero, List.getElem?_cons_succ] at b0 b1
       have neV : V ≠ w4.heap.size := fun e => by have h1 := V4.out.1.lt; have h2 := geAwr59.out; omega
       have neA : w.heap.size ≠ w4.heap.size := fun e => by have h1 := A4.out.1.lt; have h2 := geAwr59.out; omega
       have HX : (S8 B n V w b' o' c ((w9.setCell ⟨w4.heap.size, 0, none⟩ (.string r.1.name)).setCell ⟨w4.heap.size, 1, none⟩ (.slice a9 r.1.args.length c9))) := ⟨(hS10.1.setOther 0 _ neV).setOther 1 _ neV, (hS10.2.1.setOther 0 _ neA).setOther 1 _ neA, belSetI (belSetI hS10.2.2 (Nat.le_trans hBw.out geAwr59.out) 0 _) (Nat.le_trans hBw.out geAwr59.out) 1 _⟩
       refine rdq 13 rfl fun K hK => ?_
       go_simp
       refine hK.out _ _ (by exact HX) (fun hHeld => ?_)
       clear hK K
       try simp only [Act.put, sq]
       refine wpAnyH_done (by kernel_rfl) ?_ _
       have FIN := hide (rgO_mk HTY.out ⟨BX, (FX.bq0 A9.out)⟩ SX KX M9.out FX)
       clear b0 b1 z0 z1
       go_wp2_with fail
       go_meet
       exact FIN.out
      ·go_simp
       have kr65 : Below w4.heap.size w4 (wr60.alloc (.cells #[.string (vrN 84 (n + 1)), .slice none 0 0] 53)) := kr60.alloc kr60.size _
       have owr65 : Hid (Below wr60.heap.size wr60 (wr60.alloc (.cells #[.string (vrN 84 (n + 1)), .slice none 0 0] 53))) := ((Below.refl _ _).alloc (Nat.le_refl _) _)
       have Qwr65 : Hid (Blk (wr60.alloc (.cells #[.string (vrN 84 (n + 1)), .slice none 0 0] 53)) wr60.heap.size #[.string (vrN 84 (n + 1)), .slice none 0 0] 53) := Blk.new wr60 _ _
       have Gwr65 := hide (Gwr60.out.below owr65.out Gwr60.out.lt)
       have neGQwr65 : Hid (wr59.heap.size ≠ wr60.heap.size) := by have h1 := Gwr60.out.lt; unfold Hid; omega
       have Awr65 := hide (Awr60.out.below owr65.out Awr60.out.lt)
       have neAQwr65 : Hid (w4.heap.size ≠ wr60.heap.size) := by have h1 := Awr60.out.lt; unfold Hid; omega
       have geQwr65 : Hid (w4.heap.size ≤ wr60.heap.size) := kr60.size
       refine hK.out _ _ (by exact KB.out _ kr65) (fun hHeld => ?_)
       clear hK K
       try simp only [Act.put, sq]
       generalize (wr60.alloc (.cells #[.string (vrN 84 (n + 1)), .slice none 0 0] 53)) = wr65 at *
       refine rdq 7 rfl fun K hK => ?_
       obtain ⟨vwr66, wr66, xswr66, hrun, hown, hrow, hbel, hfr, hsz, hat⟩ := spreadTI (c := ac) kr65 geGwr60.out Gwr65.out S4B.out HAL.out
       have HRwr66 := hide hrun
       have Rwr66 := hide hown
       have RRwr66 := hide hrow
       have kr66 := hbel
       have Qwr66 : Hid (Blk wr66 wr60.heap.size #[.string (vrN 84 (n + 1)), .slice none 0 0] 53) := (hfr _ Qwr65.out.lt ((neGQwr65.out).symm)).trans Qwr65.out
       have Awr66 : Hid (Blk wr66 w4.heap.size #[.string ⟨#[]⟩, .slice none 0 0] 53) := (hfr _ Awr65.out.lt (neAGwr60.out)).trans Awr65.out
       have nrwr66 : Hid (some w4.heap.size ≠ (vwr66 : Value).ownBlock) := fun e => by have h1 := Awr65.out.lt; rcases hat _ e.symm with h2 | h2; exact (neAGwr60.out) h2; omega
       clear hrun hown hrow hbel hfr hsz hat
       refine step_append_eqM rfl _ _ _ _ rfl rfl rfl HRwr66.out ?_
       refine hK.out _ _ (by exact KB.out _ kr66) (fun hHeld => ?_)
       clear hK K
       try simp only [Act.put, sq]
       refine rdq 10 rfl fun K hK => ?_
       obtain ⟨gwr67, capwr67, wr67, hrun, hsl, hbel, hgg, hcap, hfr, hsz, hat⟩ := oneTI kr66 Rwr66.out RRwr66.out Qwr66.out HAL.out
       have HRwr67 := hide hrun
       have Swr67 := hide hsl
       have Cwr67 := hide hcap
       have glwr67 := hide hgg.2
       have ggwr67 := hide hgg.1
       have kr67 := hbel
       have Awr67 : Hid (Blk wr67 w4.heap.size #[.string ⟨#[]⟩, .slice none 0 0] 53) := (hfr _ Awr66.out.lt nrwr66.out).trans Awr66.out
       have ngwr67 : Hid (gwr67 ≠ w4.heap.size) := fun e => by have h1 := Awr66.out.lt; rcases hat with h2 | h2; exact nrwr66.out (by rw [h2, e]); omega
       clear hrun hsl hbel hgg hcap hfr hsz hat
       refine step_append_eqM rfl _ _ _ _ rfl rfl rfl HRwr67.out ?_
       refine hK.out _ _ (by exact KB.out _ kr67) (fun hHeld => ?_)
       clear hK K
       try simp only [Act.put, sq]
       refine rdq 11 rfl fun K hK => ?_
       have SE : Hid (Sl wr67 (Zq (fun d => (E d ∨ d = w.heap.size + 1) ∨ d = w4.heap.size) N P q) (some ⟨gwr67, 0, none⟩) (ar ++ [vrT 84 (n + 1)])) := seI Swr67.out (fun d hd h => h.elim id (fun h => by have h1 := geAwr59.out; omega)) ⟨Nat.le_trans K4.out.le ggwr67.out, (QN.out _ ggwr67.out).1, (QN.out _ ggwr67.out).2, fun h => h.elim (fun h => by have h1 := hE4.out _ h; have h2 := ggwr67.out; omega) ngwr67.out⟩
       have AQ : Hid (Bq wr67 P q w4.heap.size #[.string ⟨#[]⟩, .slice none 0 0] 53) := ⟨Awr67.out, QN.out _ geAwr59.out⟩
       have CL := CALL.out (fun d => (E d ∨ d = w.heap.size + 1) ∨ d = w4.heap.size) gwr67 capwr67 wr67 kr67 SE.out Cwr67.out (fun d hd => hd.elim (fun h => Nat.lt_of_lt_of_le (hE4.out d h) kr67.size) (fun h => by rw [h]; exact Awr67.out.lt)) (fun d hd h => h.elim id (fun h => by have h1 := geAwr59.out; omega))
       have HCL := hide CL
       clear CL
       go_simp
       go_at_call 26
       refine HCL.out.mono ?_
       rintro e w9 ⟨a9, c9, q9, cs9, rfl, hs9, hk9, hm9, hf9⟩
       have F9 : Hid (AsF w4 w9 P q q9) := (AsF.ofBelow kr67 P q).trans hf9
       have K9 := hide hk9
       have S9 := hide hs9
       have M9 := hide hm9
       have hS9 : (S8 B n V w b' o' c w9) := ⟨(F9.out.bq V4.out).1, (F9.out.bq A4.out).1, UP4.out.trans ((K4.out.below F9.out).mono hBN)⟩
       have A9 := hide (hf9.bq AQ.out)
       clear hs9 hk9 hm9 hf9 HCL SE
       generalize hty : tyT 84 b (ar ++ [vrT 84 (n + 1)]) (n + 1) = r at *
       have HTY := hide hty
       clear hty
       go_simp
       refine hK.out _ _ (by exact hS9) (fun hHeld => ?_)
       clear hK K
       try simp only [Act.put, sq]
       have hS10 := hS9
       obtain ⟨KX, FX, BX, SX⟩ := AsK.store (E := (fun b => E b ∨ b = w.heap.size + 1)) K9.out F9.out A9.out geAwr59.out (.string r.1.name) (.slice a9 r.1.args.length c9) S9.out
       have b0 := A9.out.1.cell 0
       have b1 := A9.out.1.cell 1
       have z0 := A9.out.1.frozen 0
       have z1 := A9.out.1.frozen 1
       simp only [List.getElem?_toArray, List.getElem?_cons_zero, List.getElem?_cons_succ] at b0 b1
       have neV : V ≠ w4.heap.size := fun e => by have h1 := V4.out.1.lt; have h2 := geAwr59.out; omega
       have neA : w.heap.size ≠ w4.heap.size := fun e => by have h1 := A4.out.1.lt; have h2 := geAwr59.out; omega
       have HX : (S8 B n V w b' o' c ((w9.setCell ⟨w4.heap.size, 0, none⟩ (.string r.1.name)).setCell ⟨w4.heap.size, 1, none⟩ (.slice a9 r.1.args.length c9))) := ⟨(hS10.1.setOther 0 _ neV).setOther 1 _ neV, (hS10.2.1.setOther 0 _ neA).setOther 1 _ neA, belSetI (belSetI hS10.2.2 (Nat.le_trans hBw.out geAwr59.out) 0 _) (Nat.le_trans hBw.out geAwr59.out) 1 _⟩
       refine rdq 13 rfl fun K hK => ?_
       go_simp
       refine hK.out _ _ (by exact HX) (fun hHeld => ?_)
       clear hK K
       try simp only [Act.put, sq]
       refine wpAnyH_done (by kernel_rfl) ?_ _
       have FIN := hide (rgO_mk HTY.out ⟨BX, (FX.bq0 A9.out)⟩ SX KX M9.out FX)
       clear b0 b1 z0 z1
       go_wp2_with fail
       go_meet
       exact FIN.out
     ·go_simp
      have kr69 : Below w4.heap.size w4 (wr59.alloc (.cells #[.string (vrN 84 (n + 1)), .slice none 0 0] 53)) := kr59.alloc kr59.size _
      have owr69 : Hid (Below wr59.heap.size wr59 (wr59.alloc (.cells #[.string (vrN 84 (n + 1)), .slice none 0 0] 53))) := ((Below.refl _ _).alloc (Nat.le_refl _) _)
      have Qwr69 : Hid (Blk (wr59.alloc (.cells #[.string (vrN 84 (n + 1)), .slice none 0 0] 53)) wr59.heap.size #[.string (vrN 84 (n + 1)), .slice none 0 0] 53) := Blk.new wr59 _ _
      have Awr69 := hide (Awr59.out.below owr69.out Awr59.out.lt)
      have neAQwr69 : Hid (w4.heap.size ≠ wr59.heap.size) := by have h1 := Awr59.out.lt; unfold Hid; omega
      have geQwr69 : Hid (w4.heap.size ≤ wr59.heap.size) := kr59.size
      refine hK.out _ _ (by exact KB.out _ kr69) (fun hHeld => ?_)
      clear hK K
      try simp only [Act.put, sq]
      generalize (wr59.alloc (.cells #[.string (vrN 84 (n + 1)), .slice none 0 0] 53)) = wr69 at *
      refine rdq 5 rfl fun K hK => ?_
      go_simp
      have kr70 : Below w4.heap.size w4 (wr69.alloc (.cells #[] 53)) := kr69.alloc kr69.size _
      have owr70 : Hid (Below wr69.heap.size wr69 (wr69.alloc (.cells #[] 53))) := ((Below.refl _ _).alloc (Nat.le_refl _) _)
      have Gwr70 : Hid (Blk (wr69.alloc (.cells #[] 53)) wr69.heap.size #[] 53) := Blk.new wr69 _ _
      have Qwr70 := hide (Qwr69.out.below owr70.out Qwr69.out.lt)
      have neQGwr70 : Hid (wr59.heap.size ≠ wr69.heap.size) := by have h1 := Qwr69.out.lt; unfold Hid; omega
      have Awr70 := hide (Awr69.out.below owr70.out Awr69.out.lt)
      have neAGwr70 : Hid (w4.heap.size ≠ wr69.heap.size) := by have h1 := Awr69.out.lt; unfold Hid; omega
      have geGwr70 : Hid (w4.heap.size ≤ wr69.heap.size) := kr69.size
      refine hK.out _ _ (by exact KB.out _ kr70) (fun hHeld => ?_)
      clear hK K
      try simp only [Act.put, sq]
      generalize (wr69.alloc (.cells #[] 53)) = wr70 at *
      refine rdq 7 rfl fun K hK => ?_
      obtain ⟨vwr71, wr71, xswr71, hrun, hown, hrow, hbel, hfr, hsz, hat⟩ := spreadTI (c := ac) kr70 geGwr70.out Gwr70.out S4B.out HAL.out
      have HRwr71 := hide hrun
      have Rwr71 := hide hown
      have RRwr71 := hide hrow
      have kr71 := hbel
      have Qwr71 : Hid (Blk wr71 wr59.heap.size #[.string (vrN 84 (n + 1)), .slice none 0 0] 53) := (hfr _ Qwr70.out.lt (neQGwr70.out)).trans Qwr70.out
      have Awr71 : Hid (Blk wr71 w4.heap.size #[.string ⟨#[]⟩, .slice none 0 0] 53) := (hfr _ Awr70.out.lt (neAGwr70.out)).trans Awr70.out
      have nrwr71 : Hid (some w4.heap.size ≠ (vwr71 : Value).ownBlock) := fun e => by have h1 := Awr70.out.lt; rcases hat _ e.symm with h2 | h2; exact (neAGwr70.out) h2; omega
      clear hrun hown hrow hbel hfr hsz hat
      refine step_append_eqM rfl _ _ _ _ rfl rfl rfl HRwr71.out ?_
      refine hK.out _ _ (by exact KB.out _ kr71) (fun hHeld => ?_)
      clear hK K
      try simp only [Act.put, sq]
      refine rdq 10 rfl fun K hK => ?_
      obtain ⟨gwr72, capwr72, wr72, hrun, hsl, hbel, hgg, hcap, hfr, hsz, hat⟩ := oneTI kr71 Rwr71.out RRwr71.out Qwr71.out HAL.out
      have HRwr72 := hide hrun
      have Swr72 := hide hsl
      have Cwr72 := hide hcap
      have glwr72 := hide hgg.2
      have ggwr72 := hide hgg.1
      have kr72 := hbel
      have Awr72 : Hid (Blk wr72 w4.heap.size #[.string ⟨#[]⟩, .slice none 0 0] 53) := (hfr _ Awr71.out.lt nrwr71.out).trans Awr71.out
      have ngwr72 : Hid (gwr72 ≠ w4.heap.size) := fun e => by have h1 := Awr71.out.lt; rcases hat with h2 | h2; exact nrwr71.out (by rw [h2, e]); omega
      clear hrun hsl hbel hgg hcap hfr hsz hat
      refine step_append_eqM rfl _ _ _ _ rfl rfl rfl HRwr72.out ?_
      refine hK.out _ _ (by exact KB.out _ kr72) (fun hHeld => ?_)
      clear hK K
      try simp only [Act.put, sq]
      refine rdq 11 rfl fun K hK => ?_
      have SE : Hid (Sl wr72 (Zq (fun d => (E d ∨ d = w.heap.size + 1) ∨ d = w4.heap.size) N P q) (some ⟨gwr72, 0, none⟩) (ar ++ [vrT 84 (n + 1)])) := seI Swr72.out (fun d hd h => h.elim id (fun h => by have h1 := geAwr59.out; omega)) ⟨Nat.le_trans K4.out.le ggwr72.out, (QN.out _ ggwr72.out).1, (QN.out _ ggwr72.out).2, fun h => h.elim (fun h => by have h1 := hE4.out _ h; have h2 := ggwr72.out; omega) ngwr72.out⟩
      have AQ : Hid (Bq wr72 P q w4.heap.size #[.string ⟨#[]⟩, .slice none 0 0] 53) := ⟨Awr72.out, QN.out _ geAwr59.out⟩
      have CL := CALL.out (fun d => (E d ∨ d = w.heap.size + 1) ∨ d = w4.heap.size) gwr72 capwr72 wr72 kr72 SE.out Cwr72.out (fun d hd => hd.elim (fun h => Nat.lt_of_lt_of_le (hE4.out d h) kr72.size) (fun h => by rw [h]; exact Awr72.out.lt)) (fun d hd h => h.elim id (fun h => by have h1 := geAwr59.out; omega))
      have HCL := hide CL
      clear CL
      go_simp
      go_at_call 26
      refine HCL.out.mono ?_
      rintro e w9 ⟨a9, c9, q9, cs9, rfl, hs9, hk9, hm9, hf9⟩
      have F9 : Hid (AsF w4 w9 P q q9) := (AsF.ofBelow kr72 P q).trans hf9
      have K9 := hide hk9
      have S9 := hide hs9
      have M9 := hide hm9
      have hS9 : (S8 B n V w b' o' c w9) := ⟨(F9.out.bq V4.out).1, (F9.out.bq A4.out).1, UP4.out.trans ((K4.out.below F9.out).mono hBN)⟩
      have A9 := hide (hf9.bq AQ.out)
      clear hs9 hk9 hm9 hf9 HCL SE
      generalize hty : tyT 84 b (ar ++ [vrT 84 (n + 1)]) (n + 1) = r at *
      have HTY := hide hty
      clear hty
      go_simp
      refine hK.out _ _ (by exact hS9) (fun hHeld => ?_)
      clear hK K
      try simp only [Act.put, sq]
      have hS10 := hS9
      obtain ⟨KX, FX, BX, SX⟩ := AsK.store (E := (fun b => E b ∨ b = w.heap.size + 1)) K9.out F9.out A9.out geAwr59.out (.string r.1.name) (.slice a9 r.1.args.length c9) S9.out
      have b0 := A9.out.1.cell 0
      have b1 := A9.out.1.cell 1
      have z0 := A9.out.1.frozen 0
      have z1 := A9.out.1.frozen 1
      simp only [List.getElem?_toArray, List.getElem?_cons_zero, List.getElem?_cons_succ] at b0 b1
      have neV : V ≠ w4.heap.size := fun e => by have h1 := V4.out.1.lt; have h2 := geAwr59.out; omega
      have neA : w.heap.size ≠ w4.heap.size := fun e => by have h1 := A4.out.1.lt; have h2 := geAwr59.out; omega
      have HX : (S8 B n V w b' o' c ((w9.setCell ⟨w4.heap.size, 0, none⟩ (.string r.1.name)).setCell ⟨w4.heap.size, 1, none⟩ (.slice a9 r.1.args.length c9))) := ⟨(hS10.1.setOther 0 _ neV).setOther 1 _ neV, (hS10.2.1.setOther 0 _ neA).setOther 1 _ neA, belSetI (belSetI hS10.2.2 (Nat.le_trans hBw.out geAwr59.out) 0 _) (Nat.le_trans hBw.out geAwr59.out) 1 _⟩
      refine rdq 13 rfl fun K hK => ?_
      go_simp
      refine hK.out _ _ (by exact HX) (fun hHeld => ?_)
      clear hK K
      try simp only [Act.put, sq]
      refine wpAnyH_done (by kernel_rfl) ?_ _
      have FIN := hide (rgO_mk HTY.out ⟨BX, (FX.bq0 A9.out)⟩ SX KX M9.out FX)
      clear b0 b1 z0 z1
      go_wp2_with fail
      go_meet
      exact FIN.out
   case rest =>
    obtain ⟨A8, a9, c9, q9, cs9, rfl, hA9, hs9, hk9, hm9, hf9⟩ := hcut
    rename World => w9
    have F9 := hide (F4.out.trans hf9)
    have K9 := hide hk9
    have S9 := hide hs9
    have M9 := hide hm9
    have A9 := hide hA9
    have V9 := hide (hf9.bq V4.out)
    have R9 := hide (hf9.bq R4.out)
    have hE9 : Hid (∀ d, (E d ∨ d = w.heap.size + 1) → d < w9.heap.size) := fun d hd => Nat.lt_of_lt_of_le (hE4.out d hd) hf9.1.size
    clear hA9 hs9 hk9 hm9 hf9 KB KS CALL QN S4B V4 R4 A4 F4 K4 UP4 S4
    obtain ⟨r, hr⟩ : ∃ r, r = tyT 84 b (ar ++ [vrT 84 (n + 1)]) (n + 1) := ⟨_, rfl⟩
    rw [← hr] at K9 S9 M9 A9 HF
    clear hr
    have b0 := A9.out.1.c0
    have b1 : w9.cell? ⟨A8, 1, none⟩ = some (.slice a9 r.1.args.length c9) := A9.out.1.cell 1
    have v0 := V9.out.1.c0
    have v1 := V9.out.1.c1
    go_wp2_with fail
    refine (arrowR_any (vrT 84 (n + 1)) r.1 _ _ _ (Zq (fun b => E b ∨ b = w.heap.size + 1) N P q9) ⟨none, 0, rfl, by simp [vrT], Or.inl rfl⟩ ⟨_, _, rfl, S9.out⟩).mono ?_
    rintro e w10 ⟨v10, rfl, ⟨a10, c10, rfl, hs10⟩, hb10⟩
    rw [show (arT (vrT 84 (n + 1)) r.1).name = ⟨#[102]⟩ from rfl, show (arT (vrT 84 (n + 1)) r.1).args.length = 2 from rfl]
    have K10 := hide (K9.out.later hb10)
    have F10 := hide (F9.out.then hb10)
    have R10 := hide (R9.out.later hb10)
    have S10 : Hid (Sl w10 (Zq (fun b => E b ∨ b = w.heap.size + 1) N P q9) a10 (arT (vrT 84 (n + 1)) r.1).args) := hs10.mono fun d hd _ => hd.elim id (zq_alloc K9.out hE9.out d)
    clear hs10 hb10 b0 b1 v0 v1
    have r0 := R10.out.1.c0
    have r1 := R10.out.1.c1
    have f0 : w10.frozen? ⟨w.heap.size + 1, 0, none⟩ = false := R10.out.1.frozen 0
    have f1 : w10.frozen? ⟨w.heap.size + 1, 1, none⟩ = false := R10.out.1.frozen 1
    go_wp2_with fail
    obtain ⟨K11, F11, R11, S11⟩ := K10.out.store F10.out R10.out (by omega) (.string ⟨#[102]⟩) (.slice a10 2 c10) S10.out
    generalize ((w10.setCell ⟨w.heap.size + 1, 0, none⟩ (.string ⟨#[102]⟩)).setCell ⟨w.heap.size + 1, 1, none⟩ (.slice a10 2 c10)) = w11 at *
    have c0 := R11.cell 0
    have c1 := R11.cell 1
    simp only [List.getElem?_toArray, List.getElem?_cons_zero, List.getElem?_cons_succ] at c0 c1
    refine bodyPost_ret (v := .agg #[.string ⟨#[102]⟩, .slice a10 2 c10]) (by simp [results, Tryz.results26, go_sem, c0, c1]) rfl ?_
    refine ⟨a10, c10, q9, cs9, ?_, ?_, ?_, ?_, F11⟩
    ·rw [HF.out]; rfl
    ·rw [HF.out]; exact S11
    ·rw [HF.out]; exact K11
    ·rw [HF.out]; exact M9.out
  ·cases e
   obtain ⟨b', o', a1, c1, a2, c2, rfl, hKP⟩ := slM_two (B := B) hs hX
   have KP := hide hKP
   have hK0 := hK.le
   have hq0 : ∀ b, some b = q.ownBlock → N ≤ b ∧ b < w.heap.size := fun b hb => hK.own.lt b hb.symm
   have IHF := hide (IH.out f (by simp))
   have IHX := hide (IH.out x (by simp))
   clear hKP hs IH
   have e1 : ([f, x] : List Lm).length = 2 := rfl
   rw [e1]
   clear e1
   have K1 := hide (hK.later ((Below.refl _ _).alloc (Nat.le_refl _) (.cells #[.int .i64 3, .int .i64 0, .slice (some ⟨b', o', none⟩) 2 c] 24)))
   have K2 : Hid (AsK (fun b => E b ∨ b = w.heap.size + 1) ((w.alloc (.cells #[.int .i64 3, .int .i64 0, .slice (some ⟨b', o', none⟩) 2 c] 24)).alloc (.cells #[.string ⟨#[]⟩, .slice none 0 0] 53)) N P 50 n q cs) := (hK.excl (E' := fun b => E b ∨ b = w.heap.size + 1) fun b hb h => h.elim id (fun h => by omega)).later (((Below.refl _ _).alloc (Nat.le_refl _) _).alloc (by simp) _)
   have A2 : Hid (Bq ((w.alloc (.cells #[.int .i64 3, .int .i64 0, .slice (some ⟨b', o', none⟩) 2 c] 24)).alloc (.cells #[.string ⟨#[]⟩, .slice none 0 0] 53)) P q w.heap.size #[.int .i64 3, .int .i64 0, .slice (some ⟨b', o', none⟩) 2 c] 24) := (Bq.new hK _ _).later ((Below.refl _ _).alloc (Nat.le_refl _) _)
   have R2 : Hid (Bq ((w.alloc (.cells #[.int .i64 3, .int .i64 0, .slice (some ⟨b', o', none⟩) 2 c] 24)).alloc (.cells #[.string ⟨#[]⟩, .slice none 0 0] 53)) P q (w.heap.size + 1) #[.string ⟨#[]⟩, .slice none 0 0] 53) := by have h := Bq.new K1.out #[.string ⟨#[]⟩, .slice none 0 0] 53; rw [World.size_alloc] at h; exact h
   have B2 : Hid (Below w.heap.size w ((w.alloc (.cells #[.int .i64 3, .int .i64 0, .slice (some ⟨b', o', none⟩) 2 c] 24)).alloc (.cells #[.string ⟨#[]⟩, .slice none 0 0] 53))) := ((Below.refl _ _).alloc (Nat.le_refl _) _).alloc (by simp) _
   have S2 := hide ((sl_excl (E' := fun b => E b ∨ b = w.heap.size + 1) hS fun b hb h => h.elim id (fun h => by omega)).later B2.out)
   have F2 := hide (AsF.ofBelow B2.out P q)
   clear hK hS K1
   have HF := hide (tyT_app 84 0 f x ar n)
   have hzb : sizeM [(⟨3, 0, [f, x]⟩ : Lm)] = 1 + (sizeM [f] + sizeM [x]) := by rw [sizeM_oneI, sizeM_two]
   rw [hzb] at hn hcs har
   clear hzb HN HCS HAR
   have hcb : csL [f] = false ∧ csL [x] = false := by rw [csL_one, csL_cons] at hc; simpa using hc
   have HCB := hide hcb
   have HEF := hide hf
   have HEX := hide hx
   have HOK := hide (fun m => ty_cnt (p := 84) f ar m hf hcb.1)
   have HOX := hide (fun m => ty_cnt (p := 84) x ar m hx hcb.2)
   clear hcb hc he hf hx hX
   have hsf := tyM_pos f
   have hsx := tyM_pos x
   have UP2 : Hid (Below B w _) := B2.out.mono (Nat.le_trans hBN hK0)
   have HE2 : Hid (∀ b, (E b ∨ b = w.heap.size + 1) → b < ((w.alloc (.cells #[.int .i64 3, .int .i64 0, .slice (some ⟨b', o', none⟩) 2 c] 24)).alloc (.cells #[.string ⟨#[]⟩, .slice none 0 0] 53)).heap.size) := fun b hb => by have h1 := R2.out.1.lt; rcases hb with hb | hb; exact Nat.lt_trans (hEw b hb) (by omega); omega
   go_enter Tryz.func26, Tryz.ntmps26
   go_upto_region 1 with fail
   generalize ((w.alloc (.cells #[.int .i64 3, .int .i64 0, .slice (some ⟨b', o', none⟩) 2 c] 24)).alloc (.cells #[.string ⟨#[]⟩, .slice none 0 0] 53)) = w2 at *
   have x0 := A2.out.1.c0
   have x1 := A2.out.1.c1
   have x2 := A2.out.1.c2
   obtain ⟨⟨⟨y0, y1, y2⟩, y3, y4, y5⟩, hmf, hmx⟩ := KP.out w2 UP2.out
   go_wp2_with fail
   refine (IHF.out (fun b => E b ∨ b = w.heap.size + 1) N P n q _ cs ar au ac w2 X HEF.out HCB.out.1 (by omega) (by omega) (by omega) hac hmf HX.out hBN K2.out S2.out HE2.out).mono ?_
   rintro e w3 ⟨a3, c3, q3, cs3, rfl, hs3, hk3, hm3, hf3⟩
   have hcnt := HOK.out n
   have hlen3 := congrArg List.length hm3
   simp only [List.length_map, List.length_append] at hlen3
   obtain ⟨rf, hrf⟩ : ∃ r, r = tyT 84 f ar n := ⟨_, rfl⟩
   rw [← hrf] at hs3 hk3 hm3 hcnt hlen3 HF ⊢
   clear hrf
   have hbd3 : cs3.length ≤ cs.length + sizeM [f] := by omega
   clear hlen3
   have W3 := hide (And.intro hs3 (And.intro hk3 (And.intro hm3 hf3)))
   clear hs3 hk3 hm3 hf3 y0 y1 y2 y3 y4 y5 hmf hmx x0 x1 x2
   have O4 : Hid (Below w3.heap.size w3 (w3.alloc (.cells #[.string rf.1.name, .slice a3 rf.1.args.length c3] 53))) := (Below.refl _ _).alloc (Nat.le_refl _) _
   have V4 : Hid (Bq (w3.alloc (.cells #[.string rf.1.name, .slice a3 rf.1.args.length c3] 53)) P q3 w3.heap.size #[.string rf.1.name, .slice a3 rf.1.args.length c3] 53) := Bq.new W3.out.2.1 _ _
   have SF4 := hide (W3.out.1.later O4.out)
   have K4 := hide (W3.out.2.1.later O4.out)
   have F4 := hide ((F2.out.trans W3.out.2.2.2).then O4.out)
   have A4 := hide ((W3.out.2.2.2.bq A2.out).later O4.out)
   have R4 := hide ((W3.out.2.2.2.bq R2.out).later O4.out)
   have S4 := hide ((W3.out.2.2.2.sl S2.out).later O4.out)
   have M3 := hide W3.out.2.2.1
   have HE4 : Hid (∀ b, (E b ∨ b = w.heap.size + 1) → b < (w3.alloc (.cells #[.string rf.1.name, .slice a3 rf.1.args.length c3] 53)).heap.size) := fun b hb => Nat.lt_of_lt_of_le (HE2.out b hb) (Nat.le_trans W3.out.2.2.2.1.size O4.out.size)
   clear W3 O4 K2 F2 A2 R2 S2 HE2
   go_upto_region 9 with fail
   generalize w3.heap.size = V1 at *
   generalize w3.alloc (.cells #[.string rf.1.name, .slice a3 rf.1.args.length c3] 53) = w4 at *
   skip
   have UP4 : Hid (Below B w w4) := (F4.out.1.below hK0 (fun b hb => by rcases hb with rfl | hb; exact K4.out.ge; exact (hq0 b hb).1)).mono hBN
   obtain ⟨⟨⟨y0, y1, y2⟩, y3, y4, y5⟩, hmf, hmx⟩ := KP.out w4 UP4.out
   have x2 := A4.out.1.c2
   go_wp2_with fail
   refine (IHX.out (fun b => E b ∨ b = w.heap.size + 1) N P rf.2.2 q3 _ cs3 ar au ac w4 X HEX.out HCB.out.2 (by omega) (by omega) (by omega) hac hmx HX.out hBN K4.out S4.out HE4.out).mono ?_
   rintro e w5 ⟨a5, c5, q5, cs5, rfl, hs5, hk5, hm5, hf5⟩
   have hcnx := HOX.out rf.2.2
   have hlen5 := congrArg List.length hm5
   simp only [List.length_map, List.length_append] at hlen5
   obtain ⟨rx, hrx⟩ : ∃ r, r = tyT 84 x ar rf.2.2 := ⟨_, rfl⟩
   rw [← hrx] at hs5 hk5 hm5 hcnx hlen5 HF ⊢
   clear hrx
   have hbd5 : cs5.length ≤ cs3.length + sizeM [x] := by omega
   clear hlen5
   have W5 := hide (And.intro hs5 (And.intro hk5 (And.intro hm5 hf5)))
   clear hs5 hk5 hm5 hf5 y0 y1 y2 y3 y4 y5 hmf hmx x2
   have O6 : Hid (Below w5.heap.size w5 (w5.alloc (.cells #[.string rx.1.name, .slice a5 rx.1.args.length c5] 53))) := (Below.refl _ _).alloc (Nat.le_refl _) _
   have V6 : Hid (Bq (w5.alloc (.cells #[.string rx.1.name, .slice a5 rx.1.args.length c5] 53)) P q5 w5.heap.size #[.string rx.1.name, .slice a5 rx.1.args.length c5] 53) := Bq.new W5.out.2.1 _ _
   have SX6 := hide (W5.out.1.later O6.out)
   have SF6 := hide ((W5.out.2.2.2.sl SF4.out).later O6.out)
   have K6 := hide (W5.out.2.1.later O6.out)
   have F6 := hide ((F4.out.trans W5.out.2.2.2).then O6.out)
   have R6 := hide ((W5.out.2.2.2.bq R4.out).later O6.out)
   have VF6 := hide ((W5.out.2.2.2.bq V4.out).later O6.out)
   have M5 := hide W5.out.2.2.1
   have HE6 : Hid (∀ b, (E b ∨ b = w.heap.size + 1) → b < (w5.alloc (.cells #[.string rx.1.name, .slice a5 rx.1.args.length c5] 53)).heap.size) := fun b hb => Nat.lt_of_lt_of_le (HE4.out b hb) (Nat.le_trans W5.out.2.2.2.1.size O6.out.size)
   clear W5 O6 K4 F4 A4 R4 S4 V4 SF4 HE4 UP4
   go_upto_region 10 with fail
   generalize w5.heap.size = V2 at *
   generalize w5.alloc (.cells #[.string rx.1.name, .slice a5 rx.1.args.length c5] 53) = w6 at *
   have UP6 : Hid (Below B w w6) := (F6.out.1.below hK0 (fun b hb => by rcases hb with rfl | hb; exact K6.out.ge; exact (hq0 b hb).1)).mono hBN
   go_wp2_with fail
   refine (freshR_any K6.out (by omega)).mono ?_
   rintro e w7 ⟨rfl, hk7, hf7⟩
   obtain ⟨m, hm⟩ : ∃ m, m = rx.2.2 + 1 := ⟨_, rfl⟩
   rw [← hm] at hk7 HF ⊢
   have HMM := hide hm
   clear hm
   have W7 := hide (And.intro hk7 hf7)
   clear hk7 hf7
   have O8 : Hid (Below w7.heap.size w7 (w7.alloc (.cells #[.string (vrN 84 m), .slice none 0 0] 53))) := (Below.refl _ _).alloc (Nat.le_refl _) _
   have VV8 : Hid (Bq (w7.alloc (.cells #[.string (vrN 84 m), .slice none 0 0] 53)) P q5 w7.heap.size #[.string (vrN 84 m), .slice none 0 0] 53) := Bq.new W7.out.1 _ _
   have SX8 := hide ((W7.out.2.sl SX6.out).later O8.out)
   have SF8 := hide ((W7.out.2.sl SF6.out).later O8.out)
   have K8 := hide (W7.out.1.later O8.out)
   have F8 := hide ((F6.out.trans W7.out.2).then O8.out)
   have R8 := hide ((W7.out.2.bq R6.out).later O8.out)
   have VF8 := hide ((W7.out.2.bq VF6.out).later O8.out)
   have VX8 := hide ((W7.out.2.bq V6.out).later O8.out)
   have HE8 : Hid (∀ b, (E b ∨ b = w.heap.size + 1) → b < (w7.alloc (.cells #[.string (vrN 84 m), .slice none 0 0] 53)).heap.size) := fun b hb => Nat.lt_of_lt_of_le (HE6.out b hb) (Nat.le_trans W7.out.2.1.size O8.out.size)
   have HVR : Hid (w7.heap.size ≠ w.heap.size + 1) := by have h1 := R6.out.1.lt; have h2 := W7.out.2.1.size; unfold Hid; omega
   clear W7 O8 K6 F6 R6 V6 VF6 SX6 SF6 HE6 UP6
   go_upto_region 11 with fail
   generalize w7.heap.size = V3 at *
   generalize w7.alloc (.cells #[.string (vrN 84 m), .slice none 0 0] 53) = w8 at *
   have KS : Hid (∀ w', (Blk w' V1 #[.string rf.1.name, .slice a3 rf.1.args.length c3] 53 ∧ Blk w' V2 #[.string rx.1.name, .slice a5 rx.1.args.length c5] 53 ∧ Blk w' V3 #[.string (vrN 84 m), .slice none 0 0] 53) → (w'.cell? ⟨V1, 0, none⟩ = some (.string rf.1.name) ∧ w'.cell? ⟨V1, 1, none⟩ = some (.slice a3 rf.1.args.length c3)) ∧ (w'.cell? ⟨V2, 0, none⟩ = some (.string rx.1.name) ∧ w'.cell? ⟨V2, 1, none⟩ = some (.slice a5 rx.1.args.length c5)) ∧ w'.cell? ⟨V3, 0, none⟩ = some (.string (vrN 84 m)) ∧ w'.cell? ⟨V3, 1, none⟩ = some (.slice none 0 0)) := fun w' h => ⟨⟨h.1.cell 0, h.1.cell 1⟩, ⟨h.2.1.cell 0, h.2.1.cell 1⟩, h.2.2.cell 0, h.2.2.cell 1⟩
   have kd : Blk w8.drew V1 #[.string rf.1.name, .slice a3 rf.1.args.length c3] 53 ∧ Blk w8.drew V2 #[.string rx.1.name, .slice a5 rx.1.args.length c5] 53 ∧ Blk w8.drew V3 #[.string (vrN 84 m), .slice none 0 0] 53 := ⟨VF8.out.1, VX8.out.1, VV8.out.1⟩
   refine wp_region_held_drew (S := fun w' => Blk w' V1 #[.string rf.1.name, .slice a3 rf.1.args.length c3] 53 ∧ Blk w' V2 #[.string rx.1.name, .slice a5 rx.1.args.length c5] 53 ∧ Blk w' V3 #[.string (vrN 84 m), .slice none 0 0] 53) (by kernel_rfl) kd (fun hHeld => ?_)
   refine tkq (v := ?_) 0 rfl ?_ ?_
   rotate_left
   ·intro w' hSw
    go_simp <;> with_reducible rfl
   try simp only [Act.put, sq]
   refine tkq (v := ?_) 1 rfl ?_ ?_
   rotate_left
   ·intro w' hSw
    go_simp <;> with_reducible rfl
   try simp only [Act.put, sq]
   refine tkq (v := ?_) 2 rfl ?_ ?_
   rotate_left
   ·intro w' hSw
    go_simp <;> with_reducible rfl
   try simp only [Act.put, sq]
   refine tkq (v := ?_) 3 rfl ?_ ?_
   rotate_left
   ·intro w' hSw
    go_simp <;> with_reducible rfl
   try simp only [Act.put, sq]
   refine tkq (v := ?_) 5 rfl ?_ ?_
   rotate_left
   ·intro w' hSw
    obtain ⟨⟨y0, y1⟩, ⟨y2, y3⟩, y4, y5⟩ := KS.out w' hSw
    go_simp <;> with_reducible rfl
   try simp only [Act.put, sq]
   refine tkq (v := ?_) 6 rfl ?_ ?_
   rotate_left
   ·intro w' hSw
    obtain ⟨⟨y0, y1⟩, ⟨y2, y3⟩, y4, y5⟩ := KS.out w' hSw
    go_simp <;> with_reducible rfl
   try simp only [Act.put, sq]
   refine tkq (v := ?_) 7 rfl ?_ ?_
   rotate_left
   ·intro w' hSw
    obtain ⟨⟨y0, y1⟩, ⟨y2, y3⟩, y4, y5⟩ := KS.out w' hSw
    go_simp <;> with_reducible rfl
   try simp only [Act.put, sq]
   refine wpAnyH_ready (rs := [4, 8]) (by kernel_rfl) (by simp) ?_
   refine AllReadyH.cons rfl (fun K hK => ?_) (AllReadyH.cons rfl (fun K hK => ?_) AllReadyH.nil)
   ·have p0 : w8.cell? ⟨P, 0, none⟩ = some q5 := K8.out.box.cell 0
    go_simp
    refine hK.out _ _ (by exact kd) (fun hHeld => ?_)
    clear hK K
    try simp only [Act.put, sq]
    clear p0
    refine rdq 8 rfl fun K hK => ?_
    go_simp
    go_at_call 40
    refine (arrowR_any rx.1 (vrT 84 m) _ _ _ (Zq (fun b => E b ∨ b = w.heap.size + 1) N P q5) ⟨_, _, rfl, SX8.out.later (Below.refl _ _).drew⟩ ⟨none, 0, rfl, by simp [vrT], Or.inl rfl⟩).mono ?_
    rintro e w9 ⟨v9, rfl, ⟨a9, c9, rfl, hs9⟩, hb9⟩
    rw [show (arT rx.1 (vrT 84 m)).name = ⟨#[102]⟩ from rfl, show (arT rx.1 (vrT 84 m)).args.length = 2 from rfl]
    have hb9 : Below w8.heap.size w8 w9 := (Below.refl w8.heap.size w8).drew.trans hb9
    have K9 := hide (K8.out.later hb9)
    have F9 := hide (F8.out.then hb9)
    have SF9 := hide (SF8.out.later hb9)
    have R9 := hide (R8.out.later hb9)
    have VF9 := hide (VF8.out.later hb9)
    have VX9 := hide (VX8.out.later hb9)
    have VV9 := hide (VV8.out.later hb9)
    have SA9 : Hid (Sl w9 (Zq (fun b => E b ∨ b = w.heap.size + 1) N P q5) a9 (arT rx.1 (vrT 84 m)).args) := hs9.mono fun b hb _ => hb.elim id (zq_alloc K8.out HE8.out b)
    have k9 : Blk w9 V1 #[.string rf.1.name, .slice a3 rf.1.args.length c3] 53 ∧ Blk w9 V2 #[.string rx.1.name, .slice a5 rx.1.args.length c5] 53 ∧ Blk w9 V3 #[.string (vrN 84 m), .slice none 0 0] 53 := ⟨VF9.out.1, VX9.out.1, VV9.out.1⟩
    clear hs9 hb9
    go_simp
    refine hK.out _ _ (by exact k9) (fun hHeld => ?_)
    clear hK K
    try simp only [Act.put, sq]
    refine tkq (v := ?_) 9 rfl ?_ ?_
    rotate_left
    ·intro w' hSw
     go_simp <;> with_reducible rfl
    try simp only [Act.put, sq]
    refine rdq 10 rfl fun K hK => ?_
    go_simp
    have kA : Blk (w9.alloc (.cells #[.string rf.1.name, .slice a3 rf.1.args.length c3, .string ⟨#[102]⟩, .slice a9 2 c9] 76)) V1 #[.string rf.1.name, .slice a3 rf.1.args.length c3] 53 ∧ Blk (w9.alloc (.cells #[.string rf.1.name, .slice a3 rf.1.args.length c3, .string ⟨#[102]⟩, .slice a9 2 c9] 76)) V2 #[.string rx.1.name, .slice a5 rx.1.args.length c5] 53 ∧ Blk (w9.alloc (.cells #[.string rf.1.name, .slice a3 rf.1.args.length c3, .string ⟨#[102]⟩, .slice a9 2 c9] 76)) V3 #[.string (vrN 84 m), .slice none 0 0] 53 := ⟨k9.1.alloc _, k9.2.1.alloc _, k9.2.2.alloc _⟩
    refine hK.out _ _ (by exact kA) (fun hHeld => ?_)
    clear hK K
    try simp only [Act.put, sq]
    obtain ⟨g, cap, wB, hap, hst, hexB, hboxB⟩ := app_pairK (⟨⟨rf.1, arT rx.1 (vrT 84 m)⟩, (a3, c3), (a9, c9)⟩ : Pc) K9.out (by omega) ⟨SF9.out, SA9.out⟩
    have HAP := hide hap
    have kB : Blk wB V1 #[.string rf.1.name, .slice a3 rf.1.args.length c3] 53 ∧ Blk wB V2 #[.string rx.1.name, .slice a5 rx.1.args.length c5] 53 ∧ Blk wB V3 #[.string (vrN 84 m), .slice none 0 0] 53 := ⟨VF9.out.1.exq hexB (fun e => e.elim VF9.out.2.1 VF9.out.2.2), VX9.out.1.exq hexB (fun e => e.elim VX9.out.2.1 VX9.out.2.2), VV9.out.1.exq hexB (fun e => e.elim VV9.out.2.1 VV9.out.2.2)⟩
    clear hap
    refine rdq 11 rfl fun K hK => ?_
    refine step_append_eqM rfl _ _ _ _ rfl rfl rfl HAP.out ?_
    refine hK.out _ _ (by exact kB) (fun hHeld => ?_)
    clear hK K
    try simp only [Act.put, sq]
    have p0 : wB.cell? ⟨P, 0, none⟩ = some q5 := hboxB.cell 0
    have pf : wB.frozen? ⟨P, 0, none⟩ = false := hboxB.frozen 0
    obtain ⟨KC, FC⟩ := hst _ rfl
    have kC : Blk (wB.setCell ⟨P, 0, none⟩ (.slice (some ⟨g, 0, none⟩) (cs5.length + 1) cap)) V1 #[.string rf.1.name, .slice a3 rf.1.args.length c3] 53 ∧ Blk (wB.setCell ⟨P, 0, none⟩ (.slice (some ⟨g, 0, none⟩) (cs5.length + 1) cap)) V2 #[.string rx.1.name, .slice a5 rx.1.args.length c5] 53 ∧ Blk (wB.setCell ⟨P, 0, none⟩ (.slice (some ⟨g, 0, none⟩) (cs5.length + 1) cap)) V3 #[.string (vrN 84 m), .slice none 0 0] 53 := ⟨kB.1.setOther 0 _ VF9.out.2.1, kB.2.1.setOther 0 _ VX9.out.2.1, kB.2.2.setOther 0 _ VV9.out.2.1⟩
    refine tkq (v := ?_) 12 rfl ?_ ?_
    rotate_left
    ·intro w' hSw
     go_simp <;> with_reducible rfl
    try simp only [Act.put, sq]
    refine tkq (v := ?_) 13 rfl ?_ ?_
    rotate_left
    ·intro w' hSw
     go_simp <;> with_reducible rfl
    try simp only [Act.put, sq]
    refine rdq 14 rfl fun K hK => ?_
    go_simp
    refine hK.out _ _ (by exact kC) (fun hHeld => ?_)
    clear hK K
    try simp only [Act.put, sq]
    refine wpAnyH_done (by kernel_rfl) ?_ _
    have R10 := hide (FC.bq R9.out)
    have F10 := hide (F9.out.trans FC)
    have K10 := hide KC
    clear KC FC hst hexB hboxB p0 pf
    generalize (wB.setCell ⟨P, 0, none⟩ (.slice (some ⟨g, 0, none⟩) (cs5.length + 1) cap)) = w10 at *
    generalize (Value.slice (some ⟨g, 0, none⟩) (cs5.length + 1) cap) = q10 at *
    have v0 := kC.2.2.cell 0
    have v1 := kC.2.2.cell 1
    simp only [List.getElem?_toArray, List.getElem?_cons_zero, List.getElem?_cons_succ] at v0 v1
    have r0 := R10.out.1.c0
    have r1 := R10.out.1.c1
    have f0 : w10.frozen? ⟨w.heap.size + 1, 0, none⟩ = false := R10.out.1.frozen 0
    have f1 : w10.frozen? ⟨w.heap.size + 1, 1, none⟩ = false := R10.out.1.frozen 1
    go_wp2_with fail
    obtain ⟨K11, F11, R11, S11⟩ := K10.out.store F10.out R10.out (by omega) (.string (vrN 84 m)) (.slice none 0 0) (a := none) (l := []) ⟨by simp, Or.inl rfl⟩
    generalize ((w10.setCell ⟨w.heap.size + 1, 0, none⟩ (.string (vrN 84 m))).setCell ⟨w.heap.size + 1, 1, none⟩ (.slice none 0 0)) = w11 at *
    have c0 := R11.cell 0
    have c1 := R11.cell 1
    simp only [List.getElem?_toArray, List.getElem?_cons_zero, List.getElem?_cons_succ] at c0 c1
    refine bodyPost_ret (v := .agg #[.string (vrN 84 m), .slice none 0 0]) (by simp [results, Tryz.results26, go_sem, c0, c1]) rfl ?_
    refine ⟨none, 0, q10, cs5 ++ [⟨⟨rf.1, arT rx.1 (vrT 84 m)⟩, (a3, c3), (a9, c9)⟩], ?_, ?_, ?_, ?_, F11⟩
    ·rw [HF.out]; rfl
    ·rw [HF.out]; exact S11
    ·rw [HF.out]; exact K11
    ·rw [HF.out, List.map_append, M5.out, M3.out]; simp
   ·go_simp
    go_at_call 40
    refine (arrowR_any rx.1 (vrT 84 m) _ _ _ (Zq (fun b => E b ∨ b = w.heap.size + 1) N P q5) ⟨_, _, rfl, SX8.out.later (Below.refl _ _).drew⟩ ⟨none, 0, rfl, by simp [vrT], Or.inl rfl⟩).mono ?_
    rintro e w9 ⟨v9, rfl, ⟨a9, c9, rfl, hs9⟩, hb9⟩
    rw [show (arT rx.1 (vrT 84 m)).name = ⟨#[102]⟩ from rfl, show (arT rx.1 (vrT 84 m)).args.length = 2 from rfl]
    have hb9 : Below w8.heap.size w8 w9 := (Below.refl w8.heap.size w8).drew.trans hb9
    have K9 := hide (K8.out.later hb9)
    have F9 := hide (F8.out.then hb9)
    have SF9 := hide (SF8.out.later hb9)
    have R9 := hide (R8.out.later hb9)
    have VF9 := hide (VF8.out.later hb9)
    have VX9 := hide (VX8.out.later hb9)
    have VV9 := hide (VV8.out.later hb9)
    have SA9 : Hid (Sl w9 (Zq (fun b => E b ∨ b = w.heap.size + 1) N P q5) a9 (arT rx.1 (vrT 84 m)).args) := hs9.mono fun b hb _ => hb.elim id (zq_alloc K8.out HE8.out b)
    have k9 : Blk w9 V1 #[.string rf.1.name, .slice a3 rf.1.args.length c3] 53 ∧ Blk w9 V2 #[.string rx.1.name, .slice a5 rx.1.args.length c5] 53 ∧ Blk w9 V3 #[.string (vrN 84 m), .slice none 0 0] 53 := ⟨VF9.out.1, VX9.out.1, VV9.out.1⟩
    clear hs9 hb9
    go_simp
    refine hK.out _ _ (by exact k9) (fun hHeld => ?_)
    clear hK K
    try simp only [Act.put, sq]
    refine tkq (v := ?_) 9 rfl ?_ ?_
    rotate_left
    ·intro w' hSw
     go_simp <;> with_reducible rfl
    try simp only [Act.put, sq]
    refine wpAnyH_ready (rs := [4, 10]) (by kernel_rfl) (by simp) ?_
    refine AllReadyH.cons rfl (fun K hK => ?_) (AllReadyH.cons rfl (fun K hK => ?_) AllReadyH.nil)
    ·have p0 : w9.cell? ⟨P, 0, none⟩ = some q5 := K9.out.box.cell 0
     go_simp
     refine hK.out _ _ (by exact k9) (fun hHeld => ?_)
     clear hK K
     try simp only [Act.put, sq]
     clear p0
     refine rdq 10 rfl fun K hK => ?_
     go_simp
     have kA : Blk (w9.alloc (.cells #[.string rf.1.name, .slice a3 rf.1.args.length c3, .string ⟨#[102]⟩, .slice a9 2 c9] 76)) V1 #[.string rf.1.name, .slice a3 rf.1.args.length c3] 53 ∧ Blk (w9.alloc (.cells #[.string rf.1.name, .slice a3 rf.1.args.length c3, .string ⟨#[102]⟩, .slice a9 2 c9] 76)) V2 #[.string rx.1.name, .slice a5 rx.1.args.length c5] 53 ∧ Blk (w9.alloc (.cells #[.string rf.1.name, .slice a3 rf.1.args.length c3, .string ⟨#[102]⟩, .slice a9 2 c9] 76)) V3 #[.string (vrN 84 m), .slice none 0 0] 53 := ⟨k9.1.alloc _, k9.2.1.alloc _, k9.2.2.alloc _⟩
     refine hK.out _ _ (by exact kA) (fun hHeld => ?_)
     clear hK K
     try simp only [Act.put, sq]
     obtain ⟨g, cap, wB, hap, hst, hexB, hboxB⟩ := app_pairK (⟨⟨rf.1, arT rx.1 (vrT 84 m)⟩, (a3, c3), (a9, c9)⟩ : Pc) K9.out (by omega) ⟨SF9.out, SA9.out⟩
     have HAP := hide hap
     have kB : Blk wB V1 #[.string rf.1.name, .slice a3 rf.1.args.length c3] 53 ∧ Blk wB V2 #[.string rx.1.name, .slice a5 rx.1.args.length c5] 53 ∧ Blk wB V3 #[.string (vrN 84 m), .slice none 0 0] 53 := ⟨VF9.out.1.exq hexB (fun e => e.elim VF9.out.2.1 VF9.out.2.2), VX9.out.1.exq hexB (fun e => e.elim VX9.out.2.1 VX9.out.2.2), VV9.out.1.exq hexB (fun e => e.elim VV9.out.2.1 VV9.out.2.2)⟩
     clear hap
     refine rdq 11 rfl fun K hK => ?_
     refine step_append_eqM rfl _ _ _ _ rfl rfl rfl HAP.out ?_
     refine hK.out _ _ (by exact kB) (fun hHeld => ?_)
     clear hK K
     try simp only [Act.put, sq]
     have p0 : wB.cell? ⟨P, 0, none⟩ = some q5 := hboxB.cell 0
     have pf : wB.frozen? ⟨P, 0, none⟩ = false := hboxB.frozen 0
     obtain ⟨KC, FC⟩ := hst _ rfl
     have kC : Blk (wB.setCell ⟨P, 0, none⟩ (.slice (some ⟨g, 0, none⟩) (cs5.length + 1) cap)) V1 #[.string rf.1.name, .slice a3 rf.1.args.length c3] 53 ∧ Blk (wB.setCell ⟨P, 0, none⟩ (.slice (some ⟨g, 0, none⟩) (cs5.length + 1) cap)) V2 #[.string rx.1.name, .slice a5 rx.1.args.length c5] 53 ∧ Blk (wB.setCell ⟨P, 0, none⟩ (.slice (some ⟨g, 0, none⟩) (cs5.length + 1) cap)) V3 #[.string (vrN 84 m), .slice none 0 0] 53 := ⟨kB.1.setOther 0 _ VF9.out.2.1, kB.2.1.setOther 0 _ VX9.out.2.1, kB.2.2.setOther 0 _ VV9.out.2.1⟩
     refine tkq (v := ?_) 12 rfl ?_ ?_
     rotate_left
     ·intro w' hSw
      go_simp <;> with_reducible rfl
     try simp only [Act.put, sq]
     refine tkq (v := ?_) 13 rfl ?_ ?_
     rotate_left
     ·intro w' hSw
      go_simp <;> with_reducible rfl
     try simp only [Act.put, sq]
     refine rdq 14 rfl fun K hK => ?_
     go_simp
     refine hK.out _ _ (by exact kC) (fun hHeld => ?_)
     clear hK K
     try simp only [Act.put, sq]
     refine wpAnyH_done (by kernel_rfl) ?_ _
     have R10 := hide (FC.bq R9.out)
     have F10 := hide (F9.out.trans FC)
     have K10 := hide KC
     clear KC FC hst hexB hboxB p0 pf
     generalize (wB.setCell ⟨P, 0, none⟩ (.slice (some ⟨g, 0, none⟩) (cs5.length + 1) cap)) = w10 at *
     generalize (Value.slice (some ⟨g, 0, none⟩) (cs5.length + 1) cap) = q10 at *
     have v0 := kC.2.2.cell 0
     have v1 := kC.2.2.cell 1
     simp only [List.getElem?_toArray, List.getElem?_cons_zero, List.getElem?_cons_succ] at v0 v1
     have r0 := R10.out.1.c0
     have r1 := R10.out.1.c1
     have f0 : w10.frozen? ⟨w.heap.size + 1, 0, none⟩ = false := R10.out.1.frozen 0
     have f1 : w10.frozen? ⟨w.heap.size + 1, 1, none⟩ = false := R10.out.1.frozen 1
     go_wp2_with fail
     obtain ⟨K11, F11, R11, S11⟩ := K10.out.store F10.out R10.out (by omega) (.string (vrN 84 m)) (.slice none 0 0) (a := none) (l := []) ⟨by simp, Or.inl rfl⟩
     generalize ((w10.setCell ⟨w.heap.size + 1, 0, none⟩ (.string (vrN 84 m))).setCell ⟨w.heap.size + 1, 1, none⟩ (.slice none 0 0)) = w11 at *
     have c0 := R11.cell 0
     have c1 := R11.cell 1
     simp only [List.getElem?_toArray, List.getElem?_cons_zero, List.getElem?_cons_succ] at c0 c1
     refine bodyPost_ret (v := .agg #[.string (vrN 84 m), .slice none 0 0]) (by simp [results, Tryz.results26, go_sem, c0, c1]) rfl ?_
     refine ⟨none, 0, q10, cs5 ++ [⟨⟨rf.1, arT rx.1 (vrT 84 m)⟩, (a3, c3), (a9, c9)⟩], ?_, ?_, ?_, ?_, F11⟩
     ·rw [HF.out]; rfl
     ·rw [HF.out]; exact S11
     ·rw [HF.out]; exact K11
     ·rw [HF.out, List.map_append, M5.out, M3.out]; simp
    ·go_simp
     have kA : Blk (w9.alloc (.cells #[.string rf.1.name, .slice a3 rf.1.args.length c3, .string ⟨#[102]⟩, .slice a9 2 c9] 76)) V1 #[.string rf.1.name, .slice a3 rf.1.args.length c3] 53 ∧ Blk (w9.alloc (.cells #[.string rf.1.name, .slice a3 rf.1.args.length c3, .string ⟨#[102]⟩, .slice a9 2 c9] 76)) V2 #[.string rx.1.name, .slice a5 rx.1.args.length c5] 53 ∧ Blk (w9.alloc (.cells #[.string rf.1.name, .slice a3 rf.1.args.length c3, .string ⟨#[102]⟩, .slice a9 2 c9] 76)) V3 #[.string (vrN 84 m), .slice none 0 0] 53 := ⟨k9.1.alloc _, k9.2.1.alloc _, k9.2.2.alloc _⟩
     refine hK.out _ _ (by exact kA) (fun hHeld => ?_)
     clear hK K
     try simp only [Act.put, sq]
     refine rdq 4 rfl fun K hK => ?_
     have p0 : (w9.alloc (.cells #[.string rf.1.name, .slice a3 rf.1.args.length c3, .string ⟨#[102]⟩, .slice a9 2 c9] 76)).cell? ⟨P, 0, none⟩ = some q5 := (K9.out.later ((Below.refl _ _).alloc (Nat.le_refl _) (.cells #[.string rf.1.name, .slice a3 rf.1.args.length c3, .string ⟨#[102]⟩, .slice a9 2 c9] 76))).box.cell 0
     go_simp
     refine hK.out _ _ (by exact kA) (fun hHeld => ?_)
     clear hK K
     try simp only [Act.put, sq]
     clear p0
     obtain ⟨g, cap, wB, hap, hst, hexB, hboxB⟩ := app_pairK (⟨⟨rf.1, arT rx.1 (vrT 84 m)⟩, (a3, c3), (a9, c9)⟩ : Pc) K9.out (by omega) ⟨SF9.out, SA9.out⟩
     have HAP := hide hap
     have kB : Blk wB V1 #[.string rf.1.name, .slice a3 rf.1.args.length c3] 53 ∧ Blk wB V2 #[.string rx.1.name, .slice a5 rx.1.args.length c5] 53 ∧ Blk wB V3 #[.string (vrN 84 m), .slice none 0 0] 53 := ⟨VF9.out.1.exq hexB (fun e => e.elim VF9.out.2.1 VF9.out.2.2), VX9.out.1.exq hexB (fun e => e.elim VX9.out.2.1 VX9.out.2.2), VV9.out.1.exq hexB (fun e => e.elim VV9.out.2.1 VV9.out.2.2)⟩
     clear hap
     refine rdq 11 rfl fun K hK => ?_
     refine step_append_eqM rfl _ _ _ _ rfl rfl rfl HAP.out ?_
     refine hK.out _ _ (by exact kB) (fun hHeld => ?_)
     clear hK K
     try simp only [Act.put, sq]
     have p0 : wB.cell? ⟨P, 0, none⟩ = some q5 := hboxB.cell 0
     have pf : wB.frozen? ⟨P, 0, none⟩ = false := hboxB.frozen 0
     obtain ⟨KC, FC⟩ := hst _ rfl
     have kC : Blk (wB.setCell ⟨P, 0, none⟩ (.slice (some ⟨g, 0, none⟩) (cs5.length + 1) cap)) V1 #[.string rf.1.name, .slice a3 rf.1.args.length c3] 53 ∧ Blk (wB.setCell ⟨P, 0, none⟩ (.slice (some ⟨g, 0, none⟩) (cs5.length + 1) cap)) V2 #[.string rx.1.name, .slice a5 rx.1.args.length c5] 53 ∧ Blk (wB.setCell ⟨P, 0, none⟩ (.slice (some ⟨g, 0, none⟩) (cs5.length + 1) cap)) V3 #[.string (vrN 84 m), .slice none 0 0] 53 := ⟨kB.1.setOther 0 _ VF9.out.2.1, kB.2.1.setOther 0 _ VX9.out.2.1, kB.2.2.setOther 0 _ VV9.out.2.1⟩
     refine tkq (v := ?_) 12 rfl ?_ ?_
     rotate_left
     ·intro w' hSw
      go_simp <;> with_reducible rfl
     try simp only [Act.put, sq]
     refine tkq (v := ?_) 13 rfl ?_ ?_
     rotate_left
     ·intro w' hSw
      go_simp <;> with_reducible rfl
     try simp only [Act.put, sq]
     refine rdq 14 rfl fun K hK => ?_
     go_simp
     refine hK.out _ _ (by exact kC) (fun hHeld => ?_)
     clear hK K
     try simp only [Act.put, sq]
     refine wpAnyH_done (by kernel_rfl) ?_ _
     have R10 := hide (FC.bq R9.out)
     have F10 := hide (F9.out.trans FC)
     have K10 := hide KC
     clear KC FC hst hexB hboxB p0 pf
     generalize (wB.setCell ⟨P, 0, none⟩ (.slice (some ⟨g, 0, none⟩) (cs5.length + 1) cap)) = w10 at *
     generalize (Value.slice (some ⟨g, 0, none⟩) (cs5.length + 1) cap) = q10 at *
     have v0 := kC.2.2.cell 0
     have v1 := kC.2.2.cell 1
     simp only [List.getElem?_toArray, List.getElem?_cons_zero, List.getElem?_cons_succ] at v0 v1
     have r0 := R10.out.1.c0
     have r1 := R10.out.1.c1
     have f0 : w10.frozen? ⟨w.heap.size + 1, 0, none⟩ = false := R10.out.1.frozen 0
     have f1 : w10.frozen? ⟨w.heap.size + 1, 1, none⟩ = false := R10.out.1.frozen 1
     go_wp2_with fail
     obtain ⟨K11, F11, R11, S11⟩ := K10.out.store F10.out R10.out (by omega) (.string (vrN 84 m)) (.slice none 0 0) (a := none) (l := []) ⟨by simp, Or.inl rfl⟩
     generalize ((w10.setCell ⟨w.heap.size + 1, 0, none⟩ (.string (vrN 84 m))).setCell ⟨w.heap.size + 1, 1, none⟩ (.slice none 0 0)) = w11 at *
     have c0 := R11.cell 0
     have c1 := R11.cell 1
     simp only [List.getElem?_toArray, List.getElem?_cons_zero, List.getElem?_cons_succ] at c0 c1
     refine bodyPost_ret (v := .agg #[.string (vrN 84 m), .slice none 0 0]) (by simp [results, Tryz.results26, go_sem, c0, c1]) rfl ?_
     refine ⟨none, 0, q10, cs5 ++ [⟨⟨rf.1, arT rx.1 (vrT 84 m)⟩, (a3, c3), (a9, c9)⟩], ?_, ?_, ?_, ?_, F11⟩
     ·rw [HF.out]; rfl
     ·rw [HF.out]; exact S11
     ·rw [HF.out]; exact K11
     ·rw [HF.out, List.map_append, M5.out, M3.out]; simp
  ·cases e
   rw [csL_one] at hc
   simp at hc
theorem ixB_at {s : ByteArray} : ∀ {l : List ByteArray} (h : ixB s l < l.length), l[ixB s l] = s
 | [], h => by simp [ixB] at h
 | n :: r, h => by
  by_cases e : n = s
  ·subst e
   simp [ixB]
  ·have e2 : ixB s (n :: r) = ixB s r + 1 := by simp [ixB, e]
   have h2 : ixB s r < r.length := by rw [e2] at h; simpa using h
   simp only [e2, List.getElem_cons_succ]
   exact ixB_at h2
theorem ixB_ne {s : ByteArray} : ∀ {l : List ByteArray} {k : Nat} (hk : k < ixB s l) (h : k < l.length), l[k] ≠ s
 | [], _, hk, _ => by simp [ixB] at hk
 | n :: r, k, hk, h => by
  by_cases e : n = s
  ·simp [ixB, e] at hk
  ·have e2 : ixB s (n :: r) = ixB s r + 1 := by simp [ixB, e]
   cases k with
   | zero => simpa using e
   | succ k =>
    simp only [List.getElem_cons_succ]
    exact ixB_ne (by omega) (by simpa using h)
theorem str_neI {a b : ByteArray} (h : a ≠ b) : (a.toList == b.toList) = false := by
 rw [beq_eq_false_iff_ne]
 intro e
 apply h
 have h1 := congrArg List.toArray e
 rw [ByteArray.toList_eq, ByteArray.toList_eq] at h1
 cases a; cases b
 simpa using h1
theorem pre_arI {p q k : Tm} (h : k ∈ preL [p] ∨ k ∈ preL [q]) : k ∈ preL [(⟨⟨#[102]⟩, [p, q]⟩ : Tm)] := by
 have h1 : preL [p, q] = preL [p] ++ preL [q] := by
  have := preL_append [p] [q]
  simpa using this
 simp only [preL] at *
 rw [h1]
 simp
 exact Or.inr h
def AyP (t : Tm) (ns : List ByteArray) (w : World) (e : Ending) (w' : World) : Prop :=
 ∃ a c, e = .returned (.agg #[.int .i64 (ayT ns t).base, .slice a (ayT ns t).subs.length c]) ∧ SlY w' (fun b => w.heap.size ≤ b) a (ayT ns t).subs ∧ Below w.heap.size w w'
set_option maxHeartbeats 8000000 in
theorem asType_any {ns : List ByteArray} (hnl : ns.length ≤ 100000) (t : Tm) : ∀ (v nv : Value) (w : World) (X Y : Nat → Prop), KnL [t] → (∀ k ∈ preL [t], k.args = [] → k.name ∈ ns) → TV w X v t → LV Value.string w Y nv ns →
  Calls Tryz.prog 29 #[v, nv] w fun e w' => AyP t ns w e w' := by
 induction t using Tm.ind with
 | h s0 l0 ih =>
  intro v nv w X Y hk hin hv hn
  have IH := hide ih
  clear ih
  obtain ⟨a, c, rfl, hs⟩ := hv
  have HNV := hide hn
  obtain ⟨na, nc, rfl, -, hn2⟩ := hn
  have B2 : Hid (Below w.heap.size w ((w.alloc (.cells #[.string s0, .slice a l0.length c] 53)).alloc (.cells #[.int .i64 0, .slice none 0 0] 27))) := ((Below.refl _ _).alloc (Nat.le_refl _) _).alloc (by simp) _
  have A2 : Hid (Blk ((w.alloc (.cells #[.string s0, .slice a l0.length c] 53)).alloc (.cells #[.int .i64 0, .slice none 0 0] 27)) w.heap.size #[.string s0, .slice a l0.length c] 53) := (Blk.new _ _ _).alloc _
  have R2 : Hid (Blk ((w.alloc (.cells #[.string s0, .slice a l0.length c] 53)).alloc (.cells #[.int .i64 0, .slice none 0 0] 27)) (w.heap.size + 1) #[.int .i64 0, .slice none 0 0] 27) := by have h := Blk.new (w.alloc (.cells #[.string s0, .slice a l0.length c] 53)) #[.int .i64 0, .slice none 0 0] 27; rw [World.size_alloc] at h; exact h
  rcases kn_look hk with ⟨hvb, ht⟩ | ⟨p, q, ht, hkp, hkq⟩
  ·have hl0 : l0 = [] := by injection ht
   subst hl0
   have hmem : s0 ∈ ns := hin ⟨s0, []⟩ (by simp [preL]) rfl
   have hix := ixB_lt hmem
   rcases hn2 with rfl | ⟨nb, no, rfl, hnY, hcells⟩
   ·simp at hmem
   have KN : Hid (∀ w', Below w.heap.size w w' → ∀ i (h : i < ns.length), w'.cell? ⟨nb, no + i, none⟩ = some (.string ns[i])) := fun w' hb i h => cell_later hb (hcells i h)
   clear hk hvb ht hs IH hin hcells hmem
   simp only [List.length_nil] at *
   go_enter Tryz.func29, Tryz.ntmps29
   go_upto_region 1 with fail
   generalize ((w.alloc (.cells #[.string s0, .slice a 0 c] 53)).alloc (.cells #[.int .i64 0, .slice none 0 0] 27)) = w2 at *
   have x1 := A2.out.c1
   have x0 := A2.out.c0
   have hnl1 := hnl
   go_wp2_with fail
   go_loopw [5] (fun o wr => ∃ k : Nat, k ≤ ixB s0 ns ∧ o = .int .i64 (k : Int) ∧ Below w2.heap.size w2 wr) (fun o wr => ns.length - (intOf o).toNat)
   case atStart => exact ⟨0, Nat.zero_le _, rfl, Below.refl _ _⟩
   case round =>
    obtain ⟨k, hk, rfl, hbr⟩ := hrel
    have HBR := hide hbr
    have hkl : k < ns.length := by omega
    have y0 := KN.out wr (B2.out.trans (hbr.mono B2.out.size)) k hkl
    have hkl2 : (k : Int) < (ns.length : Int) := by omega
    have A3 := hide (A2.out.below hbr A2.out.lt)
    have R3 := hide (R2.out.below hbr R2.out.lt)
    have x0 := A3.out.c0
    clear hbr
    by_cases he : k = ixB s0 ns
    ·have hns : ns[k] = s0 := by subst he; exact ixB_at hkl
     rw [hns] at y0
     have HK := hide he
     have r0 := R3.out.c0
     have r1 := R3.out.c1
     have f0 : wr.frozen? ⟨w.heap.size + 1, 0, none⟩ = false := R3.out.frozen 0
     have f1 : wr.frozen? ⟨w.heap.size + 1, 1, none⟩ = false := R3.out.frozen 1
     clear he hns hk
     go_wp2_with fail
     go_quiet (fail)
     have R4 : Hid (Blk (wr.drewN nq) (w.heap.size + 1) #[.int .i64 0, .slice none 0 0] 27) := R3.out.drewN nq
     have B4 : Hid (Below w2.heap.size w2 (wr.drewN nq)) := below_drewN HBR.out nq
     generalize wr.drewN nq = w4 at *
     have r0 := R4.out.c0
     have r1 := R4.out.c1
     have f0 : w4.frozen? ⟨w.heap.size + 1, 0, none⟩ = false := R4.out.frozen 0
     have f1 : w4.frozen? ⟨w.heap.size + 1, 1, none⟩ = false := R4.out.frozen 1
     go_wp2_with fail
     have R5 : Hid (Blk ((w4.setCell ⟨w.heap.size + 1, 0, none⟩ (.int .i64 (k : Int))).setCell ⟨w.heap.size + 1, 1, none⟩ (.slice none 0 0)) (w.heap.size + 1) #[.int .i64 (k : Int), .slice none 0 0] 27) := (R4.out.set 0 _).set 1 _
     have B5 : Hid (Below w.heap.size w ((w4.setCell ⟨w.heap.size + 1, 0, none⟩ (.int .i64 (k : Int))).setCell ⟨w.heap.size + 1, 1, none⟩ (.slice none 0 0))) := belSetI (belSetI (B2.out.trans (B4.out.mono B2.out.size)) (by omega) 0 _) (by omega) 1 _
     generalize ((w4.setCell ⟨w.heap.size + 1, 0, none⟩ (.int .i64 (k : Int))).setCell ⟨w.heap.size + 1, 1, none⟩ (.slice none 0 0)) = w5 at *
     have c0 := R5.out.cell 0
     have c1 := R5.out.cell 1
     simp only [List.getElem?_toArray, List.getElem?_cons_zero, List.getElem?_cons_succ] at c0 c1
     refine bodyPost_ret (v := .agg #[.int .i64 (k : Int), .slice none 0 0]) (by simp [results, Tryz.results29, go_sem, c0, c1]) rfl ?_
     refine ⟨none, 0, ?_, ?_, B5.out⟩
     ·rw [ayT_leaf, HK.out]; rfl
     ·rw [ayT_leaf]; exact ⟨by simp, Or.inl rfl⟩
    ·have hk3 : k < ixB s0 ns := by omega
     have hne := str_neI (ixB_ne hk3 hkl)
     clear he
     go_wp2_with fail
     go_quiet (fail)
     go_wp2_with fail
     go_roundw
     case rel => exact ⟨k + 1, by omega, by go_num, below_drewN HBR.out nq⟩
     case measure => simp [intOf]; omega
  ·injection ht with e1 e2
   subst e1
   subst e2
   obtain ⟨b', o', a1, c1, a2, c2, rfl, hKP⟩ := slT_two hs
   have KP : Hid (∀ w', Below w.heap.size w w' → _) := fun w' hb => hKP w' (fun _ => False) (ExQ.ofBelow hb) (fun _ _ h => h)
   clear hKP hs hk hn2
   have hip : ∀ k ∈ preL [p], k.args = [] → k.name ∈ ns := fun k hk => hin k (pre_arI (Or.inl hk))
   have hiq : ∀ k ∈ preL [q], k.args = [] → k.name ∈ ns := fun k hk => hin k (pre_arI (Or.inr hk))
   have IP := hide (fun v w' h1 h2 => IH.out p (by simp) v (.slice na ns.length nc) w' X Y hkp hip h1 h2)
   have IQ := hide (fun v w' h1 h2 => IH.out q (by simp) v (.slice na ns.length nc) w' X Y hkq hiq h1 h2)
   clear IH hip hiq hin
   have e2 : ([p, q] : List Tm).length = 2 := rfl
   rw [e2] at *
   clear e2
   have HAY := hide (ayT_ar ns p q)
   change Calls Tryz.prog _ _ _ (fun e w' => AyP (arT p q) ns w e w')
   go_enter Tryz.func29, Tryz.ntmps29
   go_upto_region 1 with fail
   generalize ((w.alloc (.cells #[.string ⟨#[102]⟩, .slice (some ⟨b', o', none⟩) 2 c] 53)).alloc (.cells #[.int .i64 0, .slice none 0 0] 27)) = w2 at *
   have x1 := A2.out.c1
   go_wp2_with fail
   clear x1
   have gR : Hid (w.heap.size + 1 < w2.heap.size) := R2.out.lt
   have KS : Hid (∀ w', (Blk w' w.heap.size #[.string ⟨#[102]⟩, .slice (some ⟨b', o', none⟩) 2 c] 53 ∧ Below w.heap.size w w') → w'.cell? ⟨w.heap.size, 1, none⟩ = some (.slice (some ⟨b', o', none⟩) 2 c) ∧ w'.cell? ⟨b', o', none⟩ = some (.string p.name) ∧ w'.cell? ⟨b', o' + 1, none⟩ = some (.slice a1 p.args.length c1) ∧ w'.cell? ⟨b', o' + 2, none⟩ = some (.string q.name) ∧ w'.cell? ⟨b', o' + 2 + 1, none⟩ = some (.slice a2 q.args.length c2)) := fun w' h => ⟨h.1.cell 1, (KP.out w' h.2).1⟩
   have kd : Blk w2.drew w.heap.size #[.string ⟨#[102]⟩, .slice (some ⟨b', o', none⟩) 2 c] 53 ∧ Below w.heap.size w w2.drew := ⟨A2.out, B2.out.drew⟩
   refine wp_region_held_drew (S := fun w' => Blk w' w.heap.size #[.string ⟨#[102]⟩, .slice (some ⟨b', o', none⟩) 2 c] 53 ∧ Below w.heap.size w w') (by kernel_rfl) kd (fun hHeld => ?_)
   refine tkq (v := ?_) 0 rfl ?_ ?_
   rotate_left
   ·intro w' hSw
    go_simp <;> with_reducible rfl
   try simp only [Act.put, sq]
   refine tkq (v := ?_) 1 rfl ?_ ?_
   rotate_left
   ·intro w' hSw
    obtain ⟨y0, y1, y2, y3, y4⟩ := KS.out w' hSw
    go_simp <;> with_reducible rfl
   try simp only [Act.put, sq]
   refine tkq (v := ?_) 2 rfl ?_ ?_
   rotate_left
   ·intro w' hSw
    go_simp <;> with_reducible rfl
   try simp only [Act.put, sq]
   refine tkq (v := ?_) 3 rfl ?_ ?_
   rotate_left
   ·intro w' hSw
    obtain ⟨y0, y1, y2, y3, y4⟩ := KS.out w' hSw
    go_simp <;> with_reducible rfl
   try simp only [Act.put, sq]
   refine tkq (v := ?_) 4 rfl ?_ ?_
   rotate_left
   ·intro w' hSw
    go_simp <;> with_reducible rfl
   try simp only [Act.put, sq]
   refine tkq (v := ?_) 6 rfl ?_ ?_
   rotate_left
   ·intro w' hSw
    go_simp <;> with_reducible rfl
   try simp only [Act.put, sq]
   refine tkq (v := ?_) 7 rfl ?_ ?_
   rotate_left
   ·intro w' hSw
    obtain ⟨y0, y1, y2, y3, y4⟩ := KS.out w' hSw
    go_simp <;> with_reducible rfl
   try simp only [Act.put, sq]
   refine tkq (v := ?_) 8 rfl ?_ ?_
   rotate_left
   ·intro w' hSw
    go_simp <;> with_reducible rfl
   try simp only [Act.put, sq]
   refine tkq (v := ?_) 9 rfl ?_ ?_
   rotate_left
   ·intro w' hSw
    obtain ⟨y0, y1, y2, y3, y4⟩ := KS.out w' hSw
    go_simp <;> with_reducible rfl
   try simp only [Act.put, sq]
   refine tkq (v := ?_) 10 rfl ?_ ?_
   rotate_left
   ·intro w' hSw
    go_simp <;> with_reducible rfl
   try simp only [Act.put, sq]
   refine rdq 5 rfl fun K hK => ?_
   go_simp
   go_at_call 29
   refine (IP.out _ w2.drew (KP.out w2.drew kd.2).2.1 (HNV.out.later kd.2)).mono ?_
   rintro e w4 ⟨a4, c4, rfl, hs4, hb4⟩
   obtain ⟨TP, hTP⟩ : ∃ TP, TP = ayT ns p := ⟨_, rfl⟩
   rw [← hTP] at hs4 HAY ⊢
   clear hTP
   have O4 : Hid (Below w2.heap.size w2 w4) := ((Below.refl w2.heap.size w2).drew).trans hb4
   have S4 : Hid (SlY w4 (fun b => w2.heap.size ≤ b) a4 TP.subs) := hs4.mono fun b hb _ => hb
   have k4 : Blk w4 w.heap.size #[.string ⟨#[102]⟩, .slice (some ⟨b', o', none⟩) 2 c] 53 ∧ Below w.heap.size w w4 := ⟨A2.out.below O4.out A2.out.lt, B2.out.trans (O4.out.mono B2.out.size)⟩
   clear hs4 hb4
   go_simp
   refine hK.out _ _ (by exact k4) (fun hHeld => ?_)
   clear hK K
   try simp only [Act.put, sq]
   refine rdq 11 rfl fun K hK => ?_
   go_simp
   go_at_call 29
   refine (IQ.out _ w4 (KP.out w4 k4.2).2.2 (HNV.out.later k4.2)).mono ?_
   rintro e w6 ⟨a6, c6, rfl, hs6, hb6⟩
   obtain ⟨TQ, hTQ⟩ : ∃ TQ, TQ = ayT ns q := ⟨_, rfl⟩
   rw [← hTQ] at hs6 HAY ⊢
   clear hTQ
   have O6 : Hid (Below w2.heap.size w2 w6) := O4.out.trans (hb6.mono O4.out.size)
   have SP6 := hide (S4.out.later hb6)
   have SQ6 : Hid (SlY w6 (fun b => w2.heap.size ≤ b) a6 TQ.subs) := hs6.mono fun b hb _ => Nat.le_trans O4.out.size hb
   have k6 : Blk w6 w.heap.size #[.string ⟨#[102]⟩, .slice (some ⟨b', o', none⟩) 2 c] 53 ∧ Below w.heap.size w w6 := ⟨A2.out.below O6.out A2.out.lt, B2.out.trans (O6.out.mono B2.out.size)⟩
   clear hs6 hb6 S4
   go_simp
   refine hK.out _ _ (by exact k6) (fun hHeld => ?_)
   clear hK K
   try simp only [Act.put, sq]
   have O7 : Hid (Below w6.heap.size w6 (w6.alloc (.cells #[.int .i64 TP.base, .slice a4 TP.subs.length c4, .int .i64 TQ.base, .slice a6 TQ.subs.length c6] 27))) := (Below.refl _ _).alloc (Nat.le_refl _) _
   have k7 : Blk (w6.alloc (.cells #[.int .i64 TP.base, .slice a4 TP.subs.length c4, .int .i64 TQ.base, .slice a6 TQ.subs.length c6] 27)) w.heap.size #[.string ⟨#[102]⟩, .slice (some ⟨b', o', none⟩) 2 c] 53 ∧ Below w.heap.size w (w6.alloc (.cells #[.int .i64 TP.base, .slice a4 TP.subs.length c4, .int .i64 TQ.base, .slice a6 TQ.subs.length c6] 27)) := ⟨k6.1.alloc _, k6.2.trans (O7.out.mono k6.2.size)⟩
   have C7 : Hid (Blk (w6.alloc (.cells #[.int .i64 TP.base, .slice a4 TP.subs.length c4, .int .i64 TQ.base, .slice a6 TQ.subs.length c6] 27)) w6.heap.size #[.int .i64 TP.base, .slice a4 TP.subs.length c4, .int .i64 TQ.base, .slice a6 TQ.subs.length c6] 27) := Blk.new _ _ _
   refine rdq 12 rfl fun K hK => ?_
   go_simp
   refine hK.out _ _ (by exact k7) (fun hHeld => ?_)
   clear hK K
   try simp only [Act.put, sq]
   refine tkq (v := ?_) 13 rfl ?_ ?_
   rotate_left
   ·intro w' hSw
    go_simp <;> with_reducible rfl
   try simp only [Act.put, sq]
   have R7 := hide (R2.out.below (O6.out.trans (O7.out.mono O6.out.size)) R2.out.lt)
   have SP7 := hide (SP6.out.later O7.out)
   have SQ7 := hide (SQ6.out.later O7.out)
   have g67 : Hid (w2.heap.size ≤ w6.heap.size) := O6.out.size
   generalize w6.alloc (.cells #[.int .i64 TP.base, .slice a4 TP.subs.length c4, .int .i64 TQ.base, .slice a6 TQ.subs.length c6] 27) = w7 at *
   generalize w6.heap.size = G at *
   have r0 := R7.out.c0
   have r1 := R7.out.c1
   have f0 : w7.frozen? ⟨w.heap.size + 1, 0, none⟩ = false := R7.out.frozen 0
   have f1 : w7.frozen? ⟨w.heap.size + 1, 1, none⟩ = false := R7.out.frozen 1
   have k8 : Blk ((w7.setCell ⟨w.heap.size + 1, 0, none⟩ (.int .i64 0)).setCell ⟨w.heap.size + 1, 1, none⟩ (.slice (some ⟨G, 0, none⟩) 2 2)) w.heap.size #[.string ⟨#[102]⟩, .slice (some ⟨b', o', none⟩) 2 c] 53 ∧ Below w.heap.size w ((w7.setCell ⟨w.heap.size + 1, 0, none⟩ (.int .i64 0)).setCell ⟨w.heap.size + 1, 1, none⟩ (.slice (some ⟨G, 0, none⟩) 2 2)) := ⟨(k7.1.setOther 0 _ (by omega)).setOther 1 _ (by omega), belSetI (belSetI k7.2 (by omega) 0 _) (by omega) 1 _⟩
   refine rdq 14 rfl fun K hK => ?_
   go_simp
   refine hK.out _ _ (by exact k8) (fun hHeld => ?_)
   clear hK K
   try simp only [Act.put, sq]
   refine wpAnyH_done (by kernel_rfl) ?_ _
   have R8 : Hid (Blk ((w7.setCell ⟨w.heap.size + 1, 0, none⟩ (.int .i64 0)).setCell ⟨w.heap.size + 1, 1, none⟩ (.slice (some ⟨G, 0, none⟩) 2 2)) (w.heap.size + 1) #[.int .i64 0, .slice (some ⟨G, 0, none⟩) 2 2] 27) := (R7.out.set 0 _).set 1 _
   have SE : Hid (∀ (x : Option Addr) (l : List Ty), SlY w7 (fun b => w2.heap.size ≤ b) x l → SlY ((w7.setCell ⟨w.heap.size + 1, 0, none⟩ (.int .i64 0)).setCell ⟨w.heap.size + 1, 1, none⟩ (.slice (some ⟨G, 0, none⟩) 2 2)) (fun b => w2.heap.size ≤ b) x l) := fun x l h => h.kept fun b hb => by have h1 := gR.out; rw [Below.heap_setCell _ _ _ _ (by simp; omega), Below.heap_setCell _ _ _ _ (by simp; omega)]
   have S8 : Hid (SlY ((w7.setCell ⟨w.heap.size + 1, 0, none⟩ (.int .i64 0)).setCell ⟨w.heap.size + 1, 1, none⟩ (.slice (some ⟨G, 0, none⟩) 2 2)) (fun b => w.heap.size ≤ b) (some ⟨G, 0, none⟩) [TP, TQ]) := liesY_two ((C7.out.setOther 0 _ (by have h1 := gR.out; have h2 := g67.out; omega)).setOther 1 _ (by have h1 := gR.out; have h2 := g67.out; omega)) (by have h1 := gR.out; have h2 := g67.out; omega) ((SE.out _ _ SP7.out).mono fun b hb _ => by have h1 := gR.out; omega) ((SE.out _ _ SQ7.out).mono fun b hb _ => by have h1 := gR.out; omega)
   generalize ((w7.setCell ⟨w.heap.size + 1, 0, none⟩ (.int .i64 0)).setCell ⟨w.heap.size + 1, 1, none⟩ (.slice (some ⟨G, 0, none⟩) 2 2)) = w8 at *
   clear r0 r1 f0 f1
   go_wp2_with fail
   have c0 := R8.out.cell 0
   have c1 := R8.out.cell 1
   simp only [List.getElem?_toArray, List.getElem?_cons_zero, List.getElem?_cons_succ] at c0 c1
   refine bodyPost_ret (v := .agg #[.int .i64 0, .slice (some ⟨G, 0, none⟩) 2 2]) (by simp [results, Tryz.results29, go_sem, c0, c1]) rfl ?_
   refine ⟨some ⟨G, 0, none⟩, 2, ?_, ?_, k8.2⟩
   ·rw [HAY.out]; rfl
   ·rw [HAY.out]; exact S8.out
def flatP : List Pr → List Tm
 | [] => []
 | p :: l => p.l :: p.r :: flatP l
theorem flatP_append : ∀ a b : List Pr, flatP (a ++ b) = flatP a ++ flatP b
 | [], b => rfl
 | p :: a, b => by rw [List.cons_append, flatP, flatP, flatP_append a b]; rfl
theorem size_cons (t : Tm) (r : List Tm) : sizeL (t :: r) = sizeL [t] + sizeL r := by
 obtain ⟨s, l⟩ := t
 simp [sizeL]
theorem err_two {t : Tm} {r : List Tm} : errL (t :: r) = 0 ↔ errL [t] = 0 ∧ errL r = 0 := by
 rw [errL_cons]
 constructor
 ·intro h
  by_cases e : errL [t] = 0
  ·rw [if_pos e] at h; exact ⟨e, h⟩
  ·rw [if_neg e] at h; exact absurd h e
 ·rintro ⟨h1, h2⟩
  rw [if_pos h1]; exact h2
theorem err_append : ∀ {a b : List Tm}, errL (a ++ b) = 0 ↔ errL a = 0 ∧ errL b = 0
 | [], b => by simp [errL]
 | t :: a, b => by
  rw [List.cons_append, err_two, err_append, err_two (r := a), and_assoc]
theorem zip_occ {y : ByteArray} : ∀ {a b : List Tm}, occL y (flatP (zipP a b)) → occL y a ∨ occL y b
 | [], _, h => by simp only [zipP, flatP] at h; exact absurd h occL_nil
 | _ :: _, [], h => by simp only [zipP, flatP] at h; exact absurd h occL_nil
 | t :: a, u :: b, h => by
  rw [zipP, flatP, occL_cons, occL_cons (t := u)] at h
  rw [occL_cons, occL_cons (t := u)]
  rcases h with h | h | h
  ·exact Or.inl (Or.inl h)
  ·exact Or.inr (Or.inl h)
  ·rcases zip_occ h with h | h
   ·exact Or.inl (Or.inr h)
   ·exact Or.inr (Or.inr h)
theorem zip_size : ∀ {a b : List Tm}, sizeL (flatP (zipP a b)) ≤ sizeL a + sizeL b
 | [], _ => by simp [zipP, flatP, sizeL]
 | _ :: _, [] => by simp [zipP, flatP, sizeL]
 | t :: a, u :: b => by
  rw [zipP, flatP]
  have h0 := zip_size (a := a) (b := b)
  have h1 := size_cons t (u :: flatP (zipP a b))
  have h2 := size_cons u (flatP (zipP a b))
  have h3 := size_cons t a
  have h4 := size_cons u b
  simp only at h1 h2 ⊢
  omega
theorem zip_err : ∀ {a b : List Tm}, errL a = 0 → errL b = 0 → errL (flatP (zipP a b)) = 0
 | [], _, _, _ => by simp [zipP, flatP, errL]
 | _ :: _, [], _, _ => by simp [zipP, flatP, errL]
 | t :: a, u :: b, h1, h2 => by
  rw [zipP, flatP]
  obtain ⟨g1, g2⟩ := err_two.1 h1
  obtain ⟨g3, g4⟩ := err_two.1 h2
  exact err_two.2 ⟨g1, err_two.2 ⟨g3, zip_err g2 g4⟩⟩
def occB (y : ByteArray) (l : List Tm) : Bool := (preL l).any fun k => k.name.toList == y.toList
theorem occB_iff {y : ByteArray} {l : List Tm} : occB y l = true ↔ occL y l := by
 unfold occB occL
 rw [List.any_eq_true]
 constructor
 ·rintro ⟨k, hk, e⟩
  exact ⟨k, hk, bytes_inj (by simpa using e)⟩
 ·rintro ⟨k, hk, e⟩
  exact ⟨k, hk, bytes_yes e⟩
def cntV (V : List ByteArray) (l : List Tm) : Nat := (V.filter fun y => occB y l).length
theorem filter_le {α : Type} {p q : α → Bool} : ∀ V : List α, (∀ y ∈ V, q y = true → p y = true) → (V.filter q).length ≤ (V.filter p).length
 | [], _ => by simp
 | v :: V, h => by
  have ih := filter_le V fun y hy => h y (by simp [hy])
  cases hq : q v with
  | true =>
   rw [List.filter_cons_of_pos hq, List.filter_cons_of_pos (h v (by simp) hq)]
   simp only [List.length_cons]
   omega
  | false =>
   rw [List.filter_cons_of_neg (by rw [hq]; simp)]
   cases hp : p v with
   | true => rw [List.filter_cons_of_pos hp]; simp only [List.length_cons]; omega
   | false => rw [List.filter_cons_of_neg (by rw [hp]; simp)]; exact ih
theorem filter_lt {α : Type} {p q : α → Bool} : ∀ V : List α, (∀ y ∈ V, q y = true → p y = true) → (∃ x ∈ V, p x = true ∧ q x = false) → (V.filter q).length < (V.filter p).length
 | [], _, ⟨x, hx, _⟩ => by cases hx
 | v :: V, h, ⟨x, hx, h1, h2⟩ => by
  have hle := filter_le V fun y hy => h y (by simp [hy])
  rcases List.mem_cons.1 hx with rfl | hx
  ·rw [List.filter_cons_of_neg (by rw [h2]; simp), List.filter_cons_of_pos h1]
   simp only [List.length_cons]
   omega
  ·have ih := filter_lt V (fun y hy => h y (by simp [hy])) ⟨x, hx, h1, h2⟩
   cases hq : q v with
   | true =>
    rw [List.filter_cons_of_pos hq, List.filter_cons_of_pos (h v (by simp) hq)]
    simp only [List.length_cons]
    omega
   | false =>
    rw [List.filter_cons_of_neg (by rw [hq]; simp)]
    cases hp : p v with
    | true => rw [List.filter_cons_of_pos hp]; simp only [List.length_cons]; omega
    | false => rw [List.filter_cons_of_neg (by rw [hp]; simp)]; exact ih
theorem not_inB {x : ByteArray} {t : Tm} (hx : varB x = true) (h : ¬ inB x (varsP [] (preL [t])) = true) : ¬ occL x [t] := by
 rintro ⟨k, hk, e⟩
 have h1 := (varsP_has (preL [t]) []).2 k hk (by rw [e]; exact hx)
 refine h ?_
 unfold inB
 rw [List.any_eq_true]
 exact ⟨k.name, h1, bytes_yes e⟩
theorem bind_facts {s : List Bd} {L : List Tm} {x : ByteArray} {t : Tm} (h : OkS s) (hx : varB x = true) (hn : ∀ d ∈ s, d.nm ≠ x) (he : errL [t] = 0) (ht : ∀ e ∈ s, ¬ occL e.nm [t]) (ho : ¬ occL x [t]) (hL : errL L = 0) :
  OkS (addS s x t) ∧ (∀ y, varB y = true → occL y (onL (addS s x t) L) → occL y (onL s L) ∨ occL y [t]) ∧ ¬ occL x (onL (addS s x t) L) := by
 have h1 := h.add hx hn he ht ho
 have h2 := add_on h hx hn h1 L hL
 have key : ∀ y, varB y = true → occL y (onL (addS s x t) L) → (occL y (onL s L) ∧ forT [⟨x, t⟩] y = none) ∨ occL y [t] := fun y hy hoc => by
  rw [h2] at hoc
  rcases occ_on (one_vars hx) hy _ (errL_on2 h L hL) hoc with h3 | ⟨d, hd, _, h4⟩
  ·exact Or.inl h3
  ·have e : d = ⟨x, t⟩ := by simpa using hd
   rw [e] at h4
   exact Or.inr h4
 refine ⟨h1, fun y hy hoc => (key y hy hoc).imp (fun h => h.1) id, fun hoc => ?_⟩
 rcases key x hx hoc with ⟨_, h3⟩ | h3
 ·simp [forT] at h3
 ·exact ho h3
theorem u_ends (V : List ByteArray) : ∀ (c z : Nat) (s : List Bd) (l : List Pr), OkS s → errL (flatP l) = 0 → (∀ y, varB y = true → occL y (onL s (flatP l)) → y ∈ V) → cntV (V.filter varB) (onL s (flatP l)) ≤ c → sizeL (onL s (flatP l)) ≤ z → ∃ n r, uRun false n s l = some r := by
 intro c
 induction c using Nat.strongRecOn with
 | _ c ihc =>
  intro z
  induction z using Nat.strongRecOn with
  | _ z ihz =>
   intro s l hs he hV hc hz
   have stop : ∀ e s', uNext false s l = .stop e s' → ∃ n r, uRun false n s l = some r := fun e s' h => ⟨1, (e, s'), by rw [uRun, h]⟩
   have go : ∀ s' l', uNext false s l = .go s' l' → (∃ n r, uRun false n s' l' = some r) → ∃ n r, uRun false n s l = some r := fun s' l' h ⟨n, r, h2⟩ => ⟨n + 1, r, by rw [uRun, h]; exact h2⟩
   cases l with
   | nil => exact stop 0 s rfl
   | cons p l =>
    obtain ⟨e1, e2⟩ := err_two.1 he
    obtain ⟨e2, e3⟩ := err_two.1 e2
    have ea := errL_onT2 hs e1
    have eb := errL_onT2 hs e2
    have ga := hs.goneT e1
    have gb := hs.goneT e2
    rw [flatP, onL_cons, onL_cons] at hV hc hz
    rw [uNext_cons] at stop go
    generalize onT s p.l = a at *
    generalize onT s p.r = b at *
    have hself : ∀ u : Tm, occL u.name [u] := fun u => by obtain ⟨n, k⟩ := u; exact occL_node.2 (Or.inl rfl)
    have inA : ∀ y, occL y [a] → occL y (a :: b :: onL s (flatP l)) := fun y h => occL_cons.2 (Or.inl h)
    have inBb : ∀ y, occL y [b] → occL y (a :: b :: onL s (flatP l)) := fun y h => occL_cons.2 (Or.inr (occL_cons.2 (Or.inl h)))
    have inL : ∀ y, occL y (onL s (flatP l)) → occL y (a :: b :: onL s (flatP l)) := fun y h => occL_cons.2 (Or.inr (occL_cons.2 (Or.inr h)))
    have hsz : sizeL (a :: b :: onL s (flatP l)) = sizeL [a] + (sizeL [b] + sizeL (onL s (flatP l))) := by rw [size_cons, size_cons b]
    have pa := sizeL_pos a
    have pb := sizeL_pos b
    have same : ∀ l2, errL (flatP l2) = 0 → (∀ y, occL y (onL s (flatP l2)) → occL y (a :: b :: onL s (flatP l))) → sizeL (onL s (flatP l2)) < sizeL (a :: b :: onL s (flatP l)) → ∃ n r, uRun false n s l2 = some r := fun l2 h1 h2 h3 =>
     ihz _ (Nat.lt_of_lt_of_le h3 hz) s l2 hs h1 (fun y hy ho => hV y hy (h2 y ho)) (Nat.le_trans (filter_le _ fun y hy hq => occB_iff.2 (h2 y (occB_iff.1 hq))) hc) (Nat.le_refl _)
    have bind : ∀ x t, varB x = true → (∀ d ∈ s, d.nm ≠ x) → errL [t] = 0 → (∀ e ∈ s, ¬ occL e.nm [t]) → occL x (a :: b :: onL s (flatP l)) → (∀ y, occL y [t] → occL y (a :: b :: onL s (flatP l))) → uPair false s l a b = uBind false s l x t → ∃ n r, uRun false n s (p :: l) = some r := fun x t hx hn het ht hox hot h => by
     unfold uBind at h
     by_cases hin : inB x (varsP [] (preL [t])) = true
     ·rw [if_pos hin] at h
      exact stop 6 s h
     ·rw [if_neg hin, if_neg (by simp)] at h
      have ho := not_inB hx hin
      obtain ⟨f1, f2, f3⟩ := bind_facts (L := flatP l) hs hx hn het ht ho e3
      have f2' : ∀ y, varB y = true → occL y (onL (addS s x t) (flatP l)) → occL y (a :: b :: onL s (flatP l)) := fun y hy hoc => (f2 y hy hoc).elim (inL y) (hot y)
      have hlt : cntV (V.filter varB) (onL (addS s x t) (flatP l)) < c := by
       refine Nat.lt_of_lt_of_le (filter_lt _ (fun y hy hq => occB_iff.2 (f2' y (List.mem_filter.1 hy).2 (occB_iff.1 hq))) ⟨x, List.mem_filter.2 ⟨hV x hx hox, hx⟩, occB_iff.2 hox, ?_⟩) hc
       cases hq : occB x (onL (addS s x t) (flatP l)) with
       | false => rfl
       | true => exact absurd (occB_iff.1 hq) f3
      exact go _ l h (ihc _ hlt _ _ _ f1 e3 (fun y hy hoc => hV y hy (f2' y hy hoc)) (Nat.le_refl _) (Nat.le_refl _))
    by_cases h1 : 2000 < sizeL [a] ∨ 2000 < sizeL [b]
    ·exact stop 8 s (by unfold uPair; rw [if_pos h1])
    ·by_cases h2 : varB a.name = true
     ·by_cases h3 : a.name = b.name
      ·exact go s l (by unfold uPair; rw [if_neg h1, if_pos h2, if_pos h3]) (same l e3 inL (by omega))
      ·exact bind a.name b h2 (fun d hd e => ga d hd (by rw [e]; exact hself a)) eb gb (inA _ (hself a)) inBb (by unfold uPair; rw [if_neg h1, if_pos h2, if_neg h3])
     ·by_cases h3 : varB b.name = true
      ·exact bind b.name a h3 (fun d hd e => gb d hd (by rw [e]; exact hself b)) ea ga (inBb _ (hself b)) inA (by unfold uPair; rw [if_neg h1, if_neg h2, if_pos h3])
      ·by_cases h4 : a.name = b.name ∧ a.args.length = b.args.length
       ·refine go s (zipP a.args b.args ++ l) (by unfold uPair; rw [if_neg h1, if_neg h2, if_neg h3, if_pos h4]) ?_
        have sub : ∀ (u : Tm) y, occL y u.args → occL y [u] := fun u y h => by obtain ⟨n, k⟩ := u; exact occL_node.2 (Or.inr (Or.inl h))
        have erg : ∀ u : Tm, errL [u] = 0 → errL u.args = 0 := fun u h => by obtain ⟨n, k⟩ := u; exact (errL_parts h).2.1
        have szg : ∀ u : Tm, sizeL [u] = 1 + sizeL u.args := fun u => by obtain ⟨n, k⟩ := u; simp [sizeL]
        have hfl : onL s (flatP (zipP a.args b.args ++ l)) = flatP (zipP a.args b.args) ++ onL s (flatP l) := by
         rw [flatP_append, onL_append, onL_id]
         intro e hm hoc
         rcases zip_occ hoc with hoc | hoc
         ·exact ga e hm (sub a _ hoc)
         ·exact gb e hm (sub b _ hoc)
        refine same _ ?_ ?_ ?_
        ·rw [flatP_append]
         exact err_append.2 ⟨zip_err (erg a ea) (erg b eb), e3⟩
        ·intro y hoc
         rw [hfl] at hoc
         rcases occL_append.1 hoc with hoc | hoc
         ·rcases zip_occ hoc with hoc | hoc
          ·exact inA y (sub a y hoc)
          ·exact inBb y (sub b y hoc)
         ·exact inL y hoc
        ·rw [hfl, sizeL_append, hsz, szg a, szg b]
         have := zip_size (a := a.args) (b := b.args)
         omega
       ·exact stop 5 s (by unfold uPair; rw [if_neg h1, if_neg h2, if_neg h3, if_neg h4])
theorem u_ends0 (l : List Pr) (h : errL (flatP l) = 0) : ∃ n r, uRun false n [] l = some r := by
 refine u_ends ((preL (onL [] (flatP l))).map (·.name)) _ _ [] l okS_nil h (fun y _ hoc => ?_) (Nat.le_refl _) (Nat.le_refl _)
 obtain ⟨k, hk, e⟩ := hoc
 exact List.mem_map.2 ⟨k, hk, e⟩
def sAt (h : List (ByteArray × Tm)) : List Bd := h.foldl (fun s p => addS s p.1 p.2) []
theorem sAt_snoc (h : List (ByteArray × Tm)) (p : ByteArray × Tm) : sAt (h ++ [p]) = addS (sAt h) p.1 p.2 := by simp [sAt]
theorem sAt_take {h : List (ByteArray × Tm)} {j : Nat} (hj : j < h.length) : sAt (h.take (j + 1)) = addS (sAt (h.take j)) h[j].1 h[j].2 := by
 rw [List.take_succ_eq_append_getElem hj, sAt_snoc]
def MayAdd (s : List Bd) (x : ByteArray) (t : Tm) : Prop := varB x = true ∧ (∀ d ∈ s, d.nm ≠ x) ∧ errL [t] = 0 ∧ (∀ e ∈ s, ¬ occL e.nm [t]) ∧ ¬ occL x [t]
def GoodH (h : List (ByteArray × Tm)) : Prop := ∀ j (hj : j < h.length), MayAdd (sAt (h.take j)) h[j].1 h[j].2
theorem goodH_nil : GoodH [] := fun j hj => by simp at hj
theorem GoodH.snoc {h : List (ByteArray × Tm)} (g : GoodH h) {x : ByteArray} {t : Tm} (m : MayAdd (sAt h) x t) : GoodH (h ++ [(x, t)]) := by
 intro j hj
 by_cases e : j < h.length
 ·have h1 := g j e
  rw [List.take_append_of_le_length (by omega)]
  rw [List.getElem_append_left e]
  exact h1
 ·have e2 : j = h.length := by simp at hj; omega
  subst e2
  rw [List.take_append_of_le_length (by omega), List.take_length]
  simpa using m
theorem GoodH.ok {h : List (ByteArray × Tm)} (g : GoodH h) : ∀ j, j ≤ h.length → OkS (sAt (h.take j))
 | 0, _ => by simpa [sAt] using okS_nil
 | j + 1, hj => by
  rw [sAt_take (by omega)]
  obtain ⟨m1, m2, m3, m4, m5⟩ := g j (by omega)
  exact (g.ok j (by omega)).add m1 m2 m3 m4 m5
theorem GoodH.all {h : List (ByteArray × Tm)} (g : GoodH h) : OkS (sAt h) := by
 have := g.ok h.length (Nat.le_refl _)
 rwa [List.take_length] at this
theorem GoodH.absorb {h : List (ByteArray × Tm)} (g : GoodH h) {i : Nat} : ∀ j, i ≤ j → j ≤ h.length → ∀ L : List Tm, errL L = 0 → onL (sAt (h.take j)) (onL (sAt (h.take i)) L) = onL (sAt (h.take j)) L
 | 0, hi, _, L, he => by
  have e : i = 0 := by omega
  subst e
  exact (g.ok 0 (Nat.zero_le _)).idem he
 | j + 1, hi, hj, L, he => by
  by_cases e : i = j + 1
  ·subst e
   exact (g.ok _ hj).idem he
  ·have ih := g.absorb (i := i) j (by omega) (by omega) L he
   have o1 := g.ok j (by omega)
   have o2 := g.ok (j + 1) hj
   have hjl2 : j < h.length := by omega
   obtain ⟨m1, m2, _⟩ := g j hjl2
   rw [sAt_take (h := h) (j := j) (by omega)] at o2 ⊢
   rw [add_on o1 m1 m2 o2 _ (errL_on2 (g.ok i (by omega)) L he), add_on o1 m1 m2 o2 L he, ih]
theorem GoodH.bound {h : List (ByteArray × Tm)} (g : GoodH h) : ∀ j, j ≤ h.length → ∀ y, (∃ d ∈ sAt (h.take j), d.nm = y) ↔ ∃ i, ∃ hi : i < h.length, i < j ∧ h[i].1 = y
 | 0, _, y => by simp [sAt]
 | j + 1, hj, y => by
  have ih := g.bound j (by omega) y
  rw [sAt_take (by omega)]
  have hp := srtB_perm ((sAt (h.take j)).map (putB h[j].1 h[j].2) ++ [⟨h[j].1, h[j].2⟩])
  constructor
  ·rintro ⟨d, hd, e⟩
   rcases List.mem_append.1 (hp.subset hd) with hd | hd
   ·obtain ⟨d0, h0, rfl⟩ := List.mem_map.1 hd
    obtain ⟨i, hi, h1, h2⟩ := ih.1 ⟨d0, h0, e⟩
    exact ⟨i, hi, by omega, h2⟩
   ·have e2 : d = ⟨h[j].1, h[j].2⟩ := by simpa using hd
    rw [e2] at e
    exact ⟨j, by omega, by omega, e⟩
  ·rintro ⟨i, hi, h1, h2⟩
   by_cases e : i = j
   ·subst e
    exact ⟨⟨h[i].1, h[i].2⟩, hp.symm.subset (by simp), h2⟩
   ·obtain ⟨d0, h0, e0⟩ := ih.2 ⟨i, hi, by omega, h2⟩
    exact ⟨putB h[j].1 h[j].2 d0, hp.symm.subset (List.mem_append.2 (Or.inl (List.mem_map.2 ⟨d0, h0, rfl⟩))), e0⟩
theorem GoodH.once {h : List (ByteArray × Tm)} (g : GoodH h) {i j : Nat} (hi : i < h.length) (hj : j < h.length) (e : h[i].1 = h[j].1) : i = j := by
 have key : ∀ a b (ha : a < h.length) (hb : b < h.length), a < b → h[a].1 ≠ h[b].1 := fun a b ha hb hab e => by
  obtain ⟨d, hd, e1⟩ := (g.bound b (by omega) h[a].1).2 ⟨a, ha, hab, rfl⟩
  exact (g b hb).2.1 d hd (e1.trans e)
 rcases Nat.lt_trichotomy i j with h1 | h1 | h1
 ·exact absurd e (key i j hi hj h1)
 ·exact h1
 ·exact absurd e.symm (key j i hj hi h1)
def stood (h : List (ByteArray × Tm)) (i j : Nat) (hi : i < h.length) : Tm := onT (sAt (h.take j)) ⟨h[i].1, []⟩
theorem onT_absorb {h : List (ByteArray × Tm)} (g : GoodH h) {i j : Nat} (hij : i ≤ j) (hj : j ≤ h.length) {t : Tm} (he : errL [t] = 0) : onT (sAt (h.take j)) (onT (sAt (h.take i)) t) = onT (sAt (h.take j)) t := by
 have h1 := g.absorb j hij hj [t] he
 rw [onL_cons, onL_cons, onL_cons] at h1
 simpa [onL] using h1
theorem stood_on {h : List (ByteArray × Tm)} (g : GoodH h) {i j : Nat} (hi : i < h.length) (hj : j ≤ h.length) (hn : nameB h[i].1 = true) : onT (sAt h) (stood h i j hi) = stood h i h.length hi := by
 have h1 := onT_absorb g hj (Nat.le_refl _) (err_leaf hn)
 unfold stood
 rw [List.take_length] at h1 ⊢
 exact h1
theorem stood_later {h : List (ByteArray × Tm)} (g : GoodH h) {i j k : Nat} (hi : i < h.length) (hj : j ≤ h.length) (hn : nameB h[i].1 = true) (hk : k < h.length) (ho : occL h[k].1 [stood h i j hi]) : j ≤ k := by
 rcases Nat.lt_or_ge k j with h1 | h1
 ·obtain ⟨d, hd, e⟩ := (g.bound j hj h[k].1).2 ⟨k, hk, h1, rfl⟩
  have h2 := (g.ok j hj).goneT (err_leaf hn) d hd
  rw [e] at h2
  exact absurd ho h2
 ·exact h1
def gN (lk : ByteArray → Option Tm) (s : ByteArray) (bs : List Tm) : Tm := if varB s = true then (match lk s with | some x => x | none => ⟨s, bs⟩) else ⟨s, bs⟩
def gL (lk : ByteArray → Option Tm) : List Tm → List Tm
 | [] => []
 | ⟨s, a⟩ :: r => gN lk s (gL lk a) :: gL lk r
def gT (lk : ByteArray → Option Tm) (t : Tm) : Tm := gN lk t.name (gL lk t.args)
theorem gL_map (lk : ByteArray → Option Tm) : ∀ l : List Tm, gL lk l = l.map (gT lk)
 | [] => by simp [gL]
 | ⟨s, a⟩ :: r => by rw [gL, gL_map lk r]; rfl
theorem gL_append (lk : ByteArray → Option Tm) (a b : List Tm) : gL lk (a ++ b) = gL lk a ++ gL lk b := by simp [gL_map]
abbrev Ev := Bool → (Nat → Prop) → World → Prop
structure EvOk (E : Ev) (Mt : Nat → Prop) : Prop where
 keep : ∀ f Y w w', E f Y w → (∀ b, Y b → w'.heap[b]? = w.heap[b]?) → E f Y w'
 inY : ∀ f Y w, E f Y w → ∀ b, Y b → b < w.heap.size
 mt : ∀ f Y w, E f Y w → ∀ b, Mt b → Y b
theorem EvOk.below {E : Ev} {Mt : Nat → Prop} (h : EvOk E Mt) {f : Bool} {Y : Nat → Prop} {w w' : World} (he : E f Y w) (hb : Below w.heap.size w w') : E f Y w' := h.keep f Y w w' he fun b hy => hb.block b (h.inY f Y w he b hy)
def sV (S : Nat) : Value := .func (.func 110) #[.pointer (some ⟨S, 0, none⟩)] #[]
def LkPost (E : Ev) (Mt : Nat → Prop) (o : Option Tm) (f : Bool) (Y : Nat → Prop) (w : World) (e : Ending) (w' : World) : Prop :=
 ∃ (s : ByteArray) (a : Option Addr) (n c : Nat) (ok : Bool) (f' : Bool) (Y' : Nat → Prop), e = .returned (.tuple #[.agg #[.string s, .slice a n c], .bool ok]) ∧ E f' Y' w' ∧ (∀ b, Y' b → Y b ∨ w.heap.size ≤ b) ∧ (f = true → f' = true) ∧ ExQ Mt w w' ∧
  ((ok = true ∧ ∃ x : Tm, s = x.name ∧ n = x.args.length ∧ Sl w' Y' a x.args ∧ (f' = false → o = some x)) ∨ (ok = false ∧ (f' = false → o = none)))
def LkC (E : Ev) (Mt : Nat → Prop) (S : Nat) (o : Option Tm) (nm : ByteArray) : Prop :=
 ∀ (f : Bool) (Y : Nat → Prop) (w : World), E f Y w → Calls Tryz.prog 110 #[.pointer (some ⟨S, 0, none⟩), .string nm] w fun e w' => LkPost E Mt o f Y w e w'
def FlC (w : World) (tgt : Tm) (n : Nat) (f' : Bool) (s' : ByteArray) (a' : Option Addr) (l' : Nat) (m : Int) (k : Nat) (w' : World) : Prop :=
 (∃ y : Tm, s' = y.name ∧ l' = y.args.length ∧ m = (n : Int) - sizeL [y] ∧ sizeL [y] ≤ n ∧ Sl w' (fun b => w.heap.size + k ≤ b) a' y.args ∧ (f' = false → y = tgt)) ∨ (m = -1 ∧ (f' = false → n < sizeL [tgt]))
def FlPost (E : Ev) (Mt : Nat → Prop) (F : Nat) (sv : Value) (tgt : Tm) (n : Nat) (f : Bool) (Y : Nat → Prop) (w : World) (e : Ending) (w' : World) : Prop :=
 ∃ (s' : ByteArray) (a' : Option Addr) (l' c' : Nat) (m : Int) (f' : Bool) (Y' : Nat → Prop), e = .returned (.agg #[.string s', .slice a' l' c']) ∧ Blk w' F #[.int .i64 m, sv] 110 ∧ ExQ (fun b => b = F ∨ Mt b) w w' ∧ E f' Y' w' ∧ (∀ b, Y' b → Y b ∨ w.heap.size ≤ b) ∧ (f = true → f' = true) ∧ FlC w tgt n f' s' a' l' m 0 w'
theorem fl_end {E : Ev} {Mt : Nat → Prop} (hE : EvOk E Mt) {w w9 : World} {F : Nat} {sv : Value} {tgt : Tm} {n : Nat} {f f' : Bool} {Y Y' : Nat → Prop} {s' : ByteArray} {a' : Option Addr} {l' c' : Nat} {m : Int} {v0 v1 : Value} (hF : F < w.heap.size) (hY : ∀ b, Y b → b < w.heap.size)
  (h1 : Blk w9 F #[.int .i64 m, sv] 110) (hx : ExQ (fun b => b = F ∨ Mt b) w w9) (hE9 : E f' Y' w9) (hsub : ∀ b, Y' b → Y b ∨ w.heap.size + 2 ≤ b) (hff : f = true → f' = true) (hc : FlC w tgt n f' s' a' l' m 2 w9) :
  FlPost E Mt F sv tgt n f Y w (.returned (.agg #[.string s', .slice a' l' c'])) ((w9.setCell ⟨w.heap.size + 1, 0, none⟩ v0).setCell ⟨w.heap.size + 1, 1, none⟩ v1) := by
 have hk : ∀ b, b ≠ w.heap.size + 1 → ((w9.setCell ⟨w.heap.size + 1, 0, none⟩ v0).setCell ⟨w.heap.size + 1, 1, none⟩ v1).heap[b]? = w9.heap[b]? := fun b hb => by
  rw [Below.heap_setCell _ _ _ _ (by simpa using hb), Below.heap_setCell _ _ _ _ (by simpa using hb)]
 refine ⟨s', a', l', c', m, f', Y', rfl, (h1.setOther _ _ (by omega)).setOther _ _ (by omega), (hx.setNew (by omega) _ _).setNew (by omega) _ _, hE.keep _ _ _ _ hE9 fun b hb => hk b fun e => ?_, fun b hb => ?_, hff, ?_⟩
 ·rcases hsub b hb with h | h
  ·have := hY b h; omega
  ·omega
 ·rcases hsub b hb with h | h
  ·exact Or.inl h
  ·exact Or.inr (by omega)
 ·rcases hc with ⟨y, e1, e2, e3, e4, e5, e6⟩ | hc
  ·exact Or.inl ⟨y, e1, e2, e3, e4, (e5.kept fun b hb => hk b (by omega)).mono fun b hb _ => by omega, e6⟩
  ·exact Or.inr hc
theorem wayq1 {Q : Nat → Prop} {w0 w1 : World} (h : ExQ Q w0.drew w1) : ExQ Q w0 w1 := ((ExQ.refl Q w0).drew).trans h
theorem wayq2 {Q : Nat → Prop} {w0 w1 : World} {o : Obj} (h : ExQ Q (w0.alloc o).drew w1) : ExQ Q w0 w1 := (((ExQ.refl Q w0).alloc o).drew).trans h
theorem wayq2b {Q : Nat → Prop} {w0 w1 : World} {cs : Array Value} {T : Nat} (h : ExQ Q (w0.alloc (.cells cs T)).drew w1) (hQ : ¬ Q w0.heap.size) : Blk w1 w0.heap.size cs T := ((Blk.new w0 cs T).drewN 1).exq h hQ
set_option maxHeartbeats 1000000 in
theorem ffillL_of {E : Ev} {Mt : Nat → Prop} (hE : EvOk E Mt) (F S : Nat) (lk : ByteArray → Option Tm) (t : Tm) (n : Nat) (a : Option Addr) (c : Nat) (w : World) (X Y : Nat → Prop) (f : Bool) (hn : n ≤ 1000000) (hXF : ∀ b, X b → b ≠ F ∧ ¬ Mt b) (hYF : ¬ Y F) (hs : Sl w X a t.args) (hF : Blk w F #[.int .i64 (n : Int), sV S] 110) (hEv : E f Y w)
  (hL : varB t.name = true → LkC E Mt S (lk t.name) t.name)
  (h : ∀ (w' : World) (f' : Bool) (Y' : Nat → Prop), Sl w' X a t.args → Blk w' F #[.int .i64 (n : Int), sV S] 110 → E f' Y' w' → ¬ Y' F → Calls Tryz.prog 85 #[.pointer (some ⟨F, 0, none⟩), .agg #[.string t.name, .slice a t.args.length c], .func (.func 70) #[.pointer (some ⟨F, 0, none⟩)] #[]] w' fun e w'' => FlPost E Mt F (sV S) ⟨t.name, gL lk t.args⟩ n f' Y' w' e w'') :
  Calls Tryz.prog 70 #[.pointer (some ⟨F, 0, none⟩), .agg #[.string t.name, .slice a t.args.length c]] w fun e w' => FlPost E Mt F (sV S) (gT lk t) n f Y w e w' := by
 have hmf : ∀ (fn : Fn) (first cap : Array Value) (w : World), (Instr.makeFunc fn first cap).run Tryz.prog w = .ok (.func fn first cap) w := fun _ _ _ _ => rfl
 have H := hide h
 have HS := hide hs
 have HF := hide hF
 have HE := hide hEv
 have HL := hide hL
 have HXF := hide hXF
 have hFl : F < w.heap.size := hF.lt
 have HYW : Hid (∀ b, Y b → b < w.heap.size) := hE.inY _ _ _ hEv
 have HMT : Hid (∀ b, Mt b → Y b) := hE.mt _ _ _ hEv
 have hFM : ¬ Mt F := fun h => hYF (HMT.out F h)
 clear h hs hF hEv hL hXF
 have HB0 := hide (((Below.refl w.heap.size w).alloc (Nat.le_refl _) (.cells #[.string t.name, .slice a t.args.length c] 53)).alloc (by simp) (.cells #[.string ⟨#[]⟩, .slice none 0 0] 53))
 have f1 : ∀ o o', ((w.alloc o).alloc o').cell? ⟨F, 1, none⟩ = some (sV S) := fun o o' => ((HF.out.alloc o).alloc o').cell 1
 have RW : Hid (Blk ((w.alloc (.cells #[.string t.name, .slice a t.args.length c] 53)).alloc (.cells #[.string ⟨#[]⟩, .slice none 0 0] 53)) (w.heap.size + 1) #[.string ⟨#[]⟩, .slice none 0 0] 53) := by
  have h := Blk.new (w.alloc (.cells #[.string t.name, .slice a t.args.length c] 53)) #[.string ⟨#[]⟩, .slice none 0 0] 53
  unfold Hid
  simpa using h
 have EXW := hide (((ExQ.refl (fun b => b = F ∨ Mt b) w).alloc (.cells #[.string t.name, .slice a t.args.length c] 53)).alloc (.cells #[.string ⟨#[]⟩, .slice none 0 0] 53))
 have hW2 : Hid (((w.alloc (.cells #[.string t.name, .slice a t.args.length c] 53)).alloc (.cells #[.string ⟨#[]⟩, .slice none 0 0] 53)).heap.size = w.heap.size + 2) := by unfold Hid; simp
 have hR1 : ¬ (w.heap.size + 1 = F ∨ Mt (w.heap.size + 1)) := fun h => by
  rcases h with h | h
  ·omega
  ·have := HYW.out _ (HMT.out _ h); omega
 cases hv : varB t.name with
 | false =>
  have HV := hide hv
  have HT : Hid (gT lk t = ⟨t.name, gL lk t.args⟩) := by unfold Hid gT gN; rw [hv]; rfl
  clear hv
  go_enter Tryz.func70, Tryz.ntmps70
  go_wp2_with (go_at_call 72; refine (isVariable_all _ _).mono ?_; rintro e w' ⟨rfl, rfl⟩; rw [HV.out])
  refine (H.out _ f Y (HS.out.later HB0.out) (by exact (HF.out.alloc _).alloc _) (hE.below HE.out HB0.out) hYF).mono ?_
  rintro e w9 ⟨s', a', l', c', m, f', Y', rfl, hF1, hx1, hE1, hsub1, hff1, hc1⟩
  have R9 := hide (RW.out.exq hx1 hR1)
  have HX9 := hide (EXW.out.trans hx1)
  have HF9 := hide hF1
  have HE9 := hide hE1
  have HSUB := hide hsub1
  have HFF := hide hff1
  have HC := hide hc1
  clear hF1 hx1 hE1 hsub1 hff1 hc1
  have r0 := R9.out.c0
  have r1 := R9.out.c1
  have rf := R9.out.frozen
  go_wp2_with fail
  refine bodyPost_ret (v := .agg #[.string s', .slice a' l' c']) (by simp [results, Tryz.results70, go_sem, World.cell?_setCell_same, World.cell?_setCell_other, r0, r1]) rfl ?_
  rw [HT.out]
  refine fl_end hE (by omega) HYW.out HF9.out HX9.out HE9.out (fun b hb => (HSUB.out b hb).imp id fun h => by rw [hW2.out] at h; exact h) HFF.out ?_
  rcases HC.out with ⟨y, e1, e2, e3, e4, e5, e6⟩ | h
  ·exact Or.inl ⟨y, e1, e2, e3, e4, e5.mono fun b hb _ => by have := hW2.out; omega, e6⟩
  ·exact Or.inr h
 | true =>
  have HV := hide hv
  have HLK := hide (HL.out hv)
  clear hv HL
  have E0 := hide (hE.below HE.out HB0.out)
  have F0 := hide ((HF.out.alloc (.cells #[.string t.name, .slice a t.args.length c] 53)).alloc (.cells #[.string ⟨#[]⟩, .slice none 0 0] 53))
  have S0 := hide (HS.out.later HB0.out)
  have T0 := hide ((Blk.new w #[.string t.name, .slice a t.args.length c] 53).alloc (.cells #[.string ⟨#[]⟩, .slice none 0 0] 53))
  have g1 := F0.out.cell 1
  have g0 := T0.out.cell 0
  simp only [List.getElem?_toArray, List.getElem?_cons_succ, List.getElem?_cons_zero] at g1 g0
  have LKA : Hid (∀ w', Below ((w.alloc (.cells #[.string t.name, .slice a t.args.length c] 53)).alloc (.cells #[.string ⟨#[]⟩, .slice none 0 0] 53)).heap.size ((w.alloc (.cells #[.string t.name, .slice a t.args.length c] 53)).alloc (.cells #[.string ⟨#[]⟩, .slice none 0 0] 53)) w' → Calls Tryz.prog 110 #[.pointer (some ⟨S, 0, none⟩), .string t.name] w' fun e w'' => LkPost E Mt (lk t.name) f Y w' e w'') := fun w' hb => HLK.out f Y w' (hE.below E0.out hb)
  have HKP : Hid (∀ w', ExQ Mt ((w.alloc (.cells #[.string t.name, .slice a t.args.length c] 53)).alloc (.cells #[.string ⟨#[]⟩, .slice none 0 0] 53)) w' → w'.cell? ⟨F, 1, none⟩ = some (sV S) ∧ w'.cell? ⟨w.heap.size, 0, none⟩ = some (.string t.name)) := fun w' hb => ⟨(F0.out.exq hb hFM).cell 1, (T0.out.exq hb (fun h => by have := HYW.out _ (HMT.out _ h); omega)).cell 0⟩
  have nF : ((w.alloc (.cells #[.string t.name, .slice a t.args.length c] 53)).alloc (.cells #[.string ⟨#[]⟩, .slice none 0 0] 53)).heap.size ≠ F := by have := hW2.out; omega
  have nT : ((w.alloc (.cells #[.string t.name, .slice a t.args.length c] 53)).alloc (.cells #[.string ⟨#[]⟩, .slice none 0 0] 53)).heap.size ≠ w.heap.size := by have := hW2.out; omega
  have nM : ¬ Mt ((w.alloc (.cells #[.string t.name, .slice a t.args.length c] 53)).alloc (.cells #[.string ⟨#[]⟩, .slice none 0 0] 53)).heap.size := fun h => by have := HYW.out _ (HMT.out _ h); have := hW2.out; omega
  clear f1
  unfold sV at g1 HKP
  go_enter Tryz.func70, Tryz.ntmps70
  go_wp2_with (go_at_call 72; refine (isVariable_all _ _).mono ?_; rintro e w' ⟨rfl, rfl⟩; rw [HV.out])
  generalize ((w.alloc (.cells #[.string t.name, .slice a t.args.length c] 53)).alloc (.cells #[.string ⟨#[]⟩, .slice none 0 0] 53)) = w0 at *
  go_region_held3 (fun w' => w'.cell? ⟨F, 1, none⟩ = some (.func (.func 110) #[.pointer (some ⟨S, 0, none⟩)] #[]) ∧ w'.cell? ⟨w.heap.size, 0, none⟩ = some (.string t.name)) (first | exact hS | exact ⟨g1, g0⟩ | exact two_keep hS nF nT | exact two_keep (two_keep hS nF nT) nF nT | go_keep)
   ((go_at_call 110; refine (LKA.out _ (by first | exact (Below.refl _ _).drew | exact ((Below.refl _ _).alloc (Nat.le_refl _) _).drew)).mono ?_; rintro e w1 ⟨s1, a1, n1, c1, ok1, f1, Y1, rfl, hE1, hsub1, hff1, hx1, hc1⟩; have HE1 := hide hE1; have HSUB1 := hide hsub1; have HFF1 := hide hff1; have HC1 := hide hc1; clear hE1 hsub1 hff1 hc1; (first | (have hB0 := wayq1 hx1; have hS := HKP.out _ hB0) | (have hB0 := wayq2 hx1; have xb := hide (wayq2b hx1 nM); have x0 := xb.out.cell 0; have x1 := xb.out.cell 1; have xf := xb.out.frozen; have hS := HKP.out _ hB0)); have HX1 := hide hx1; clear hx1))
  ·generalize hz : (w1.alloc (Obj.cells #[Value.string s1, Value.slice a1 n1 c1] 53)) = wz at *
   have hkz : ∀ b, b < w1.heap.size → wz.heap[b]? = w1.heap[b]? := fun b hb => by rw [← hz]; exact Below.heap_alloc _ _ _ hb
   have hxz : ExQ Mt w0 wz := by rw [← hz]; exact hB0.alloc _
   have HS1 : Hid (∀ b, Y1 b → wz.heap[b]? = w1.heap[b]?) := fun b hb => hkz b (hE.inY _ _ _ HE1.out b hb)
   have HU1 : Hid (∀ b, Y1 b → Y b ∨ w.heap.size + 2 ≤ b) := fun b hb => (HSUB1.out b hb).imp id fun h => by have h2 := hW2.out; have h3 : w0.heap.size ≤ b := h; omega
   have q0 : wz.cell? ⟨w1.heap.size, 0, none⟩ = some (.string s1) := by rw [← hz]; exact (Blk.new w1 _ _).cell 0
   have q1 : wz.cell? ⟨w1.heap.size, 1, none⟩ = some (.slice a1 n1 c1) := by rw [← hz]; exact (Blk.new w1 _ _).cell 1
   have HXZ := hide hxz
   have HEZ : Hid (E f1 Y1 wz) := hE.keep _ _ _ _ HE1.out HS1.out
   have HFZ := hide (F0.out.exq hxz hFM)
   have HRZ := hide (RW.out.exq hxz (fun h => hR1 (Or.inr h)))
   have HTZ := hide (T0.out.exq hxz (fun h => by have := HYW.out _ (HMT.out _ h); omega))
   have HY1F : Hid (¬ Y1 F) := fun h => by
    rcases HU1.out F h with h1 | h1
    ·exact hYF h1
    ·omega
   have HSZ2 : Hid (w.heap.size + 2 ≤ wz.heap.size) := by have := hxz.size; have := hW2.out; unfold Hid; omega
   clear hxz hz hS hB0
   rcases HC1.out with ⟨rfl, x, rfl, rfl, hsx, hox⟩ | ⟨rfl, hox⟩
   ·have HSX : Hid (Sl wz Y1 a1 x.args) := hsx.kept HS1.out
    have HOX := hide hox
    clear hsx hox HC1
    go_wp2_with fail
    refine (knotC_any F _ x n _ wz Y1 ⟨a1, c1, rfl, HSX.out⟩ (fun b hb e => HY1F.out (e ▸ hb)) hn HFZ.out).mono ?_
    rintro e w9 ⟨s', a', l', c', m, rfl, hF1, hx1, hy1, hn1⟩
    have R9 := hide (HRZ.out.ex hx1 (by omega))
    have HX9 : Hid (ExQ (fun b => b = F ∨ Mt b) w w9) := (EXW.out.trans (HXZ.out.mono fun b hb _ => Or.inr hb)).trans (ExQ.ofEx hx1 (Or.inl rfl))
    have HE9 : Hid (E f1 Y1 w9) := hE.keep _ _ _ _ HEZ.out fun b hb => hx1.block b (hE.inY _ _ _ HEZ.out b hb) (fun e => HY1F.out (e ▸ hb))
    have HF9 := hide hF1
    have HCC : Hid (FlC w (gT lk t) n f1 s' a' l' m 2 w9) := by
     by_cases hle : sizeL [x] ≤ n
     ·obtain ⟨e1, e2, e3, e4⟩ := hy1 hle
      exact Or.inl ⟨x, e2, e3, e1, hle, e4.mono fun b hb _ => by have := HSZ2.out; omega, fun hf => by unfold gT gN; rw [HV.out, HOX.out hf]; rfl⟩
     ·exact Or.inr ⟨hn1 (by omega), fun hf => by unfold gT gN; rw [HV.out, HOX.out hf]; simpa using hle⟩
    clear hF1 hx1 hy1 hn1
    have r0 := R9.out.c0
    have r1 := R9.out.c1
    have rf := R9.out.frozen
    go_wp2_with fail
    refine bodyPost_ret (v := .agg #[.string s', .slice a' l' c']) (by simp [results, Tryz.results70, go_sem, World.cell?_setCell_same, World.cell?_setCell_other, r0, r1]) rfl ?_
    exact fl_end hE (by omega) HYW.out HF9.out HX9.out HE9.out HU1.out HFF1.out HCC.out
   ·have HOX := hide hox
    clear hox HC1
    have t0 := HTZ.out.c0
    have t1 := HTZ.out.c1
    go_wp2_with fail
    refine (H.out wz f1 Y1 (S0.out.exq HXZ.out (fun b hb => (HXF.out b hb).2)) HFZ.out HEZ.out HY1F.out).mono ?_
    rintro e w9 ⟨s', a', l', c', m, f', Y', rfl, hF1, hx1, hE1, hsub1, hff1, hc1⟩
    have R9 := hide (HRZ.out.exq hx1 hR1)
    have HX9 : Hid (ExQ (fun b => b = F ∨ Mt b) w w9) := (EXW.out.trans (HXZ.out.mono fun b hb _ => Or.inr hb)).trans hx1
    have HE9 := hide hE1
    have HF9 := hide hF1
    have HU9 : Hid (∀ b, Y' b → Y b ∨ w.heap.size + 2 ≤ b) := fun b hb => by
     rcases hsub1 b hb with h | h
     ·exact HU1.out b h
     ·right; have := HSZ2.out; omega
    have HFF9 : Hid (f = true → f' = true) := fun h => hff1 (HFF1.out h)
    have HCC : Hid (FlC w (gT lk t) n f' s' a' l' m 2 w9) := by
     have hT : f' = false → gT lk t = ⟨t.name, gL lk t.args⟩ := fun hf => by
      have hf1 : f1 = false := by
       cases h : f1 with
       | false => rfl
       | true => have := hff1 h; rw [hf] at this; cases this
      unfold gT gN; rw [HV.out, HOX.out hf1]; rfl
     rcases hc1 with ⟨y, e1, e2, e3, e4, e5, e6⟩ | ⟨e1, e2⟩
     ·exact Or.inl ⟨y, e1, e2, e3, e4, e5.mono fun b hb _ => by have := HSZ2.out; omega, fun hf => by rw [hT hf]; exact e6 hf⟩
     ·exact Or.inr ⟨e1, fun hf => by rw [hT hf]; exact e2 hf⟩
    clear hF1 hx1 hE1 hsub1 hff1 hc1
    have r0 := R9.out.c0
    have r1 := R9.out.c1
    have rf := R9.out.frozen
    go_wp2_with fail
    refine bodyPost_ret (v := .agg #[.string s', .slice a' l' c']) (by simp [results, Tryz.results70, go_sem, World.cell?_setCell_same, World.cell?_setCell_other, r0, r1]) rfl ?_
    exact fl_end hE (by omega) HYW.out HF9.out HX9.out HE9.out HU9.out HFF9.out HCC.out
  ·generalize hz : ((w1.setCell { block := w0.heap.size, off := 0 } (Value.string s1)).setCell { block := w0.heap.size, off := 1 } (Value.slice a1 n1 c1)) = wz at *
   have hxz : ExQ Mt w0 wz := by rw [← hz]; exact (hB0.setNew (Nat.le_refl _) _ _).setNew (Nat.le_refl _) _ _
   have HU1 : Hid (∀ b, Y1 b → Y b ∨ w.heap.size + 2 ≤ b) := fun b hb => (HSUB1.out b hb).imp id fun h => by have h2 := hW2.out; simp at h; omega
   have HS1 : Hid (∀ b, Y1 b → wz.heap[b]? = w1.heap[b]?) := fun b hb => by
    have hne : b ≠ w0.heap.size := fun e => by
     rcases HSUB1.out b hb with h | h
     ·have := HYW.out b h; have := hW2.out; omega
     ·simp at h; omega
    rw [← hz, Below.heap_setCell _ _ _ _ (by simpa using hne), Below.heap_setCell _ _ _ _ (by simpa using hne)]
   have q0 : wz.cell? ⟨w0.heap.size, 0, none⟩ = some (.string s1) := by rw [← hz]; simp [World.cell?_setCell_same, World.cell?_setCell_other, x0, x1]
   have q1 : wz.cell? ⟨w0.heap.size, 1, none⟩ = some (.slice a1 n1 c1) := by rw [← hz]; simp [World.cell?_setCell_same, World.cell?_setCell_other, x0, x1]
   have HXZ := hide hxz
   have HEZ : Hid (E f1 Y1 wz) := hE.keep _ _ _ _ HE1.out HS1.out
   have HFZ := hide (F0.out.exq hxz hFM)
   have HRZ := hide (RW.out.exq hxz (fun h => hR1 (Or.inr h)))
   have HTZ := hide (T0.out.exq hxz (fun h => by have := HYW.out _ (HMT.out _ h); omega))
   have HY1F : Hid (¬ Y1 F) := fun h => by
    rcases HU1.out F h with h1 | h1
    ·exact hYF h1
    ·omega
   have HSZ2 : Hid (w.heap.size + 2 ≤ wz.heap.size) := by have := hxz.size; have := hW2.out; unfold Hid; omega
   clear hxz hz hS hB0
   rcases HC1.out with ⟨rfl, x, rfl, rfl, hsx, hox⟩ | ⟨rfl, hox⟩
   ·have HSX : Hid (Sl wz Y1 a1 x.args) := hsx.kept HS1.out
    have HOX := hide hox
    clear hsx hox HC1
    go_wp2_with fail
    refine (knotC_any F _ x n _ wz Y1 ⟨a1, c1, rfl, HSX.out⟩ (fun b hb e => HY1F.out (e ▸ hb)) hn HFZ.out).mono ?_
    rintro e w9 ⟨s', a', l', c', m, rfl, hF1, hx1, hy1, hn1⟩
    have R9 := hide (HRZ.out.ex hx1 (by omega))
    have HX9 : Hid (ExQ (fun b => b = F ∨ Mt b) w w9) := (EXW.out.trans (HXZ.out.mono fun b hb _ => Or.inr hb)).trans (ExQ.ofEx hx1 (Or.inl rfl))
    have HE9 : Hid (E f1 Y1 w9) := hE.keep _ _ _ _ HEZ.out fun b hb => hx1.block b (hE.inY _ _ _ HEZ.out b hb) (fun e => HY1F.out (e ▸ hb))
    have HF9 := hide hF1
    have HCC : Hid (FlC w (gT lk t) n f1 s' a' l' m 2 w9) := by
     by_cases hle : sizeL [x] ≤ n
     ·obtain ⟨e1, e2, e3, e4⟩ := hy1 hle
      exact Or.inl ⟨x, e2, e3, e1, hle, e4.mono fun b hb _ => by have := HSZ2.out; omega, fun hf => by unfold gT gN; rw [HV.out, HOX.out hf]; rfl⟩
     ·exact Or.inr ⟨hn1 (by omega), fun hf => by unfold gT gN; rw [HV.out, HOX.out hf]; simpa using hle⟩
    clear hF1 hx1 hy1 hn1
    have r0 := R9.out.c0
    have r1 := R9.out.c1
    have rf := R9.out.frozen
    go_wp2_with fail
    refine bodyPost_ret (v := .agg #[.string s', .slice a' l' c']) (by simp [results, Tryz.results70, go_sem, World.cell?_setCell_same, World.cell?_setCell_other, r0, r1]) rfl ?_
    exact fl_end hE (by omega) HYW.out HF9.out HX9.out HE9.out HU1.out HFF1.out HCC.out
   ·have HOX := hide hox
    clear hox HC1
    have t0 := HTZ.out.c0
    have t1 := HTZ.out.c1
    go_wp2_with fail
    refine (H.out wz f1 Y1 (S0.out.exq HXZ.out (fun b hb => (HXF.out b hb).2)) HFZ.out HEZ.out HY1F.out).mono ?_
    rintro e w9 ⟨s', a', l', c', m, f', Y', rfl, hF1, hx1, hE1, hsub1, hff1, hc1⟩
    have R9 := hide (HRZ.out.exq hx1 hR1)
    have HX9 : Hid (ExQ (fun b => b = F ∨ Mt b) w w9) := (EXW.out.trans (HXZ.out.mono fun b hb _ => Or.inr hb)).trans hx1
    have HE9 := hide hE1
    have HF9 := hide hF1
    have HU9 : Hid (∀ b, Y' b → Y b ∨ w.heap.size + 2 ≤ b) := fun b hb => by
     rcases hsub1 b hb with h | h
     ·exact HU1.out b h
     ·right; have := HSZ2.out; omega
    have HFF9 : Hid (f = true → f' = true) := fun h => hff1 (HFF1.out h)
    have HCC : Hid (FlC w (gT lk t) n f' s' a' l' m 2 w9) := by
     have hT : f' = false → gT lk t = ⟨t.name, gL lk t.args⟩ := fun hf => by
      have hf1 : f1 = false := by
       cases h : f1 with
       | false => rfl
       | true => have := hff1 h; rw [hf] at this; cases this
      unfold gT gN; rw [HV.out, HOX.out hf1]; rfl
     rcases hc1 with ⟨y, e1, e2, e3, e4, e5, e6⟩ | ⟨e1, e2⟩
     ·exact Or.inl ⟨y, e1, e2, e3, e4, e5.mono fun b hb _ => by have := HSZ2.out; omega, fun hf => by rw [hT hf]; exact e6 hf⟩
     ·exact Or.inr ⟨e1, fun hf => by rw [hT hf]; exact e2 hf⟩
    clear hF1 hx1 hE1 hsub1 hff1 hc1
    have r0 := R9.out.c0
    have r1 := R9.out.c1
    have rf := R9.out.frozen
    go_wp2_with fail
    refine bodyPost_ret (v := .agg #[.string s', .slice a' l' c']) (by simp [results, Tryz.results70, go_sem, World.cell?_setCell_same, World.cell?_setCell_other, r0, r1]) rfl ?_
    exact fl_end hE (by omega) HYW.out HF9.out HX9.out HE9.out HU9.out HFF9.out HCC.out
theorem gL_onL {s : List Bd} (hs : ∀ d ∈ s, varB d.nm = true) : ∀ l : List Tm, errL l = 0 → gL (forT s) l = onL s l := by
 intro l
 induction l using Tm.indL with
 | h0 => intro _; simp [gL, onL]
 | h n l r ihl ihr =>
  intro he
  obtain ⟨g1, g2, g3⟩ := errL_parts he
  rw [gL, onL_cons, ihr g3, ihl g2]
  congr 1
  cases hv : varB n with
  | false => rw [onT_sym2 hs hv, gN, hv]; rfl
  | true =>
   have e := g1 hv
   subst e
   rw [onT_leaf, gN, hv]
   cases forT s n with
   | none => simp [onL]
   | some x => rfl
theorem gT_onT {s : List Bd} (hs : ∀ d ∈ s, varB d.nm = true) {t : Tm} (he : errL [t] = 0) : gT (forT s) t = onT s t := by
 have h := gL_onL hs [t] he
 rw [gL_map, onL_cons] at h
 simpa [onL] using h
def NamesH (h : List (ByteArray × Tm)) : Prop := ∀ i (hi : i < h.length), nameB h[i].1 = true
def StE (w : World) (Y : Nat → Prop) (h : List (ByteArray × Tm)) (i : Nat) (hi : i < h.length) (v : Value) : Prop :=
 ∃ (j : Nat) (a : Option Addr) (c : Nat), j ≤ h.length ∧ v = .agg #[.string (stood h i (max j (i + 1)) hi).name, .slice a (stood h i (max j (i + 1)) hi).args.length c, .int .i64 (j : Int)] ∧ Sl w Y a (stood h i (max j (i + 1)) hi).args
def StMap (w : World) (Y : Nat → Prop) (h : List (ByteArray × Tm)) (L : List (ByteArray × Value)) : Prop :=
 L.length = h.length ∧ ∀ i (hi : i < h.length) (hl : i < L.length), L[i].1 = h[i].1 ∧ StE w Y h i hi L[i].2
theorem StE.imp {w w' : World} {Y Z : Nat → Prop} {h : List (ByteArray × Tm)} {i : Nat} {hi : i < h.length} {v : Value} (hs : ∀ a l, Sl w Y a l → Sl w' Z a l) (e : StE w Y h i hi v) : StE w' Z h i hi v := by
 obtain ⟨j, a, c, h1, h2, h3⟩ := e
 exact ⟨j, a, c, h1, h2, hs _ _ h3⟩
theorem StMap.imp {w w' : World} {Y Z : Nat → Prop} {h : List (ByteArray × Tm)} {L : List (ByteArray × Value)} (hs : ∀ a l, Sl w Y a l → Sl w' Z a l) (e : StMap w Y h L) : StMap w' Z h L :=
 ⟨e.1, fun i hi hl => ⟨(e.2 i hi hl).1, (e.2 i hi hl).2.imp hs⟩⟩
theorem mapGet_at : ∀ (L : List (ByteArray × Value)) (i : Nat) (hi : i < L.length), (∀ k (hk : k < L.length), k < i → L[k].1 ≠ L[i].1) → mapGet L L[i].1 = some L[i].2
 | [], i, hi, _ => by simp at hi
 | p :: r, 0, hi, _ => by simp [mapGet]
 | p :: r, i + 1, hi, h => by
  have h0 := h 0 (by simp) (by omega)
  simp only [List.getElem_cons_zero, List.getElem_cons_succ] at h0 ⊢
  rw [mapGet, if_neg h0]
  refine mapGet_at r i (by simpa using hi) fun k hk hki => ?_
  have := h (k + 1) (by simpa using hk) (by omega)
  simpa using this
theorem mapGet_none : ∀ (L : List (ByteArray × Value)) (n : ByteArray), (∀ k (hk : k < L.length), L[k].1 ≠ n) → mapGet L n = none
 | [], n, _ => rfl
 | p :: r, n, h => by
  have h0 := h 0 (by simp)
  simp only [List.getElem_cons_zero] at h0
  rw [mapGet, if_neg h0]
  exact mapGet_none r n fun k hk => by have := h (k + 1) (by simpa using hk); simpa using this
theorem setAt_get : ∀ (L : List (ByteArray × Value)) (i : Nat) (hi : i < L.length) (v : Value), (∀ k (hk : k < L.length), k < i → L[k].1 ≠ L[i].1) → setAt L L[i].1 v = L.set i (L[i].1, v)
 | [], i, hi, v, _ => by simp at hi
 | p :: r, 0, hi, v, _ => by simp [setAt]
 | p :: r, i + 1, hi, v, h => by
  have h0 := h 0 (by simp) (by omega)
  simp only [List.getElem_cons_zero, List.getElem_cons_succ] at h0 ⊢
  rw [setAt, if_neg h0, setAt_get r i (by simpa using hi) v fun k hk hki => by have := h (k + 1) (by simpa using hk) (by omega); simpa using this]
  rfl
theorem StMap.apart {w : World} {Y : Nat → Prop} {h : List (ByteArray × Tm)} {L : List (ByteArray × Value)} (e : StMap w Y h L) (g : GoodH h) (i : Nat) (hi : i < L.length) : ∀ k (hk : k < L.length), k < i → L[k].1 ≠ L[i].1 := fun k hk hki hh => by
 have hl := e.1
 rw [(e.2 k (by omega) hk).1, (e.2 i (by omega) hi).1] at hh
 have := g.once (by omega) (by omega) hh
 omega
theorem StMap.get {w : World} {Y : Nat → Prop} {h : List (ByteArray × Tm)} {L : List (ByteArray × Value)} (e : StMap w Y h L) (g : GoodH h) {i : Nat} (hi : i < h.length) : ∃ v, mapGet L h[i].1 = some v ∧ StE w Y h i hi v := by
 have hl : i < L.length := by rw [e.1]; exact hi
 have h1 := mapGet_at L i hl (e.apart g i hl)
 rw [(e.2 i hi hl).1] at h1
 exact ⟨_, h1, (e.2 i hi hl).2⟩
theorem StMap.none {w : World} {Y : Nat → Prop} {h : List (ByteArray × Tm)} {L : List (ByteArray × Value)} (e : StMap w Y h L) {n : ByteArray} (hn : ∀ i (hi : i < h.length), h[i].1 ≠ n) : mapGet L n = none :=
 mapGet_none L n fun k hk => by rw [(e.2 k (by rw [← e.1]; exact hk) hk).1]; exact hn k _
theorem StMap.set {w : World} {Y : Nat → Prop} {h : List (ByteArray × Tm)} {L : List (ByteArray × Value)} (e : StMap w Y h L) (g : GoodH h) {i : Nat} (hi : i < h.length) {v : Value} (hv : StE w Y h i hi v) : StMap w Y h (setAt L h[i].1 v) := by
 have hl : i < L.length := by rw [e.1]; exact hi
 have h1 := setAt_get L i hl v (e.apart g i hl)
 rw [(e.2 i hi hl).1] at h1
 rw [h1]
 refine ⟨by simp [e.1], fun k hk hkl => ?_⟩
 by_cases hki : i = k
 ·subst hki
  simp only [List.getElem_set_self]
  exact ⟨trivial, hv⟩
 ·rw [List.getElem_set_ne hki]
  exact e.2 k hk (by simpa using hkl)
theorem forT_at {h : List (ByteArray × Tm)} (g : GoodH h) {i : Nat} (hi : i < h.length) : forT (sAt h) h[i].1 = some (stood h i h.length hi) := by
 obtain ⟨d, hd, e⟩ := (g.bound h.length (Nat.le_refl _) h[i].1).2 ⟨i, hi, hi, rfl⟩
 rw [List.take_length] at hd
 obtain ⟨t, ht⟩ := forT_some_of hd
 rw [e] at ht
 rw [ht]
 unfold stood
 rw [List.take_length, onT_some ht]
theorem forT_free {h : List (ByteArray × Tm)} (g : GoodH h) {n : ByteArray} (hn : ∀ i (hi : i < h.length), h[i].1 ≠ n) : forT (sAt h) n = none := by
 cases hf : forT (sAt h) n with
 | none => rfl
 | some x =>
  obtain ⟨d, hd, e, _⟩ := forT_mem hf
  have h1 := (g.bound h.length (Nat.le_refl _) n).1 ⟨d, by rw [List.take_length]; exact hd, e⟩
  obtain ⟨i, hi, _, h2⟩ := h1
  exact absurd h2 (hn i hi)
theorem stood_err {h : List (ByteArray × Tm)} (g : GoodH h) (hn : NamesH h) {i : Nat} (hi : i < h.length) {j : Nat} (hj : j ≤ h.length) : errL [stood h i j hi] = 0 := errL_onT2 (g.ok j hj) (err_leaf (hn i hi))
theorem stood_fill {h : List (ByteArray × Tm)} (g : GoodH h) (hn : NamesH h) {i : Nat} (hi : i < h.length) {j : Nat} (hj : j ≤ h.length) : gT (forT (sAt h)) (stood h i j hi) = stood h i h.length hi := by
 rw [gT_onT g.all.vars (stood_err g hn hi hj), stood_on g hi hj (hn i hi)]
theorem stood_great {h : List (ByteArray × Tm)} (g : GoodH h) {i : Nat} (hi : i < h.length) (hz : 2000 < sizeL [stood h i h.length hi]) : grtB (sAt h) = true := by
 obtain ⟨d, hd, e1, e2⟩ := forT_mem (forT_at g hi)
 unfold grtB
 rw [List.any_eq_true]
 exact ⟨d, hd, by rw [e2]; simpa using hz⟩
def SolE (S q : Nat) (td : Value) (h : List (ByteArray × Tm)) : Ev := fun f Y w =>
 (∃ L, Blk w S #[td, .map (some q), .bool f] 125 ∧ MapAt w q L ∧ StMap w (fun b => Y b ∧ b ≠ S ∧ b ≠ q) h L) ∧ Y S ∧ Y q ∧ (∀ b, Y b → b < w.heap.size) ∧ (f = true → grtB (sAt h) = true)
def SolM (S q : Nat) : Nat → Prop := fun b => b = S ∨ b = q
theorem solE_ok (S q : Nat) (td : Value) (h : List (ByteArray × Tm)) : EvOk (SolE S q td h) (SolM S q) := by
 refine ⟨fun f Y w w' he hk => ?_, fun f Y w he => he.2.2.2.1, fun f Y w he b hb => ?_⟩
 ·obtain ⟨⟨L, h1, h2, h3⟩, h4, h5, h6, h7⟩ := he
  refine ⟨⟨L, ?_, h2.kept (hk q h5), h3.imp fun a l hs => hs.kept fun b hb => hk b hb.1⟩, h4, h5, fun b hb => ?_, h7⟩
  ·unfold Blk at *; rw [hk S h4]; exact h1
  ·have h8 := hk b hb
   have h9 := h6 b hb
   apply Classical.byContradiction
   intro hn
   rw [Array.getElem?_eq_none (by omega), Array.getElem?_eq_getElem h9] at h8
   cases h8
 ·rcases hb with rfl | rfl
  ·exact he.2.1
  ·exact he.2.2.1
def KlSet (Mt : Nat → Prop) (w : World) (F O : Nat) (s : ByteArray) (u : Value) (cF : Array Value) (wr : World) : Prop :=
 ExQ (fun b => b = F ∨ Mt b) w wr ∧ Blk wr (w.heap.size + 1) #[.string ⟨#[]⟩, .slice none 0 0] 53 ∧ Blk wr O #[.string s, u] 53 ∧ Blk wr F cF 110 ∧ O < wr.heap.size
theorem kl_set {Mt : Nat → Prop} {w wr w1 w3 : World} {F O : Nat} {s : ByteArray} {u v : Value} {cF cF' : Array Value} {o2 : Obj} (hFw : F < w.heap.size) (hM : ∀ b, Mt b → b < w.heap.size) (hO : w.heap.size + 2 ≤ O) (h : KlSet Mt w F O s u cF wr) (hu : ∀ k, u.ownBlock = some k → O + 1 ≤ k)
  (he1 : ExQ (fun b => b = F ∨ Mt b) wr w1) (hF1 : Blk w1 F cF' 110) (hg : (w1.alloc o2).grownBy w3 u.ownBlock) : KlSet Mt w F O s v cF' (w3.setCell ⟨O, 1, none⟩ v) := by
 obtain ⟨h1, h2, h3, h4, h5⟩ := h
 have hne : ∀ b, b < O + 1 → some b ≠ u.ownBlock := fun b hb e => by have := hu b e.symm; omega
 have hQ : ∀ b, w.heap.size ≤ b → ¬ (b = F ∨ Mt b) := fun b hb h => by
  rcases h with h | h
  ·omega
  ·have := hM b h; omega
 have hs1 := he1.size
 have hs3 := hg.size
 simp at hs3
 refine ⟨(((h1.trans he1).alloc o2).grown hg (fun k hk => Or.inl (by have := hu k hk; omega))).setNew (by omega) _ _, ?_, ?_, ?_, by simp [World.setCell]; omega⟩
 ·exact (((h2.exq he1 (hQ _ (by omega))).alloc o2).grown hg (hne _ (by omega))).setOther _ _ (by omega)
 ·exact (((h3.exq he1 (hQ _ (by omega))).alloc o2).grown hg (hne _ (by omega))).set 1 _
 ·exact ((hF1.alloc o2).grown hg (hne _ (by omega))).setOther _ _ (by omega)
theorem kl_row {Q : Nat → Prop} {wr w1 w3 : World} {O : Nat} {u : Value} {L : List Tm} {xs : List Value} {o2 : Obj} {s' : ByteArray} {a1 : Option Addr} {n1 c1 g cap : Nat} {t : Tm} (hQ : ∀ b, Q b → b < O) (hOr : O < wr.heap.size) (hrow : Row wr (O + 1) 53 (fun _ => False) u L xs)
  (he1 : ExQ Q wr w1) (ht : TV w1 (fun b => wr.heap.size ≤ b) (.agg #[.string s', .slice a1 n1 c1]) t)
  (hown : w3.ownsRow (O + 1) 53 2 (.slice (some ⟨g, 0, none⟩) (L.length + 1) cap) (L.length + 1) (xs ++ [.string s', .slice a1 n1 c1])) (hg : (w1.alloc o2).grownBy w3 u.ownBlock) (hat : u.ownBlock = some g ∨ g = (w1.alloc o2).heap.size) :
  Row (w3.setCell ⟨O, 1, none⟩ (.slice (some ⟨g, 0, none⟩) (L.length + 1) cap)) (O + 1) 53 (fun _ => False) (.slice (some ⟨g, 0, none⟩) (L.length + 1) cap) (L ++ [t]) (xs ++ [.string s', .slice a1 n1 c1]) := by
 obtain ⟨wm, hbm, hsm, hem⟩ := he1.mid
 have hrm := hrow.exq hem (fun b hb => by have := hQ b hb; omega) (fun _ _ h => h)
 exact (hrm.push (w1 := w1) (w2 := w1.alloc o2) (w3 := w3) (by omega) (fun _ h => h.elim) hbm (ht.mono fun b h _ => Or.inr (by omega)) o2 rfl hown hg hat).setCell (by omega) (fun h => h) _
def KlE (E : Ev) (O : Nat) (f : Bool) (Y : Nat → Prop) (u : Value) (f' : Bool) (Y' : Nat → Prop) (wr : World) : Prop :=
 E f' Y' wr ∧ (∀ b, Y' b → Y b ∨ O + 1 ≤ b) ∧ (∀ b, Y' b → some b ≠ u.ownBlock) ∧ (f = true → f' = true)
def KlInv (E : Ev) (Mt : Nat → Prop) (lk : ByteArray → Option Tm) (w : World) (F O : Nat) (s : ByteArray) (sv : Value) (l : List Tm) (n : Nat) (f : Bool) (Y : Nat → Prop) (i : Value) (wr : World) : Prop :=
 ∃ (k : Nat) (u : Value) (f' : Bool) (Y' : Nat → Prop), k ≤ l.length ∧ i = .int .i64 (k : Int) ∧ KlE E O f Y u f' Y' wr ∧
  ((∃ (m : Nat) (xs : List Value) (Mk : List Tm), Mk.length = k ∧ (m : Int) = (n : Int) - 1 - sizeL Mk ∧ KlSet Mt w F O s u #[.int .i64 (m : Int), sv] wr ∧ Row wr (O + 1) 53 (fun _ => False) u Mk xs ∧ (f' = false → Mk = gL lk (l.take k))) ∨
   (KlSet Mt w F O s u #[.int .i64 (-1), sv] wr ∧ (∃ a9 l9 c9, u = .slice a9 l9 c9) ∧ (f' = false → n < 1 + sizeL (gL lk l))))
theorem kl_ev {E : Ev} {Mt : Nat → Prop} (hE : EvOk E Mt) {O : Nat} {f f' f1 : Bool} {Y Y' Y1 : Nat → Prop} {u : Value} {wr w1 w3 : World} {o2 : Obj} {g cap n9 : Nat} {x : Value} (hYw : ∀ b, Y b → b < O) (h : KlE E O f Y u f' Y' wr) (hu : ∀ k, u.ownBlock = some k → k < wr.heap.size) (hOr : O < wr.heap.size) (hsz : wr.heap.size ≤ w1.heap.size)
  (hE1 : E f1 Y1 w1) (hsub : ∀ b, Y1 b → Y' b ∨ wr.heap.size ≤ b) (hff : f' = true → f1 = true) (hg : (w1.alloc o2).grownBy w3 u.ownBlock) (hat : u.ownBlock = some g ∨ g = (w1.alloc o2).heap.size) :
  KlE E O f Y (.slice (some ⟨g, 0, none⟩) n9 cap) f1 Y1 (w3.setCell ⟨O, 1, none⟩ x) := by
 obtain ⟨h1, h2, h3, h4⟩ := h
 have hin := hE.inY _ _ _ hE1
 have hno : ∀ b, Y1 b → some b ≠ u.ownBlock := fun b hb e => by
  rcases hsub b hb with h | h
  ·exact h3 b h e
  ·have := hu b e.symm; omega
 have hsb : ∀ b, Y1 b → Y b ∨ O + 1 ≤ b := fun b hb => by
  rcases hsub b hb with h | h
  ·exact h2 b h
  ·right; omega
 refine ⟨hE.keep _ _ _ _ hE1 fun b hb => ?_, hsb, fun b hb e => ?_, fun h => hff (h4 h)⟩
 ·have hbO : b ≠ O := fun e => by
   rcases hsb b hb with h | h
   ·have := hYw b h; omega
   ·omega
  have hbl := hin b hb
  rw [Below.heap_setCell _ _ _ _ (by simpa using hbO), hg.block b (by simp; omega) (hno b hb), Below.heap_alloc _ _ _ hbl]
 ·have e2 : b = g := by simpa [Value.ownBlock] using e
  subst e2
  rcases hat with h | h
  ·exact hno b hb h.symm
  ·have := hin b hb; simp at h; omega
theorem kl_end {E : Ev} {Mt : Nat → Prop} (hE : EvOk E Mt) {w wr : World} {F O : Nat} {s : ByteArray} {u sv : Value} {tgt : Tm} {n : Nat} {f f' : Bool} {Y Y' : Nat → Prop} {a' : Option Addr} {l' c' : Nat} {m : Int} {v0 v1 : Value} (hF : F < w.heap.size) (hY : ∀ b, Y b → b < w.heap.size) (hO : w.heap.size + 2 ≤ O)
  (h1 : KlSet Mt w F O s u #[.int .i64 m, sv] wr) (h2 : KlE E O f Y u f' Y' wr) (hc : FlC w tgt n f' s a' l' m 2 wr) :
  FlPost E Mt F sv tgt n f Y w (.returned (.agg #[.string s, .slice a' l' c'])) ((wr.setCell ⟨w.heap.size + 1, 0, none⟩ v0).setCell ⟨w.heap.size + 1, 1, none⟩ v1) :=
 fl_end hE hF hY h1.2.2.2.1 h1.1 h2.1 (fun b hb => (h2.2.1 b hb).imp id fun h => by omega) h2.2.2.2 hc
theorem fl_alloc {E : Ev} {Mt : Nat → Prop} (hE : EvOk E Mt) {w w' : World} {F : Nat} {sv : Value} {tgt : Tm} {n : Nat} {f : Bool} {Y : Nat → Prop} {e : Ending} (h : FlPost E Mt F sv tgt n f Y w e w') (o : Obj) : FlPost E Mt F sv tgt n f Y w e (w'.alloc o) := by
 obtain ⟨s', a', l', c', m, f', Y', he, h1, h2, h3, h4, h5, h6⟩ := h
 refine ⟨s', a', l', c', m, f', Y', he, h1.alloc o, h2.alloc o, hE.below h3 ((Below.refl _ _).alloc (Nat.le_refl _) o), h4, h5, ?_⟩
 rcases h6 with ⟨y, e1, e2, e3, e4, e5, e6⟩ | h6
 ·exact Or.inl ⟨y, e1, e2, e3, e4, e5.later ((Below.refl _ _).alloc (Nat.le_refl _) o), e6⟩
 ·exact Or.inr h6
theorem occ_get {nm : ByteArray} {l : List Tm} {k : Nat} (h : k < l.length) (ho : occL nm [l[k]]) : occL nm l := by
 have : l = l.take k ++ (l[k] :: l.drop (k + 1)) := by rw [List.getElem_cons_drop, List.take_append_drop]
 rw [this, occL_append, occL_cons]
 exact Or.inr (Or.inl ho)
set_option maxHeartbeats 1000000 in
theorem knotL_any {E : Ev} {Mt : Nat → Prop} (hE : EvOk E Mt) (F S : Nat) (lk : ByteArray → Option Tm) (t : Tm) : ∀ (n : Nat) (v : Value) (w : World) (X Y : Nat → Prop) (f : Bool), TV w X v t → (∀ b, X b → b ≠ F ∧ ¬ Mt b) → n ≤ 1000000 → Blk w F #[.int .i64 (n : Int), sV S] 110 → E f Y w → ¬ Y F → (∀ nm, occL nm t.args → varB nm = true → LkC E Mt S (lk nm) nm) →
  Calls Tryz.prog 85 #[.pointer (some ⟨F, 0, none⟩), v, .func (.func 70) #[.pointer (some ⟨F, 0, none⟩)] #[]] w fun e w' => FlPost E Mt F (sV S) ⟨t.name, gL lk t.args⟩ n f Y w e w' := by
 induction t using Tm.ind with
 | h s l ih =>
  intro n v w X Y f hv hXF hn hF hEv hYF hL
  obtain ⟨a, c, rfl, hs⟩ := hv
  dsimp only
  have HYW : Hid (∀ b, Y b → b < w.heap.size) := hE.inY _ _ _ hEv
  have HMT : Hid (∀ b, Mt b → b < w.heap.size) := fun b hb => HYW.out b (hE.mt _ _ _ hEv b hb)
  have HL := hide hL
  have HEV := hide hEv
  clear hL hEv
  generalize hsv : sV S = sv at *
  have IH := hide ih
  clear ih
  obtain ⟨i0, hi0, hz0, hz1, hz2⟩ := info_parts Tryz.infoTerm
  have f0 : ∀ o, (w.alloc o).cell? ⟨F, 0, none⟩ = some (.int .i64 (n : Int)) := fun o => (hF.alloc o).cell 0
  have ff : ∀ o, (w.alloc o).frozen? ⟨F, 0, none⟩ = false := fun o => (hF.alloc o).frozen 0
  have hFl : F < w.heap.size := hF.lt
  go_enter Tryz.func85, Tryz.ntmps85
  go_wp2_with fail
  have E3 : Hid (KlSet Mt w F (w.heap.size + 1 + 1) s (.slice none 0 0) #[.int .i64 ((n : Int) - 1), sv] ((((w.setCell ⟨F, 0, none⟩ (.int .i64 ((n : Int) - 1))).alloc (.cells #[.string s, .slice a l.length c] 53)).alloc (.cells #[.string ⟨#[]⟩, .slice none 0 0] 53)).alloc (.cells #[.string s, .slice none 0 0] 53))) := by
   refine ⟨((((ExQ.refl _ w).set (Or.inl rfl) 0 _).alloc _).alloc _).alloc _, ?_, ?_, (((hF.set 0 _).alloc _).alloc _).alloc _, by simp [World.setCell]⟩
   ·have h := (Blk.new ((w.setCell ⟨F, 0, none⟩ (.int .i64 ((n : Int) - 1))).alloc (.cells #[.string s, .slice a l.length c] 53)) #[.string ⟨#[]⟩, .slice none 0 0] 53).alloc (.cells #[.string s, .slice none 0 0] 53)
    simpa [World.setCell] using h
   ·have h := Blk.new (((w.setCell ⟨F, 0, none⟩ (.int .i64 ((n : Int) - 1))).alloc (.cells #[.string s, .slice a l.length c] 53)).alloc (.cells #[.string ⟨#[]⟩, .slice none 0 0] 53)) #[.string s, .slice none 0 0] 53
    simpa [World.setCell] using h
  have EV3 : Hid (KlE E (w.heap.size + 1 + 1) f Y (.slice none 0 0) f Y ((((w.setCell ⟨F, 0, none⟩ (.int .i64 ((n : Int) - 1))).alloc (.cells #[.string s, .slice a l.length c] 53)).alloc (.cells #[.string ⟨#[]⟩, .slice none 0 0] 53)).alloc (.cells #[.string s, .slice none 0 0] 53))) := by
   refine ⟨hE.keep _ _ _ _ HEV.out fun b hb => ?_, fun b hb => Or.inl hb, fun b _ e => by simp [Value.ownBlock] at e, fun h => h⟩
   have h1 := HYW.out b hb
   rw [Below.heap_alloc _ _ _ (by simp [World.setCell]; omega), Below.heap_alloc _ _ _ (by simp [World.setCell]; omega), Below.heap_alloc _ _ _ (by simpa [World.setCell] using h1), Below.heap_setCell _ _ _ _ (by simp; intro e; subst e; exact hYF hb)]
  generalize ((((w.setCell ⟨F, 0, none⟩ (.int .i64 ((n : Int) - 1))).alloc (.cells #[.string s, .slice a l.length c] 53)).alloc (.cells #[.string ⟨#[]⟩, .slice none 0 0] 53)).alloc (.cells #[.string s, .slice none 0 0] 53)) = w3 at *
  generalize hOe : w.heap.size + 1 + 1 = O at *
  have hO : w.heap.size + 2 ≤ O := by omega
  clear hOe
  clear f0 ff
  have HS := hide hs
  have hl := hs.1
  have HXF := hide hXF
  clear hs hXF
  have HQ : Hid (∀ b, w.heap.size ≤ b → ¬ (b = F ∨ Mt b)) := fun b hb h => by
   rcases h with h | h
   ·omega
   ·have := HMT.out b h; omega
  go_loopw [23] (fun i wr => KlInv E Mt lk w F O s sv l n f Y i wr) (fun i wr => l.length - (intOf i).toNat)
  case atStart =>
   refine ⟨0, .slice none 0 0, f, Y, Nat.zero_le _, rfl, EV3.out, ?_⟩
   by_cases hn0 : n = 0
   ·subst hn0
    exact Or.inr ⟨E3.out, ⟨none, 0, 0, rfl⟩, fun _ => by omega⟩
   ·refine Or.inl ⟨n - 1, [], [], rfl, by simp [sizeL]; omega, ?_, Row.start _ _ _ _, fun _ => by simp [gL]⟩
    rw [show ((n - 1 : Nat) : Int) = (n : Int) - 1 by omega]
    exact E3.out
  case round =>
   obtain ⟨k, u, f', Y', hk, rfl, hev, hcase⟩ := hrel
   have EV := hide hev
   clear hev
   rcases hcase with ⟨m, xs, Mk, hMk, hm, hset, hrow, hgd⟩ | ⟨hset, ⟨a9, l9, c9, rfl⟩, hbig⟩
   ·have XS := hide hset
    have XW := hide hrow
    have HMM := hide hm
    have HGD := hide hgd
    clear hset hrow hgd
    by_cases hlt : k < l.length
    ·obtain ⟨b, o, a', c', rfl, d0, d1, hx⟩ := (HS.out.exq XS.out.1 (fun b hb h => by rcases h with h | h; exact (HXF.out b hb).1 h; exact (HXF.out b hb).2 h)).get (Below.refl _ _) (fun _ _ h => h) k hlt
     obtain ⟨av, cv, ev, hsx⟩ := hx
     simp at ev
     obtain ⟨rfl, rfl⟩ := ev
     have hmn : m ≤ 1000000 := by omega
     have hOF : ¬ (O = F ∨ Mt O) := HQ.out O (by omega)
     have HQO : Hid (∀ b, (b = F ∨ Mt b) → b < O) := fun b h => by
      rcases h with h | h
      ·omega
      ·have := HMT.out b h; omega
     have hkn : k ≤ 1000000 := by have h1 := sizeL_len Mk; rw [hMk] at h1; omega
     have HL1 : Hid (Mk.length + 1 ≤ maxLen ∧ (Mk.length + 1) * 40 ≤ 140737488355328) := by unfold Hid; rw [hMk]; exact ⟨by unfold maxLen; omega, by omega⟩
     have hY'F : ¬ Y' F := fun h => by
      rcases EV.out.2.1 F h with h1 | h1
      ·exact hYF h1
      ·omega
     have IHQ : Hid (Calls Tryz.prog 70 #[.pointer (some ⟨F, 0, none⟩), .agg #[.string l[k].name, .slice a' l[k].args.length c']] (wr.alloc (.cells #[.string l[k].name, .slice a' l[k].args.length c'] 53)).drew fun e w'' => FlPost E Mt F sv (gT lk l[k]) m f' Y' (wr.alloc (.cells #[.string l[k].name, .slice a' l[k].args.length c'] 53)).drew e w'') := by
      have hB1 : Below wr.heap.size wr (wr.alloc (.cells #[.string l[k].name, .slice a' l[k].args.length c'] 53)).drew := ((Below.refl _ _).alloc (Nat.le_refl _) _).drew
      have hEr : E f' Y' (wr.alloc (.cells #[.string l[k].name, .slice a' l[k].args.length c'] 53)).drew := hE.below EV.out.1 hB1
      have hFr : Blk (wr.alloc (.cells #[.string l[k].name, .slice a' l[k].args.length c'] 53)).drew F #[.int .i64 (m : Int), sv] 110 := (XS.out.2.2.2.1.alloc _).drewN 1
      have hSr : Sl (wr.alloc (.cells #[.string l[k].name, .slice a' l[k].args.length c'] 53)).drew X a' l[k].args := hsx.later hB1
      have IH2 := IH.out l[k] (List.getElem_mem hlt) m
      clear HMM XS XW
      subst hsv
      refine ffillL_of hE F S lk l[k] m a' c' _ X Y' f' hmn HXF.out hY'F hSr hFr hEr (fun hv => HL.out _ (occ_get hlt ?_) hv) (fun w' f2 Y2 h1 h2 h3 h4 => IH2 _ w' X Y2 f2 ⟨a', c', rfl, h1⟩ HXF.out hmn h2 h3 h4 (fun nm ho hv => HL.out nm (occ_get hlt ?_) hv))
      ·generalize l[k] = y
       obtain ⟨n1, k1⟩ := y
       exact occL_node.2 (Or.inl rfl)
      ·generalize l[k] = y at ho ⊢
       obtain ⟨n1, k1⟩ := y
       exact occL_node.2 (Or.inr (Or.inl ho))
     have f0 : ∀ o, (wr.alloc o).cell? ⟨F, 0, none⟩ = some (.int .i64 (m : Int)) := fun o => (XS.out.2.2.2.1.alloc o).cell 0
     have o1 : ∀ o, (wr.alloc o).cell? ⟨O, 1, none⟩ = some u := fun o => (XS.out.2.2.1.alloc o).cell 1
     have hm0 : ¬ (m : Int) < 0 := by omega
     go_wp2_with fail
     go_region_law (first
      | (go_simp; go_at_call 70; refine IHQ.out.mono ?_; rintro e w1 ⟨s1, a1, l1, c1, m1, f1, Y1, rfl, hF1, he0, hE1, hsub1, hff1, hc1⟩; have he1 := (((ExQ.refl (fun b => b = F ∨ Mt b) wr).alloc (.cells #[.string l[k].name, .slice a' l[k].args.length c'] 53)).drew).trans he0; have HSUB := hide hsub1; have HFF := hide hff1; have HC1 := hide hc1; have HE1 := hide hE1; clear he0 hsub1 hff1 hc1 hE1; have hc3 : ∀ o, (w1.alloc o).cell? ⟨O, 1, none⟩ = some u := fun o => ((Blk.exq XS.out.2.2.1 he1 hOF).alloc o).cell 1; have hc4 : w1.cell? ⟨O, 1, none⟩ = some u := (Blk.exq XS.out.2.2.1 he1 hOF).cell 1)
      | (refine step_append_lies _ rfl _ _ 51 rfl (O + 1) 53 i0 _ 2 40 Tryz.underlying51 hi0 hz0 hz1 hz2 rfl (by decide) u Mk.length xs rfl (by exact (Row.exq XW.out he1 (fun b hb => by have := HQO.out b hb; omega) (fun _ _ h => h)).own.alloc _) ⟨w1.heap.size, 0, none⟩ 1 1 [.string s1, .slice a1 l1 c1] rfl rfl (cell_two_new _ _ _ _) (fun x hx => by simp at hx; rcases hx with rfl | rfl <;> rfl) (by decide) HL1.out.1 HL1.out.2 (by have := he1.size; have := XS.out.2.2.2.2; simp; omega) _ rfl ?_; intro g cap w3 hown3 hgrow3 hat3 hlt3; have hB3 := hide (((Blk.exq XS.out.2.2.1 he1 hOF).alloc _).grown hgrow3 (XW.out.ne (Nat.lt_succ_self _))); have hc5 : w3.cell? ⟨O, 1, none⟩ = some u := hB3.out.cell 1; have hf5 := hB3.out.frozen 1))
     all_goals
      have HK := hide (kl_set (v := .slice (some ⟨g, 0, none⟩) (Mk.length + 1) cap) hFl HMT.out hO XS.out (fun j hj => (XW.out.own.lt j hj).1) he1 hF1 hgrow3)
      have HEV2 := hide (kl_ev (n9 := Mk.length + 1) (cap := cap) (x := .slice (some ⟨g, 0, none⟩) (Mk.length + 1) cap) hE (fun b hb => by have := HYW.out b hb; omega) EV.out (fun j hj => (XW.out.own.lt j hj).2) XS.out.2.2.2.2 he1.size HE1.out (fun b hb => (HSUB.out b hb).imp id fun h => by simp at h; omega) HFF.out hgrow3 hat3)
      have HRW : Hid (∀ y : Tm, TV w1 (fun b => wr.heap.size ≤ b) (.agg #[.string s1, .slice a1 l1 c1]) y → Row (w3.setCell ⟨O, 1, none⟩ (.slice (some ⟨g, 0, none⟩) (Mk.length + 1) cap)) (O + 1) 53 (fun _ => False) (.slice (some ⟨g, 0, none⟩) (Mk.length + 1) cap) (Mk ++ [y]) (xs ++ [.string s1, .slice a1 l1 c1])) := fun y hy => kl_row HQO.out XS.out.2.2.2.2 XW.out he1 hy hown3 hgrow3 hat3
      clear hown3 hgrow3 hat3 hc3 hc4 hc5 hf5 hB3 hF1 he1 hlt3
      go_wp2_with fail
      go_roundw
      case rel =>
       have h1 := HK.out
       have h2 := HRW.out
       have h3 := HEV2.out
       have hmm := HMM.out
       simp only [hMk] at h1 h2 h3
       refine ⟨k + 1, .slice (some ⟨g, 0, none⟩) (k + 1) cap, f1, Y1, by omega, by go_num, h3, ?_⟩
       have hgl : gL lk (l.take (k + 1)) = gL lk (l.take k) ++ [gT lk l[k]] := by rw [List.take_succ_eq_append_getElem hlt, gL_append]; simp [gL_map]
       have hf1 : f1 = false → f' = false := fun hf => by
        cases h : f' with
        | false => rfl
        | true => have := HFF.out h; rw [hf] at this; cases this
       rcases HC1.out with ⟨y, rfl, rfl, rfl, e4, e5, e6⟩ | ⟨rfl, e2⟩
       ·refine Or.inl ⟨m - sizeL [y], xs ++ [.string y.name, .slice a1 y.args.length c1], Mk ++ [y], by simp [hMk], by rw [sizeL_append]; omega, ?_, h2 y ⟨a1, c1, rfl, e5.mono fun b hb _ => by simp at hb; omega⟩, fun hf => by rw [hgl, HGD.out (hf1 hf), e6 hf]⟩
        rw [show ((m - sizeL [y] : Nat) : Int) = (m : Int) - sizeL [y] by omega]
        exact h1
       ·refine Or.inr ⟨h1, ⟨_, _, _, rfl⟩, fun hf => ?_⟩
        have h4 := e2 hf
        have h5 := HGD.out (hf1 hf)
        have h6 : sizeL (gL lk (l.take (k + 1))) = sizeL Mk + sizeL [gT lk l[k]] := by rw [hgl, sizeL_append, h5]
        have h7 : gL lk l = gL lk (l.take (k + 1)) ++ gL lk (l.drop (k + 1)) := by rw [← gL_append, List.take_append_drop]
        rw [h7, sizeL_append]
        omega
      case measure => simp [intOf]; omega
    ·have htk : l.take k = l := List.take_of_length_le (by omega)
     rw [htk] at HGD
     obtain ⟨a9, c9, hu9, hsl9⟩ := XW.out.sl
     subst hu9
     have S9 := hide hsl9
     clear hsl9
     have r0 := XS.out.2.1.c0
     have r1 := XS.out.2.1.c1
     have rf := XS.out.2.1.frozen
     have o0 := XS.out.2.2.1.c0
     have o1 := XS.out.2.2.1.c1
     go_wp2_with fail
     refine bodyPost_ret (v := .agg #[.string s, .slice a9 Mk.length c9]) (by simp [results, Tryz.results85, go_sem, World.cell?_setCell_same, World.cell?_setCell_other, r0, r1, hMk]) rfl ?_
     have hmm := HMM.out
     have hzy : sizeL [(⟨s, Mk⟩ : Tm)] = 1 + sizeL Mk := by simp [sizeL]
     refine kl_end hE hFl HYW.out hO XS.out EV.out (Or.inl ⟨⟨s, Mk⟩, rfl, rfl, by rw [hzy]; omega, by rw [hzy]; omega, S9.out.mono fun b hb _ => ?_, fun hf => by rw [HGD.out hf]⟩)
     have hb' : O + 1 ≤ b := hb.elim False.elim id
     omega
   ·have XS := hide hset
    have HBIG := hide hbig
    clear hset hbig
    have hzt : sizeL [(⟨s, gL lk l⟩ : Tm)] = 1 + sizeL (gL lk l) := by simp [sizeL]
    have f0 : ∀ o, (wr.alloc o).cell? ⟨F, 0, none⟩ = some (.int .i64 (-1)) := fun o => (XS.out.2.2.2.1.alloc o).cell 0
    by_cases hlt : k < l.length
    ·obtain ⟨b, o, a', c', rfl, d0, d1, hx⟩ := (HS.out.exq XS.out.1 (fun b hb h => by rcases h with h | h; exact (HXF.out b hb).1 h; exact (HXF.out b hb).2 h)).get (Below.refl _ _) (fun _ _ h => h) k hlt
     clear hx
     have o0 : ∀ o, (wr.alloc o).cell? ⟨O, 0, none⟩ = some (.string s) := fun o => (XS.out.2.2.1.alloc o).cell 0
     have o1 : ∀ o, (wr.alloc o).cell? ⟨O, 1, none⟩ = some (.slice a9 l9 c9) := fun o => (XS.out.2.2.1.alloc o).cell 1
     have r0 := XS.out.2.1.c0
     have r1 := XS.out.2.1.c1
     have rf := XS.out.2.1.frozen
     have hRl : w.heap.size + 1 < wr.heap.size := XS.out.2.1.lt
     go_wp2_with fail
     refine bodyPost_ret (v := .agg #[.string s, .slice a9 l9 c9]) (by simp [results, Tryz.results85, go_sem, World.cell?_setCell_same, World.cell?_setCell_other, r0, r1, hRl, World.cell?_alloc_old]) rfl ?_
     exact fl_alloc hE (kl_end hE hFl HYW.out hO XS.out EV.out (Or.inr ⟨rfl, fun hf => by rw [hzt]; exact HBIG.out hf⟩)) _
    ·have r0 := XS.out.2.1.c0
     have r1 := XS.out.2.1.c1
     have rf := XS.out.2.1.frozen
     have o0 := XS.out.2.2.1.c0
     have o1 := XS.out.2.2.1.c1
     go_wp2_with fail
     refine bodyPost_ret (v := .agg #[.string s, .slice a9 l9 c9]) (by simp [results, Tryz.results85, go_sem, World.cell?_setCell_same, World.cell?_setCell_other, r0, r1]) rfl ?_
     exact kl_end hE hFl HYW.out hO XS.out EV.out (Or.inr ⟨rfl, fun hf => by rw [hzt]; exact HBIG.out hf⟩)
theorem ffillL_any {E : Ev} {Mt : Nat → Prop} (hE : EvOk E Mt) (F S : Nat) (lk : ByteArray → Option Tm) (t : Tm) (n : Nat) (a : Option Addr) (c : Nat) (w : World) (X Y : Nat → Prop) (f : Bool) (hn : n ≤ 1000000) (hXF : ∀ b, X b → b ≠ F ∧ ¬ Mt b) (hYF : ¬ Y F) (hs : Sl w X a t.args) (hF : Blk w F #[.int .i64 (n : Int), sV S] 110) (hEv : E f Y w)
  (hL : ∀ nm, occL nm [t] → varB nm = true → LkC E Mt S (lk nm) nm) :
  Calls Tryz.prog 70 #[.pointer (some ⟨F, 0, none⟩), .agg #[.string t.name, .slice a t.args.length c]] w fun e w' => FlPost E Mt F (sV S) (gT lk t) n f Y w e w' :=
 ffillL_of hE F S lk t n a c w X Y f hn hXF hYF hs hF hEv (fun hv => hL _ (by obtain ⟨s, l⟩ := t; exact occL_node.2 (Or.inl rfl)) hv)
  (fun w' f' Y' h1 h2 h3 h4 => knotL_any hE F S lk t n _ w' X Y' f' ⟨a, c, rfl, h1⟩ hXF hn h2 h3 h4 (fun nm ho hv => hL nm (by obtain ⟨s, l⟩ := t; exact occL_node.2 (Or.inr (Or.inl ho))) hv))
def FiPost (E : Ev) (Mt : Nat → Prop) (tgt : Tm) (n : Nat) (f : Bool) (Y : Nat → Prop) (w : World) (e : Ending) (w' : World) : Prop :=
 ∃ (s' : ByteArray) (a' : Option Addr) (l' c' : Nat) (ok : Bool) (f' : Bool) (Y' : Nat → Prop), e = .returned (.tuple #[.agg #[.string s', .slice a' l' c'], .bool ok]) ∧ E f' Y' w' ∧ (∀ b, Y' b → Y b ∨ w.heap.size ≤ b) ∧ (f = true → f' = true) ∧ ExQ Mt w w' ∧
  ((ok = true ∧ ∃ y : Tm, s' = y.name ∧ l' = y.args.length ∧ sizeL [y] ≤ n ∧ Sl w' (fun b => w.heap.size ≤ b) a' y.args ∧ (f' = false → y = tgt)) ∨ (ok = false ∧ s' = ⟨#[]⟩ ∧ a' = none ∧ l' = 0 ∧ c' = 0 ∧ (f' = false → n < sizeL [tgt])))
set_option maxHeartbeats 1000000 in
theorem fillL_any {E : Ev} {Mt : Nat → Prop} (hE : EvOk E Mt) (S : Nat) (lk : ByteArray → Option Tm) (t : Tm) (n : Nat) (a : Option Addr) (c : Nat) (w : World) (X Y : Nat → Prop) (f : Bool) (hn : n ≤ 1000000) (hXM : ∀ b, X b → ¬ Mt b) (hs : Sl w X a t.args) (hEv : E f Y w)
  (hL : ∀ nm, occL nm [t] → varB nm = true → LkC E Mt S (lk nm) nm) :
  Calls Tryz.prog 51 #[.agg #[.string t.name, .slice a t.args.length c], .int .i64 (n : Int), sV S] w fun e w' => FiPost E Mt (gT lk t) n f Y w e w' := by
 have hmf : ∀ (fn : Fn) (first cap : Array Value) (w : World), (Instr.makeFunc fn first cap).run Tryz.prog w = .ok (.func fn first cap) w := fun _ _ _ _ => rfl
 have HS := hide (hs.mono (Y := fun b => X b ∧ b < w.heap.size) fun b h1 h2 => ⟨h1, h2⟩)
 have HE := hide hEv
 have HL := hide hL
 have HXM := hide hXM
 have HYW : Hid (∀ b, Y b → b < w.heap.size) := hE.inY _ _ _ hEv
 have HMT : Hid (∀ b, Mt b → b < w.heap.size) := fun b hb => HYW.out b (hE.mt _ _ _ hEv b hb)
 clear hs hEv hL hXM
 have HSV : Hid (sV S = .func (.func 110) #[.pointer (some ⟨S, 0, none⟩)] #[]) := rfl
 rw [HSV.out]
 go_enter Tryz.func51, Tryz.ntmps51
 go_wp2_with fail
 rw [← HSV.out]
 have HB3 : Hid (Below w.heap.size w (((w.alloc (.cells #[.string t.name, .slice a t.args.length c] 53)).alloc (.cells #[.string ⟨#[]⟩, .slice none 0 0] 53)).alloc (.cells #[.int .i64 (n : Int), sV S] 110))) := ((((Below.refl w.heap.size w).alloc (Nat.le_refl _) _).alloc (by simp) _).alloc (by simp; omega) _)
 have F3 : Hid (Blk (((w.alloc (.cells #[.string t.name, .slice a t.args.length c] 53)).alloc (.cells #[.string ⟨#[]⟩, .slice none 0 0] 53)).alloc (.cells #[.int .i64 (n : Int), sV S] 110)) (w.heap.size + 1 + 1) #[.int .i64 (n : Int), sV S] 110) := by
  have h := Blk.new ((w.alloc (.cells #[.string t.name, .slice a t.args.length c] 53)).alloc (.cells #[.string ⟨#[]⟩, .slice none 0 0] 53)) #[.int .i64 (n : Int), sV S] 110
  unfold Hid
  simpa using h
 have R3 : Hid (Blk (((w.alloc (.cells #[.string t.name, .slice a t.args.length c] 53)).alloc (.cells #[.string ⟨#[]⟩, .slice none 0 0] 53)).alloc (.cells #[.int .i64 (n : Int), sV S] 110)) (w.heap.size + 1) #[.string ⟨#[]⟩, .slice none 0 0] 53) := by
  have h := (Blk.new (w.alloc (.cells #[.string t.name, .slice a t.args.length c] 53)) #[.string ⟨#[]⟩, .slice none 0 0] 53).alloc (.cells #[.int .i64 (n : Int), sV S] 110)
  unfold Hid
  simpa using h
 have z3 : (((w.alloc (.cells #[.string t.name, .slice a t.args.length c] 53)).alloc (.cells #[.string ⟨#[]⟩, .slice none 0 0] 53)).alloc (.cells #[.int .i64 (n : Int), sV S] 110)).heap.size = w.heap.size + 3 := by simp
 generalize (((w.alloc (.cells #[.string t.name, .slice a t.args.length c] 53)).alloc (.cells #[.string ⟨#[]⟩, .slice none 0 0] 53)).alloc (.cells #[.int .i64 (n : Int), sV S] 110)) = w3 at *
 refine (ffillL_any hE (w.heap.size + 1 + 1) S lk t n a c w3 (fun b => X b ∧ b < w.heap.size) Y f hn (fun b hb => ⟨by have := hb.2; omega, HXM.out b hb.1⟩) (fun h => by have := HYW.out _ h; omega) (HS.out.later HB3.out) F3.out (hE.below HE.out HB3.out) HL.out).mono ?_
 rintro e w9 ⟨s', a', l', c', m, f', Y', rfl, hF9, hx9, hE9, hsub9, hff9, hc9⟩
 have HF9 := hide hF9
 have R9 := hide (R3.out.exq hx9 (fun h => by rcases h with h | h; omega; have := HMT.out _ h; omega))
 have hz9 := hx9.size
 have HXW : Hid (ExQ Mt w w9) := (ExQ.ofBelow HB3.out).transN hx9 (fun i hi hl => by rcases hi with h | h; omega; exact h)
 have HE9 := hide hE9
 have HSUB : Hid (∀ b, Y' b → Y b ∨ w.heap.size + 3 ≤ b) := fun b hb => (hsub9 b hb).imp id fun h => by omega
 have HFF := hide hff9
 have HC := hide hc9
 clear hF9 hx9 hE9 hsub9 hff9 hc9
 have r0 := R9.out.c0
 have r1 := R9.out.c1
 have rf := R9.out.frozen
 have hRl : w.heap.size + 1 < w9.heap.size := R9.out.lt
 have HKE : Hid (∀ v0 v1 o, E f' Y' (((w9.setCell ⟨w.heap.size + 1, 0, none⟩ v0).setCell ⟨w.heap.size + 1, 1, none⟩ v1).alloc o)) := fun v0 v1 o => hE.keep _ _ _ _ HE9.out fun b hb => by
  have hne : b ≠ w.heap.size + 1 := fun e => by
   rcases HSUB.out b hb with h | h
   ·have := HYW.out b h; omega
   ·omega
  have hl := hE.inY _ _ _ HE9.out b hb
  rw [Below.heap_alloc _ _ _ (by simpa [World.setCell] using hl), Below.heap_setCell _ _ _ _ (by simpa using hne), Below.heap_setCell _ _ _ _ (by simpa using hne)]
 have HSUB2 : Hid (∀ b, Y' b → Y b ∨ w.heap.size ≤ b) := fun b hb => (HSUB.out b hb).imp id fun h => by omega
 rcases HC.out with ⟨y, rfl, rfl, rfl, hle, hsl, hgd⟩ | ⟨rfl, hgd⟩
 ·have HSL := hide hsl
  have HGD := hide hgd
  clear hsl hgd
  have f0 : ∀ o, (w9.alloc o).cell? ⟨w.heap.size + 1 + 1, 0, none⟩ = some (.int .i64 ((n : Int) - sizeL [y])) := fun o => (HF9.out.alloc o).cell 0
  have hlt : ¬ ((n : Int) - sizeL [y]) < 0 := by omega
  go_wp2_with fail
  refine bodyPost_ret (v := .tuple #[.agg #[.string y.name, .slice a' y.args.length c'], .bool true]) (by simp [results, Tryz.results51, go_sem, World.cell?_setCell_same, World.cell?_setCell_other, r0, r1, hRl, World.cell?_alloc_old]) rfl ?_
  refine ⟨y.name, a', y.args.length, c', true, f', Y', rfl, HKE.out _ _ _, HSUB2.out, HFF.out, ((HXW.out.setNew (by omega) _ _).setNew (by omega) _ _).alloc _, Or.inl ⟨rfl, y, rfl, rfl, hle, ((HSL.out.kept fun b hb => ?_).later ((Below.refl _ _).alloc (Nat.le_refl _) _)).mono fun b hb _ => by omega, HGD.out⟩⟩
  rw [Below.heap_setCell _ _ _ _ (by simp; omega), Below.heap_setCell _ _ _ _ (by simp; omega)]
 ·have HGD := hide hgd
  clear hgd
  have f0 : ∀ o, (w9.alloc o).cell? ⟨w.heap.size + 1 + 1, 0, none⟩ = some (.int .i64 (-1)) := fun o => (HF9.out.alloc o).cell 0
  go_wp2_with fail
  refine bodyPost_ret (v := .tuple #[.agg #[.string ⟨#[]⟩, .slice none 0 0], .bool false]) (by simp [results, Tryz.results51, go_sem, World.cell?_setCell_same, World.cell?_setCell_other, r0, r1, hRl, World.cell?_alloc_old]) rfl ?_
  exact ⟨⟨#[]⟩, none, 0, 0, false, f', Y', rfl, HKE.out _ _ _, HSUB2.out, HFF.out, ((HXW.out.setNew (by omega) _ _).setNew (by omega) _ _).alloc _, Or.inr ⟨rfl, rfl, rfl, rfl, rfl, HGD.out⟩⟩
end Go.Proofs.YtpnhiaeijhokgaaGreatDoor
