/- Several texts in one. -/
import Derived.Test.YtofebfjkodceeaaAv15
import Derived.Test.YtofebfjkodceeaaW151
import Derived.Test.YtofebfjkodceeaaZAutoMadeOwn
namespace Go.Proofs.Ytofebfjkodceeaa
open Go.RowKit
set_option linter.unusedSimpArgs false
set_option linter.unusedVariables false
set_option maxRecDepth 8000
def EvS (P : World → Prop) (w : World) : Prop := ∀ w', Below w.heap.size w w' → P w'
theorem EvS.now {P : World → Prop} {w : World} (h : EvS P w) : P w := h w (Below.refl _ _)
theorem EvS.later {P : World → Prop} {w w' : World} (h : EvS P w) (hb : Below w.heap.size w w') : EvS P w' := fun w'' hb' => h w'' (hb.trans (hb'.mono hb.size))
theorem EvS.and {P Q : World → Prop} {w : World} (h : EvS P w) (h' : EvS Q w) : EvS (fun w => P w ∧ Q w) w := fun w' hb => ⟨h w' hb, h' w' hb⟩
theorem EvS.alloc {P : World → Prop} {w : World} (h : EvS P w) (o : Obj) : EvS P (w.alloc o) := h.later ((Below.refl _ _).alloc (Nat.le_refl _) o)
theorem evS_below {w0 w : World} (h : Below w0.heap.size w0 w) : EvS (fun w => Below w0.heap.size w0 w) w := fun w' hb => h.trans (hb.mono h.size)
theorem evS_sl {w : World} {X : Nat → Prop} {a : Option Addr} {l : List Tm} (h : Sl w X a l) : EvS (fun w => Sl w (fun _ => True) a l) w := fun w' hb => (h.later hb).mono fun _ _ _ => trivial
theorem evS_blk {w : World} {b : Nat} {cs : Array Value} {T : Nat} (h : Blk w b cs T) : EvS (fun w => Blk w b cs T) w := fun w' hb => h.below hb h.lt
theorem evS_av {w : World} {X : Nat → Prop} {v : Value} {A : Au} (h : AV w X v A) : EvS (fun w => AV w X v A) w := fun w' hb => h.later hb
theorem EvS.box {P : World → Prop} {w1 w2 : World} {Y : Nat → Prop} {t : Tm} {a : Option Addr} {T : Nat} (A : EvS P w1) (hb : Below w1.heap.size w1 w2) (hs : Sl w2 Y a t.args) (c : Nat) : EvS (fun w => P w ∧ Blk w w2.heap.size #[.string t.name, .slice a t.args.length c] T ∧ Sl w (fun _ => True) a t.args) (w2.alloc (.cells #[.string t.name, .slice a t.args.length c] T)) :=
 ((A.later hb).alloc _).and ((evS_blk (Blk.new w2 _ _)).and ((evS_sl hs).alloc _))
theorem rng_third {y : Int} (h : Rng y) : Rng (y.tdiv 3) := by
 unfold Rng at *
 have h1 : (y.tdiv 3).natAbs ≤ y.natAbs := by rw [Int.natAbs_tdiv]; exact Nat.div_le_self _ _
 rcases Int.le_total 0 y with h0 | h0
 ·have h2 := Int.tdiv_nonneg h0 (show (0 : Int) ≤ 3 by decide)
  omega
 ·have h2 := Int.tdiv_nonneg (a := -y) (by omega) (show (0 : Int) ≤ 3 by decide)
  rw [Int.neg_tdiv] at h2
  omega
theorem rng_wrap (y : Int) : Rng (wrap64 y) := by
 unfold Rng wrap64
 omega
def AfMd (w : World) (e : Ending) (w' : World) : Prop := ∃ (v : Value) (A : Au), e = .returned v ∧ AV w' (fun _ => True) v A ∧ Below w.heap.size w w'
def TrMd (w : World) (e : Ending) (w' : World) : Prop := e = .returned (.bool true) ∧ Below w.heap.size w w'
set_option maxHeartbeats 20000000 in
theorem autoMade_from (zs : List Int) (hr : ∀ z ∈ zs, Rng z) (y1 y2 y3 : Int) (hy1 : Rng y1) (hy2 : Rng y2) (hy3 : Rng y3) (u : Value) (w : World) (X : Nat → Prop) (hu : PV w X u zs)
  (AF : Hid (zs.length ≤ 256 → ∀ (i : Int) (k m : Nat) (w' : World), i = 0 ∨ i = 60 → k < 3 → m < 9 → Below w.heap.size w w' → Calls Try.prog 4 #[u, .int .i64 i, .int .i64 (1 + (k : Int)), .int .i64 (m : Int)] w' fun e w'' => AfMd w' e w''))
  (AS : Hid (∀ (A : Au) (t : Tm) (va vt : Value) (w : World) (X : Nat → Prop) (hva : AV w X va A) (hvt : TV w X vt t), Calls Try.prog 7 #[va, vt] w (TrMd w)))
  (AP : Hid (∀ (A B : Au) (t : Tm) (va vb vt : Value) (w : World) (X : Nat → Prop) (hva : AV w X va A) (hvb : AV w X vb B) (hvt : TV w X vt t), Calls Try.prog 8 #[va, vb, vt] w (TrMd w)))
  (AK : Hid (∀ (A B : Au) (va vb : Value) (w : World) (X : Nat → Prop) (hva : AV w X va A) (hvb : AV w X vb B), Calls Try.prog 9 #[va, vb] w (TrMd w))) :
  Calls Try.prog 3 #[u, .int .i64 y1, .int .i64 y2, .int .i64 y3] w fun e w' => e = .returned (.bool true) ∧ Below w.heap.size w w' := by
 have HU := hide hu
 obtain ⟨au, cu, rfl, hlc, hu2⟩ := hu
 clear hu2
 by_cases h256 : 256 < zs.length
 ·go_enter Try.func3, Try.ntmps3
  go_wp2_with fail
  go_ret
  exact ⟨rfl, Below.refl _ _⟩
 go_enter Try.func3, Try.ntmps3
 go_wp2_with fail
 refine (pick_any _ 3 (by decide) (by decide) hy1 _).mono ?_
 rintro e w2 ⟨k, rfl, hk, hw2⟩
 rw [hw2]
 clear hw2 w2
 go_wp2_with fail
 refine (pick_any _ 9 (by decide) (by decide) hy2 _).mono ?_
 rintro e w2 ⟨m, rfl, hm, hw2⟩
 rw [hw2]
 clear hw2 w2
 go_wp2_with fail
 refine (AF.out (by omega) 0 k m _ (Or.inl rfl) hk hm (Below.refl _ _)).mono ?_
 rintro e w2 ⟨v, A, rfl, hav, hb2⟩
 have AV2 := hide hav
 obtain ⟨am, cm, al, cl, rfl, -, -⟩ := hav
 have A3 : Hid (EvS (fun wr => (Blk wr w2.heap.size #[.int .i64 A.st, .slice am A.mv.length cm, .slice al A.la.length cl] 25 ∧ AV wr (fun _ => True) (.agg #[.int .i64 A.st, .slice am A.mv.length cm, .slice al A.la.length cl]) A) ∧ Below w.heap.size w wr) (w2.alloc (.cells #[.int .i64 A.st, .slice am A.mv.length cm, .slice al A.la.length cl] 25))) := ((evS_blk (Blk.new w2 _ _)).and ((evS_av AV2.out).alloc _)).and ((evS_below hb2).alloc _)
 clear hb2 AV2 hk hm
 go_upto_region 4 with fail
 generalize w2.heap.size = PA at *
 generalize w2.alloc (.cells #[.int .i64 A.st, .slice am A.mv.length cm, .slice al A.la.length cl] 25) = w3 at *
 clear w2
 go_wp2_with fail
 refine (pick_any _ 3 (by decide) (by decide) hy3 _).mono ?_
 rintro e w2 ⟨k2, rfl, hk, hw2⟩
 rw [hw2]
 clear hw2 w2
 go_wp2_with fail
 refine (pick_any _ 9 (by decide) (by decide) (by first | exact rng_third hy3 | exact rng_wrap _) _).mono ?_
 rintro e w2 ⟨m2, rfl, hm, hw2⟩
 rw [hw2]
 clear hw2 w2
 go_wp2_with fail
 refine (AF.out (by omega) 60 k2 m2 _ (Or.inr rfl) hk hm A3.out.now.2).mono ?_
 rintro e w4 ⟨v, B, rfl, hav, hb4⟩
 have BV4 := hide hav
 obtain ⟨bm, dm, bl, dl, rfl, -, -⟩ := hav
 have A5 : Hid (EvS (fun wr => ((Blk wr PA #[.int .i64 A.st, .slice am A.mv.length cm, .slice al A.la.length cl] 25 ∧ AV wr (fun _ => True) (.agg #[.int .i64 A.st, .slice am A.mv.length cm, .slice al A.la.length cl]) A) ∧ Below w.heap.size w wr) ∧ Blk wr w4.heap.size #[.int .i64 B.st, .slice bm B.mv.length dm, .slice bl B.la.length dl] 25 ∧ AV wr (fun _ => True) (.agg #[.int .i64 B.st, .slice bm B.mv.length dm, .slice bl B.la.length dl]) B) (w4.alloc (.cells #[.int .i64 B.st, .slice bm B.mv.length dm, .slice bl B.la.length dl] 25))) := ((A3.out.later hb4).alloc _).and ((evS_blk (Blk.new w4 _ _)).and ((evS_av BV4.out).alloc _))
 clear hb4 BV4 A3 hk hm AF
 go_upto_region 5 with fail
 generalize w4.heap.size = PB at *
 generalize w4.alloc (.cells #[.int .i64 B.st, .slice bm B.mv.length dm, .slice bl B.la.length dl] 25) = w5 at *
 clear w4
 go_wp2_with fail
 refine (ground_any zs hr (by omega) 12 20 _ _ X (by exact HU.out.later A5.out.now.1.2) (by decide) (by decide)).mono ?_
 rintro e w6 ⟨at0, ct, n1, t, rfl, hs6, _, _, _, hb6, _, _⟩
 have A7 := hide (A5.out.box (T := 30) hb6 hs6 ct)
 clear hs6 hb6 A5
 go_upto_region 6 with fail
 generalize w6.heap.size = PT at *
 generalize w6.alloc (.cells #[.string t.name, .slice at0 t.args.length ct] 30) = w7 at *
 clear w6 w3
 have CE : Hid (∀ w', Below w7.heap.size w7 w' → (w'.cell? ⟨PA, 0, none⟩ = some (.int .i64 A.st) ∧ w'.cell? ⟨PA, 1, none⟩ = some (.slice am A.mv.length cm) ∧ w'.cell? ⟨PA, 2, none⟩ = some (.slice al A.la.length cl)) ∧ (w'.cell? ⟨PB, 0, none⟩ = some (.int .i64 B.st) ∧ w'.cell? ⟨PB, 1, none⟩ = some (.slice bm B.mv.length dm) ∧ w'.cell? ⟨PB, 2, none⟩ = some (.slice bl B.la.length dl)) ∧ w'.cell? ⟨PT, 0, none⟩ = some (.string t.name) ∧ w'.cell? ⟨PT, 1, none⟩ = some (.slice at0 t.args.length ct)) := fun w' hb => by
  obtain ⟨⟨⟨⟨h1, _⟩, _⟩, h2, _⟩, h3, _⟩ := A7.out w' hb
  exact ⟨⟨h1.cell 0, h1.cell 1, h1.cell 2⟩, ⟨h2.cell 0, h2.cell 1, h2.cell 2⟩, h3.cell 0, h3.cell 1⟩
 have K0 := hide (Below.refl w7.heap.size w7)
 have VA : Hid (∀ w', Below w7.heap.size w7 w' → AV w' (fun _ => True) (.agg #[.int .i64 A.st, .slice am A.mv.length cm, .slice al A.la.length cl]) A) := fun w' hb => (A7.out w' hb).1.1.1.2
 have VB : Hid (∀ w', Below w7.heap.size w7 w' → AV w' (fun _ => True) (.agg #[.int .i64 B.st, .slice bm B.mv.length dm, .slice bl B.la.length dl]) B) := fun w' hb => (A7.out w' hb).1.2.2
 have VT : Hid (∀ w', Below w7.heap.size w7 w' → TV w' (fun _ => True) (.agg #[.string t.name, .slice at0 t.args.length ct]) t) := fun w' hb => ⟨_, _, rfl, (A7.out w' hb).2.2⟩
 have UP : Hid (∀ w', Below w7.heap.size w7 w' → Below w.heap.size w w') := fun w' hb => (A7.out w' hb).1.1.2
 clear A7
 obtain ⟨⟨a0, a1, a2⟩, ⟨b0, b1, b2⟩, x0, x1⟩ := CE.out w7 K0.out
 go_wp2_with fail
 refine (AS.out A t _ _ _ _ (VA.out _ K0.out) (VT.out _ K0.out)).mono ?_
 rintro e w8 ⟨rfl, hb⟩
 have K8 := hide (K0.out.trans (hb.mono K0.out.size))
 clear hb a0 a1 a2 b0 b1 b2 x0 x1
 obtain ⟨⟨a0, a1, a2⟩, ⟨b0, b1, b2⟩, x0, x1⟩ := CE.out w8 K8.out
 go_wp2_with fail
 refine (AP.out A B t _ _ _ _ _ (VA.out _ K8.out) (VB.out _ K8.out) (VT.out _ K8.out)).mono ?_
 rintro e w9 ⟨rfl, hb⟩
 have K9 := hide (K8.out.trans (hb.mono K8.out.size))
 clear hb a0 a1 a2 b0 b1 b2 x0 x1
 obtain ⟨⟨a0, a1, a2⟩, ⟨b0, b1, b2⟩, x0, x1⟩ := CE.out w9 K9.out
 go_wp2_with fail
 refine (AK.out A B _ _ _ _ (VA.out _ K9.out) (VB.out _ K9.out)).mono ?_
 rintro e w10 ⟨rfl, hb⟩
 have K10 := hide (K9.out.trans (hb.mono K9.out.size))
 clear hb a0 a1 a2 b0 b1 b2 x0 x1
 go_wp2_with fail
 go_ret
 exact ⟨rfl, UP.out _ K10.out⟩
end Go.Proofs.Ytofebfjkodceeaa
