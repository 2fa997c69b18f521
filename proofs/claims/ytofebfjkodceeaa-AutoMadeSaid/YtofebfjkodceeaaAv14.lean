import Derived.Test.YtofebfjkodceeaaAv13
import Derived.Test.YtofebfjkodceeaaZUAutoMadeOwn
import Derived.Test.YtofebfjkodceeaaAu12
import Derived.Test.YtofebfjkodceeaaZBAutoMadeOwn
import Derived.Test.YtofebfjkodceeaaZEAutoMadeOwn
namespace Go.Proofs.Ytofebfjkodceeaa
open Go.RowKit
set_option linter.unusedSimpArgs false
set_option linter.unusedVariables false
set_option maxRecDepth 8000
theorem agT_trans {a b c : Tm} (h1 : agT a b = true) (h2 : agT b c = true) : agT a c = true := by
 unfold agT at *
 split at h1 <;> split at h2
 ·rename_i e1 e2
  rw [if_pos (by omega)]
  exact ltB_trans h1 h2
 ·rename_i e1 e2
  have := of_decide_eq_true h2
  rw [if_neg (by omega)]
  exact decide_eq_true (by omega)
 ·rename_i e1 e2
  have := of_decide_eq_true h1
  rw [if_neg (by omega)]
  exact decide_eq_true (by omega)
 ·have h3 := of_decide_eq_true h1
  have h4 := of_decide_eq_true h2
  rw [if_neg (by omega)]
  exact decide_eq_true (by omega)
theorem agT_irrefl (a : Tm) : agT a a = false := by unfold agT; rw [if_pos rfl]; exact ltB_irrefl _
theorem agT_conn {a b : Tm} (ha : OkT a) (hb : OkT b) (h1 : agT a b = false) (h2 : agT b a = false) : a = b := by
 unfold agT at *
 by_cases e : sizeL [a] = sizeL [b]
 ·rw [if_pos e] at h1
  rw [if_pos e.symm] at h2
  have h3 := ltB_conn h1 h2
  refine txt_inj ha.err hb.err ?_
  unfold txB at h3
  simp only [ByteArray.mk.injEq] at h3
  have h4 := congrArg Array.toList h3
  simpa using h4
 ·rw [if_neg e] at h1
  rw [if_neg (fun h => e h.symm)] at h2
  have h3 := of_decide_eq_false h1
  have h4 := of_decide_eq_false h2
  omega
theorem agT_ntrans {a b c : Tm} (h1 : agT a b = false) (h2 : agT b c = false) : agT a c = false := by
 unfold agT at *
 split at h1 <;> split at h2
 ·rename_i e1 e2
  rw [if_pos (by omega)]
  exact ltB_ntrans h1 h2
 ·rename_i e1 e2
  have := of_decide_eq_false h2
  rw [if_neg (by omega)]
  exact decide_eq_false (by omega)
 ·rename_i e1 e2
  have := of_decide_eq_false h1
  rw [if_neg (by omega)]
  exact decide_eq_false (by omega)
 ·rename_i e1 e2
  have h3 := of_decide_eq_false h1
  have h4 := of_decide_eq_false h2
  rw [if_neg (by omega)]
  exact decide_eq_false (by omega)
theorem bst_min {st : Fs} : ∀ (l : List Int) (acc : Option Tm), (l.foldl (bstS st) acc = none → acc = none ∧ ∀ s ∈ l, atF st s = none) ∧ ∀ t, l.foldl (bstS st) acc = some t → (∀ a, acc = some a → agT a t = false) ∧ ∀ s ∈ l, ∀ u, atF st s = some u → agT u t = false
 | [], acc => ⟨fun h => ⟨h, by simp⟩, fun t h => ⟨fun a e => by rw [List.foldl_nil] at h; rw [e] at h; cases h; exact agT_irrefl _, by simp⟩⟩
 | s :: r, acc => by
  obtain ⟨h1, h2⟩ := bst_min r (bstS st acc s)
  constructor
  ·intro h
   obtain ⟨h3, h4⟩ := h1 h
   unfold bstS at h3
   split at h3
   ·rename_i h5
    rw [h3] at h5
    simp [ahO] at h5
   ·rename_i h5
    refine ⟨h3, fun x hx => ?_⟩
    rcases List.mem_cons.1 hx with rfl | hx
    ·cases e : atF st x with
     | none => rfl
     | some u => rw [e, h3] at h5; simp [ahO] at h5
    ·exact h4 x hx
  ·intro t h
   obtain ⟨h3, h4⟩ := h2 t h
   by_cases h5 : ahO (atF st s) acc = true
   ·have e1 : bstS st acc s = atF st s := by unfold bstS; rw [if_pos h5]
    rw [e1] at h3
    cases e2 : atF st s with
    | none => rw [e2] at h5; simp [ahO] at h5
    | some u =>
     have h6 := h3 u e2
     refine ⟨fun a ea => ?_, fun x hx v hv => ?_⟩
     ·rw [e2, ea] at h5
      have h7 : agT u a = true := h5
      cases h8 : agT a t with
      | false => rfl
      | true => rw [agT_trans h7 h8] at h6; cases h6
     ·rcases List.mem_cons.1 hx with rfl | hx
      ·rw [e2] at hv; cases hv; exact h6
      ·exact h4 x hx v hv
   ·have e1 : bstS st acc s = acc := by unfold bstS; rw [if_neg h5]
    rw [e1] at h3
    refine ⟨h3, fun x hx v hv => ?_⟩
    rcases List.mem_cons.1 hx with rfl | hx
    ·rw [hv] at h5
     cases ea : acc with
     | none => rw [ea] at h5; simp [ahO] at h5
     | some a =>
      rw [ea] at h5
      have h7 : agT v a = false := by simpa [ahO] using h5
      have h6 := h3 a ea
      cases h8 : agT v t with
      | false => rfl
      | true =>
       exfalso
       have hne : ¬ agT a t = true := by rw [h6]; decide
       -- t is not behind a, v is not ahead of a, yet v is ahead of t
       have h9 := agT_ntrans h7 h6
       rw [h9] at h8; cases h8
    ·exact h4 x hx v hv
theorem bst_same {st : Fs} (hok : OkF st) {l k : List Int} (h : ∀ s, s ∈ l ↔ s ∈ k) : bstF st l = bstF st k := by
 cases e1 : bstF st l with
 | none =>
  have h1 := ((bst_min (st := st) l none).1 e1).2
  cases e2 : bstF st k with
  | none => rfl
  | some t =>
   rcases bst_in k none e2 with h2 | ⟨s, hs, h2⟩
   ·cases h2
   ·rw [h1 s ((h s).2 hs)] at h2; cases h2
 | some t =>
  have h1 := ((bst_min (st := st) l none).2 t e1).2
  rcases bst_in l none e1 with h2 | ⟨s, hs, h2⟩
  ·cases h2
  ·cases e2 : bstF st k with
   | none => have h3 := ((bst_min (st := st) k none).1 e2).2; rw [h3 s ((h s).1 hs)] at h2; cases h2
   | some u =>
    have h3 := ((bst_min (st := st) k none).2 u e2).2
    rcases bst_in k none e2 with h4 | ⟨x, hx, h4⟩
    ·cases h4
    ·have h5 := h1 x ((h x).2 hx) u h4
     have h6 := h3 s ((h s).1 hs) t h2
     rw [agT_conn (hok s t h2) (hok x u h4) h6 h5]
theorem accE_ok {A : Au} {t : Tm} (h : accE A t = 0) : OkAu 8 40 A ∧ sizeL [t] ≤ 200 := by
 unfold accE at h
 split at h
 ·rename_i h1
  split at h
  ·rename_i h2
   exact ⟨auE_zero.1 h1, (mayE_errA h2).2⟩
  ·rename_i h2; exact absurd h h2
 ·rename_i h1; exact absurd h h1
structure AsW (w : World) (ac tc : Array Value) (w' : World) : Prop where
 bl : Below w.heap.size w w'
 ka : Blk w' w.heap.size ac 25
 kb : Blk w' (w.heap.size + 1) tc 30
theorem AsW.later {w w1 w2 : World} {ac tc : Array Value} (h : AsW w ac tc w1) (hb : Below w1.heap.size w1 w2) : AsW w ac tc w2 :=
 ⟨h.bl.trans (hb.mono h.bl.size), h.ka.below hb h.ka.lt, h.kb.below hb h.kb.lt⟩
theorem AsW.set {w w' : World} {ac tc : Array Value} (h : AsW w ac tc w') {C : Nat} (hC : w.heap.size + 2 ≤ C) (i : Nat) (v : Value) : AsW w ac tc (w'.setCell ⟨C, i, none⟩ v) :=
 ⟨h.bl.setCell (p := ⟨C, i, none⟩) (by simp; omega) v, h.ka.setOther (b' := C) i v (by omega), h.kb.setOther (b' := C) i v (by omega)⟩
structure AsE (w : World) (A : Au) (ac tc : Array Value) (C : Nat) (q : Value) (w' : World) : Prop where
 bx : AsW w ac tc w'
 ex : ∃ (g : Int) (x : Tm) (a : Option Addr) (c : Nat), q = .int .i64 g ∧ Blk w' C #[.string x.name, .slice a x.args.length c] 30 ∧
  ((auE 8 40 A ≠ 0 ∧ g = auE 8 40 A) ∨ (auE 8 40 A = 0 ∧ ∃ (n : Nat) (st : Fs), A.st = (n : Int) ∧ FinF A.mv (List.replicate n none) st ∧ OkF st ∧ ((bstF st A.la = none ∧ g = 7) ∨ (bstF st A.la = some x ∧ g = 0 ∧ Sl w' (fun b => b ≠ C) a x.args))))
set_option maxHeartbeats 8000000 in
theorem autoSays_any (A : Au) (t : Tm) (va vt : Value) (w : World) (X : Nat → Prop) (hva : AV w X va A) (hvt : TV w X vt t) :
  Calls Try.prog 7 #[va, vt] w fun e w' => e = .returned (.bool true) ∧ Below w.heap.size w w' := by
 obtain ⟨am, cm, al, cl, rfl, hm, hla⟩ := hva
 obtain ⟨aw, ct, rfl, hst⟩ := hvt
 have W2 : Hid (AsW w #[.int .i64 A.st, .slice am A.mv.length cm, .slice al A.la.length cl] #[.string t.name, .slice aw t.args.length ct] ((w.alloc (.cells #[.int .i64 A.st, .slice am A.mv.length cm, .slice al A.la.length cl] 25)).alloc (.cells #[.string t.name, .slice aw t.args.length ct] 30))) := by
  refine ⟨((Below.refl _ _).alloc (Nat.le_refl _) _).alloc (by simp) _, (Blk.new _ _ _).alloc _, ?_⟩
  have h := Blk.new (w.alloc (.cells #[.int .i64 A.st, .slice am A.mv.length cm, .slice al A.la.length cl] 25)) #[.string t.name, .slice aw t.args.length ct] 30
  rw [World.size_alloc] at h
  exact h
 have VA : Hid (∀ w', Below w.heap.size w w' → AV w' X (.agg #[.int .i64 A.st, .slice am A.mv.length cm, .slice al A.la.length cl]) A) := fun w' hb => ⟨am, cm, al, cl, rfl, hm.later hb, hla.later hb⟩
 have VT : Hid (∀ w', Below w.heap.size w w' → TV w' X (.agg #[.string t.name, .slice aw t.args.length ct]) t) := fun w' hb => ⟨aw, ct, rfl, hst.later hb⟩
 have c0 := W2.out.ka.cell 0
 have c1 := W2.out.ka.cell 1
 have c2 := W2.out.ka.cell 2
 clear hm hla hst
 go_enter Try.func7, Try.ntmps7
 go_wp2_with fail
 generalize ((w.alloc (.cells #[.int .i64 A.st, .slice am A.mv.length cm, .slice al A.la.length cl] 25)).alloc (.cells #[.string t.name, .slice aw t.args.length ct] 30)) = w2 at *
 refine (hugeAuto_any A _ _ _ (VA.out _ W2.out.bl)).mono ?_
 rintro e w3 ⟨rfl, hb3⟩
 have W3 := hide (W2.out.later hb3)
 clear hb3 c0 c1 c2 W2
 cases hh : hugA A with
 | true =>
  clear hh
  go_wp2_with fail
  go_ret
  exact ⟨rfl, W3.out.bl⟩
 | false =>
  clear hh
  have d0 := W3.out.kb.cell 0
  have d1 := W3.out.kb.cell 1
  go_wp2_with fail
  refine (huge_any t _ _ _ (VT.out _ W3.out.bl)).mono ?_
  rintro e w4 ⟨rfl, hb4⟩
  have W4 := hide (W3.out.later hb4)
  clear hb4 d0 d1 W3
  by_cases hht : 3000 < sizeL [t]
  ·rw [decide_eq_true hht]
   go_wp2_with fail
   go_ret
   exact ⟨rfl, W4.out.bl⟩
  ·rw [decide_eq_false hht]
   clear hht
   have c0 := W4.out.ka.cell 0
   have c1 := W4.out.ka.cell 1
   have c2 := W4.out.ka.cell 2
   go_wp2_with fail
   refine (autoMay_any A 8 40 (by omega) (by omega) _ _ _ (VA.out _ W4.out.bl)).mono ?_
   rintro e w5 ⟨rfl, hb5⟩
   have W5 := hide (W4.out.later hb5)
   clear hb5 c0 c1 c2 W4
   obtain ⟨E, hE⟩ : ∃ E, E = auE 8 40 A := ⟨_, rfl⟩
   rw [← hE]
   have HE := hide hE
   clear hE
   go_upto_if 26 with fail
   go_cut [6] (fun q w' => q = .int .i64 (if E = 0 then mayE t else E) ∧ AsW w #[.int .i64 A.st, .slice am A.mv.length cm, .slice al A.la.length cl] #[.string t.name, .slice aw t.args.length ct] w')
   case first =>
    have d0 := W5.out.kb.cell 0
    have d1 := W5.out.kb.cell 1
    by_cases h0 : E = 0
    ·have hz : (E == 0) = true := by simp [h0]
     have H0 := hide h0
     clear h0
     go_wp2_with fail
     refine (termMay_any t _ _ _ (VT.out _ W5.out.bl)).mono ?_
     rintro e w6 ⟨rfl, hb6⟩
     have W6 := hide (W5.out.later hb6)
     clear hb6 d0 d1
     go_wp2_with fail
     go_meet
     exact ⟨by rw [if_pos H0.out], W6.out⟩
    ·have hz : (E == 0) = false := by simp [h0]
     have H0 := hide h0
     clear h0
     go_wp2_with fail
     go_meet
     exact ⟨by rw [if_neg H0.out], W5.out⟩
   case rest =>
    obtain ⟨hq, hw6⟩ := hcut
    obtain ⟨f, hf⟩ : ∃ f : Int, f = (if E = 0 then mayE t else E) := ⟨_, rfl⟩
    rw [← hf] at hq
    subst hq
    have HF := hide hf
    rename World => w6
    have W6 := hide hw6
    clear hf hw6 W5
    go_upto_region 7 with fail
    go_cut [36] (fun q w' => q = .bool (decide (f = 0) && opnB t) ∧ AsW w #[.int .i64 A.st, .slice am A.mv.length cm, .slice al A.la.length cl] #[.string t.name, .slice aw t.args.length ct] w')
    case first =>
     have d0 := W6.out.kb.cell 0
     have d1 := W6.out.kb.cell 1
     by_cases h0 : f = 0
     ·have hz : (f == 0) = true := by simp [h0]
      have H0 := hide h0
      have HSZ : Hid (sizeL [t] ≤ 1000000) := by
       have h1 := HF.out
       rw [h0] at h1
       have h2 : mayE t = 0 := by
        by_cases hE0 : E = 0
        ·rw [if_pos hE0] at h1; exact h1.symm
        ·rw [if_neg hE0] at h1; exact absurd h1.symm hE0
       have := (mayE_errA h2).2
       unfold Hid; omega
      clear h0
      go_wp2_with fail
      refine (varsOf_any t _ _ _ (VT.out _ W6.out.bl) HSZ.out).mono ?_
      rintro e w7 ⟨v7, rfl, hlv, hb7⟩
      have W7 := hide (W6.out.later hb7)
      obtain ⟨a7, c7, rfl, hl7, _⟩ := hlv
      have hop := opn_vars t
      obtain ⟨m7, hm7⟩ : ∃ m7, m7 = (varsP [] (preL [t])).length := ⟨_, rfl⟩
      rw [← hm7] at hop hl7 ⊢
      have HOP : Hid (decide (0 < m7) = opnB t) := by
       unfold Hid
       cases ho : opnB t with
       | true => exact decide_eq_true (hop.2 ho)
       | false => exact decide_eq_false (fun h => by rw [hop.1 h] at ho; cases ho)
      clear hop hb7 d0 d1 hm7
      go_wp2_with fail
      go_meet
      exact ⟨by rw [decide_eq_true H0.out, Bool.true_and, ← HOP.out], W7.out⟩
     ·have hz : (f == 0) = false := by simp [h0]
      have H0 := hide h0
      clear h0
      go_wp2_with fail
      go_meet
      exact ⟨by rw [decide_eq_false H0.out]; rfl, W6.out⟩
    case rest =>
     obtain ⟨rfl, hw7⟩ := hcut
     rename World => w7
     have W7 := hide hw7
     clear hw7 W6
     have HACC : Hid (accE A t = if (decide (f = 0) && opnB t) = true then 15 else f) := by
      unfold Hid accE
      rw [← HE.out, HF.out]
      by_cases hE0 : E = 0
      ·rw [if_pos hE0, if_pos hE0]
       by_cases hM0 : mayE t = 0
       ·rw [if_pos hM0]
        cases opnB t <;> simp [hM0]
       ·rw [if_neg hM0, decide_eq_false hM0]; simp
      ·rw [if_neg hE0, if_neg hE0, decide_eq_false hE0]; simp
     go_upto_if 36 with fail
     go_cut [6] (fun q w' => q = .int .i64 (accE A t) ∧ AsW w #[.int .i64 A.st, .slice am A.mv.length cm, .slice al A.la.length cl] #[.string t.name, .slice aw t.args.length ct] w')
     case first =>
      cases hb : (decide (f = 0) && opnB t) with
      | true =>
       have HH : Hid (accE A t = 15) := by unfold Hid; rw [HACC.out, if_pos hb]
       clear hb
       go_wp2_with fail
       go_meet
       exact ⟨by rw [HH.out], W7.out⟩
      | false =>
       have HH : Hid (accE A t = f) := by unfold Hid; rw [HACC.out, if_neg (by rw [hb]; decide)]
       clear hb
       go_wp2_with fail
       go_meet
       exact ⟨by rw [HH.out], W7.out⟩
     case rest =>
      obtain ⟨hq, hw8⟩ := hcut
      rename World => w8
      obtain ⟨F, hF⟩ : ∃ F : Int, F = accE A t := ⟨_, rfl⟩
      rw [← hF] at hq
      subst hq
      have HFA := hide hF
      have W8 := hide hw8
      clear hw8 hF W7 HACC
      go_upto_if 38 with fail
      go_cut [7] (fun q w' => q = .bool (if accE A t = 0 then accB A t else false) ∧ AsW w #[.int .i64 A.st, .slice am A.mv.length cm, .slice al A.la.length cl] #[.string t.name, .slice aw t.args.length ct] w')
      case first =>
       have c0 := W8.out.ka.cell 0
       have c1 := W8.out.ka.cell 1
       have c2 := W8.out.ka.cell 2
       have d0 := W8.out.kb.cell 0
       have d1 := W8.out.kb.cell 1
       by_cases h0 : F = 0
       ·have hz : (F == 0) = true := by simp [h0]
        have H0 : Hid (accE A t = 0) := by unfold Hid; rw [← HFA.out, h0]
        have HOK := hide (accE_ok H0.out)
        clear h0
        go_wp2_with fail
        refine (acceptsOf_any A (S := 8) (M := 40) (by omega) (by omega) HOK.out.1 t HOK.out.2 _ _ _ _ (VA.out _ W8.out.bl) (VT.out _ W8.out.bl)).mono ?_
        rintro e w9 ⟨rfl, hb9⟩
        have W9 := hide (W8.out.later hb9)
        clear hb9 c0 c1 c2 d0 d1
        go_wp2_with fail
        go_meet
        exact ⟨by rw [if_pos H0.out], W9.out⟩
       ·have hz : (F == 0) = false := by simp [h0]
        have H0 : Hid (¬ accE A t = 0) := by unfold Hid; rw [← HFA.out]; exact h0
        clear h0
        go_wp2_with fail
        go_meet
        exact ⟨by rw [if_neg H0.out], W8.out⟩
      case rest =>
       obtain ⟨hq, hw9⟩ := hcut
       rename World => w9
       obtain ⟨b0, hb0⟩ : ∃ b0 : Bool, b0 = (if accE A t = 0 then accB A t else false) := ⟨_, rfl⟩
       rw [← hb0] at hq
       subst hq
       have HB0 := hide hb0
       have W9 := hide hw9
       have W10 := hide (hw9.later (one1 w9 (.cells #[.string ⟨#[]⟩, .slice none 0 0] 30)))
       have C10 : Hid (Blk (w9.alloc (.cells #[.string ⟨#[]⟩, .slice none 0 0] 30)) w9.heap.size #[.string ⟨#[]⟩, .slice none 0 0] 30) := Blk.new _ _ _
       have CL : Hid (w.heap.size + 2 ≤ w9.heap.size) := hw9.kb.lt
       clear hw9 hb0 W8
       go_upto_if 45 with fail
       generalize (w9.alloc (.cells #[.string ⟨#[]⟩, .slice none 0 0] 30)) = w10 at *
       generalize w9.heap.size = C at *
       clear W9
       go_cut [8] (fun q w' => AsE w A #[.int .i64 A.st, .slice am A.mv.length cm, .slice al A.la.length cl] #[.string t.name, .slice aw t.args.length ct] C q w')
       case first =>
        by_cases h0 : E = 0
        ·have hz : (E == 0) = true := by simp [h0]
         have H0 : Hid (auE 8 40 A = 0) := by unfold Hid; rw [← HE.out, h0]
         have OK := auE_zero.1 H0.out
         obtain ⟨n, hn⟩ : ∃ n : Nat, A.st = (n : Int) := ⟨A.st.toNat, by have := OK.pos; omega⟩
         have HN := hide hn
         have HOK := hide OK
         clear h0 OK hn
         have c0 := W10.out.ka.cell 0
         have c1 := W10.out.ka.cell 1
         have c2 := W10.out.ka.cell 2
         go_wp2_with fail
         refine (someOf_any A HOK.out n HN.out _ _ _ (VA.out _ W10.out.bl)).mono ?_
         rintro e w11 ⟨hb11, st, hfin, hokf, hln, hor⟩
         have FIN := hide hfin
         have OKF := hide hokf
         have W11 := hide (W10.out.later hb11)
         have C11 := hide (C10.out.below hb11 C10.out.lt)
         clear hfin hokf hln hb11 c0 c1 c2
         have HC10 : Hid (C < w10.heap.size) := C10.out.lt
         rcases hor with ⟨hbn, rfl⟩ | ⟨x, ax, cx, hbn, rfl, hsx⟩
         ·have HBN := hide hbn
          have W12 := hide (W11.out.later (one1 w11 (.cells #[.string ⟨#[]⟩, .slice none 0 0] 30)))
          have C12 := hide (C11.out.alloc (.cells #[.string ⟨#[]⟩, .slice none 0 0] 30))
          have D12 : Hid (Blk (w11.alloc (.cells #[.string ⟨#[]⟩, .slice none 0 0] 30)) w11.heap.size #[.string ⟨#[]⟩, .slice none 0 0] 30) := Blk.new _ _ _
          clear hbn
          go_upto_region 16 with fail
          generalize (w11.alloc (.cells #[.string ⟨#[]⟩, .slice none 0 0] 30)) = w12 at *
          have e0 := C12.out.cell 0
          have e1 := C12.out.cell 1
          have ef := C12.out.frozen
          have el := C12.out.lt
          have f0 := D12.out.cell 0
          have f1 := D12.out.cell 1
          go_wp2_with fail
          go_meet
          exact ⟨(W12.out.set CL.out 0 _).set CL.out 1 _, 7, ⟨⟨#[]⟩, []⟩, none, 0, rfl, (C12.out.set 0 _).set 1 _, Or.inr ⟨H0.out, n, st, HN.out, FIN.out, OKF.out, Or.inl ⟨HBN.out, rfl⟩⟩⟩
         ·have HBN := hide hbn
          have W12 := hide (W11.out.later (one1 w11 (.cells #[.string x.name, .slice ax x.args.length cx] 30)))
          have C12 := hide (C11.out.alloc (.cells #[.string x.name, .slice ax x.args.length cx] 30))
          have D12 : Hid (Blk (w11.alloc (.cells #[.string x.name, .slice ax x.args.length cx] 30)) w11.heap.size #[.string x.name, .slice ax x.args.length cx] 30) := Blk.new _ _ _
          have S12 := hide ((hsx.mono (Y := fun b => b ≠ C) fun b h _ => by have := HC10.out; omega).later (one1 w11 (.cells #[.string x.name, .slice ax x.args.length cx] 30)))
          clear hbn hsx
          go_upto_region 16 with fail
          generalize (w11.alloc (.cells #[.string x.name, .slice ax x.args.length cx] 30)) = w12 at *
          have e0 := C12.out.cell 0
          have e1 := C12.out.cell 1
          have ef := C12.out.frozen
          have el := C12.out.lt
          have f0 := D12.out.cell 0
          have f1 := D12.out.cell 1
          go_wp2_with fail
          go_meet
          exact ⟨(W12.out.set CL.out 0 _).set CL.out 1 _, E, x, ax, cx, rfl, (C12.out.set 0 _).set 1 _, Or.inr ⟨H0.out, n, st, HN.out, FIN.out, OKF.out, Or.inr ⟨HBN.out, HE.out.trans H0.out, S12.out.kept fun b h => by rw [Below.heap_setCell _ _ _ _ (by simpa using h), Below.heap_setCell _ _ _ _ (by simpa using h)]⟩⟩⟩
        ·have hz : (E == 0) = false := by simp [h0]
         have H0 : Hid (auE 8 40 A ≠ 0) := by unfold Hid; rw [← HE.out]; exact h0
         clear h0
         go_wp2_with fail
         go_meet
         exact ⟨W10.out, E, ⟨⟨#[]⟩, []⟩, none, 0, rfl, C10.out, Or.inl ⟨H0.out, HE.out⟩⟩
       case rest =>
        obtain ⟨hbx, g, x, ax, cx, rfl, hblk, hor⟩ := hcut
        rename World => w13
        have W13 := hide hbx
        have C13 := hide hblk
        have HOR := hide hor
        clear hbx hblk hor W10 C10
        have c0 := W13.out.ka.cell 0
        have c1 := W13.out.ka.cell 1
        have c2 := W13.out.ka.cell 2
        have d0 := W13.out.kb.cell 0
        have d1 := W13.out.kb.cell 1
        go_upto_region 19 with fail
        go_wp2_with fail
        refine (accepts_any A t _ _ _ _ (VA.out _ W13.out.bl) (VT.out _ W13.out.bl)).mono ?_
        rintro e w14 ⟨he, hb14⟩
        rw [← HB0.out, ← HFA.out] at he
        subst he
        have W14 := hide (W13.out.later hb14)
        have C14 := hide (C13.out.below hb14 C13.out.lt)
        have B14 := hide hb14
        clear hb14 c0 c1 c2 d0 d1
        have c0 := W14.out.ka.cell 0
        have c1 := W14.out.ka.cell 1
        have c2 := W14.out.ka.cell 2
        go_wp2_with fail
        refine (some_any A _ _ _ (VA.out _ W14.out.bl)).mono ?_
        rintro e w15 ⟨hb15, hsm⟩
        have W15 := hide (W14.out.later hb15)
        have C15 := hide (C14.out.below hb15 C14.out.lt)
        have B15 := hide (B14.out.trans (hb15.mono B14.out.size))
        clear hb15 c0 c1 c2
        have hfin : ∀ (xx : Tm) (aa : Option Addr) (cc : Nat) (na : Int) (w16 : World), w16 = w15.alloc (.cells #[.string xx.name, .slice aa xx.args.length cc] 30) → AsW w #[.int .i64 A.st, .slice am A.mv.length cm, .slice al A.la.length cl] #[.string t.name, .slice aw t.args.length ct] w16 ∧ Blk w16 C #[.string x.name, .slice ax x.args.length cx] 30 ∧ Blk w16 w15.heap.size #[.string xx.name, .slice aa xx.args.length cc] 30 ∧ Below w13.heap.size w13 w16 := fun xx aa cc na w16 hw => by
         rw [hw]
         exact ⟨W15.out.later (one1 _ _), C15.out.alloc _, Blk.new _ _ _, B15.out.trans ((one1 _ _).mono B15.out.size)⟩
        have HFIN := hide hfin
        clear hfin
        -- what both tell
        have KEY : ∃ (xx : Tm) (aa : Option Addr) (cc : Nat), e = .returned (.tuple #[.agg #[.string xx.name, .slice aa xx.args.length cc], .int .i64 g]) ∧ ((g ≠ 0 ∧ (xx.name = ⟨#[]⟩ ∧ aa = none ∧ xx.args = [] ∧ cc = 0)) ∨ (g = 0 ∧ xx = x ∧ Sl w15 (fun _ => True) aa x.args ∧ Sl w13 (fun b => b ≠ C) ax x.args)) := by
         rcases HOR.out with ⟨h1, h2⟩ | ⟨h1, n, st, hn, hfin, hokf, h2⟩
         ·rcases hsm with ⟨_, rfl⟩ | ⟨h3, _⟩
          ·exact ⟨⟨⟨#[]⟩, []⟩, none, 0, by rw [h2]; rfl, Or.inl ⟨by rw [h2]; exact h1, rfl, rfl, rfl, rfl⟩⟩
          ·exact absurd h3 h1
         ·rcases hsm with ⟨h3, _⟩ | ⟨_, n', st', hn', hfin', hokf', _, h4⟩
          ·exact absurd h1 h3
          ·have en : n' = n := by omega
           subst en
           have es : st' = st := FinF.det hfin' hfin
           subst es
           have OK := auE_zero.1 h1
           have eb : bstF st' (lastO A) = bstF st' A.la := bst_same hokf (fun s => lastO_mem OK.la s)
           rw [eb] at h4
           rcases h2 with ⟨h5, rfl⟩ | ⟨h5, rfl, h6⟩
           ·rcases h4 with ⟨_, rfl⟩ | ⟨y, ay, cy, h7, _⟩
            ·exact ⟨⟨⟨#[]⟩, []⟩, none, 0, rfl, Or.inl ⟨by decide, rfl, rfl, rfl, rfl⟩⟩
            ·rw [h5] at h7; cases h7
           ·rcases h4 with ⟨h7, _⟩ | ⟨y, ay, cy, h7, rfl, h8⟩
            ·rw [h5] at h7; cases h7
            ·rw [h5] at h7
             cases h7
             exact ⟨x, ay, cy, rfl, Or.inr ⟨rfl, rfl, h8, h6⟩⟩
        obtain ⟨xx, aa, cc, rfl, hk⟩ := KEY
        obtain ⟨hw16, hc16, ht16, hb16⟩ := HFIN.out xx aa cc g _ rfl
        have W16 := hide hw16
        have C16 := hide hc16
        have T16 := hide ht16
        have B16 := hide hb16
        have HK := hide hk
        have O16 := hide (one1 w15 (.cells #[.string xx.name, .slice aa xx.args.length cc] 30))
        clear hw16 hc16 ht16 hb16 hk hsm HFIN HOR
        go_upto_region 21 with fail
        generalize (w15.alloc (.cells #[.string xx.name, .slice aa xx.args.length cc] 30)) = w16 at *
        generalize hT : w15.heap.size = T at *
        clear W13 C13 W14 C14 B14 W15 C15 B15
        have c0 := W16.out.ka.cell 0
        have c1 := W16.out.ka.cell 1
        have c2 := W16.out.ka.cell 2
        go_wp2_with fail
        refine (aCheck_any A _ _ _ (VA.out _ W16.out.bl)).mono ?_
        rintro e w17 ⟨rfl, hb17⟩
        rw [← HE.out]
        have W17 := hide (W16.out.later hb17)
        have C17 := hide (C16.out.below hb17 C16.out.lt)
        have T17 := hide (T16.out.below hb17 T16.out.lt)
        have B17 := hide (B16.out.trans (hb17.mono B16.out.size))
        have O17 := hide (O16.out.trans (hb17.mono (by have := O16.out.size; omega)))
        clear hb17 c0 c1 c2
        have e0 := C17.out.cell 0
        have e1 := C17.out.cell 1
        have t0 := T17.out.cell 0
        have t1 := T17.out.cell 1
        have hbb : (b0 == b0) = true := by simp
        go_wp2_with fail
        rcases HK.out with ⟨hg, hxn, rfl, hxa, rfl⟩ | ⟨rfl, rfl, hs1, hs2⟩
        ·rw [hxn, hxa]
         refine (term2_err g _ x.name ax x.args.length cx rfl _ hg).mono ?_
         rintro e w18 ⟨rfl, hb18⟩
         have B18 := hide (W17.out.bl.trans (hb18.mono W17.out.bl.size))
         clear hb18 e0 e1 t0 t1
         go_wp2_with fail
         go_ret
         exact ⟨rfl, B18.out⟩
        ·refine (term2_ok xx _ _ _ _ _ ⟨_, _, rfl, hs1.later (by rw [hT]; exact O17.out)⟩ ⟨_, _, rfl, hs2.later B17.out⟩).mono ?_
         rintro e w18 ⟨rfl, hb18⟩
         have B18 := hide (W17.out.bl.trans (hb18.mono W17.out.bl.size))
         clear hb18 e0 e1 t0 t1
         go_wp2_with fail
         go_ret
         exact ⟨rfl, B18.out⟩
end Go.Proofs.Ytofebfjkodceeaa
