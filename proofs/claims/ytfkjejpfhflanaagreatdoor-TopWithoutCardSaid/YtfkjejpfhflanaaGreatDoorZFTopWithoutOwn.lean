/- Several texts in one. -/
import Derived.Test.YtfkjejpfhflanaaGreatDoorLr6
import Derived.Test.YtfkjejpfhflanaaGreatDoorZGTopWithoutOwn
import Derived.Test.YtfkjejpfhflanaaGreatDoorZETopWithoutOwn
import Derived.Test.YtfkjejpfhflanaaGreatDoorLn11
/- Lambda terms that were written are read again, also with other names for what is bound. -/
namespace Go.Proofs.YtfkjejpfhflanaaGreatDoor
open Go.RowKit
set_option linter.unusedSimpArgs false
set_option linter.unusedVariables false

/-- Names from outside that no binder and no constant has. -/
structure FrOk (fr : List ByteArray) : Prop where
  nm : ∀ n ∈ fr, nameB n = true
  nox : ∀ n ∈ fr, ∀ b ∈ n.data.toList, b ≠ 120 ∧ b ≠ 113 ∧ b ≠ 99
  apart : ∀ i j (hi : i < fr.length) (hj : j < fr.length), fr[i] = fr[j] → i = j
end Go.Proofs.YtfkjejpfhflanaaGreatDoor

/- Lambda terms that were written are read again: the reading. -/
namespace Go.Proofs.YtfkjejpfhflanaaGreatDoor
open Go.RowKit
set_option linter.unusedSimpArgs false
set_option linter.unusedVariables false

/-- What may stand behind a piece; behind a term. -/
def EndsN (post : List UInt8) : Prop := post = [] ∨ ∃ c r, post = c :: r ∧ (c = 41 ∨ c = 32)
def EndsT (post : List UInt8) : Prop := post = [] ∨ ∃ r, post = 41 :: r
theorem EndsT.n {post : List UInt8} (h : EndsT post) : EndsN post := by
  rcases h with h | ⟨r, h⟩
  · exact Or.inl h
  · exact Or.inr ⟨41, r, h, Or.inl rfl⟩
theorem EndsN.al {post : List UInt8} (h : EndsN post) : post = [] ∨ ∃ c r, post = c :: r ∧ alnB (c.toNat : Int) = false := by
  rcases h with h | ⟨c, r, h, hc⟩
  · exact Or.inl h
  · exact Or.inr ⟨c, r, h, by rcases hc with rfl | rfl <;> decide⟩

end Go.Proofs.YtfkjejpfhflanaaGreatDoor

/- The fact that what is applied to itself takes a step: its text is read, its term worked out and written. -/
namespace Go.Proofs.YtfkjejpfhflanaaGreatDoor
open Go.RowKit
set_option linter.unusedSimpArgs false
set_option linter.unusedVariables false
set_option maxRecDepth 8000

/-- The text, its term, and what that becomes. -/
def apS : ByteArray := ⟨#[40, 92, 121, 46, 121, 32, 121, 41, 32, 99, 49]⟩
def apCl : Lm := ⟨4, 1, []⟩
def apY : Lm := ⟨1, 0, []⟩
def apBl : Lm := ⟨3, 0, [apY, apY]⟩
def apTl : Lm := ⟨3, 0, [⟨2, 0, [apBl]⟩, apCl]⟩
def apE : Lm := ⟨3, 0, [apCl, apCl]⟩
def apN : ByteArray := ⟨#[121]⟩
def apK : ByteArray := ⟨#[99, 49]⟩

theorem ap_dec : Lib.decDigits 1 = [49] := by rw [Lib.decDigits, dif_pos (by decide)]; rfl
theorem ap_nameY {i : Nat} (h : stopAt apS i = i + 1) (he : apS.extract i (i + 1) = apN) : nameE apS i = 0 := by
  unfold nameE
  rw [h, he, if_neg (by omega), if_neg (by decide)]
theorem ap_y (F k p i : Nat) (h : stopAt apS i = i + 1) (he : apS.extract i (i + 1) = apN) (hb : byteAt apS i = 121) (hk : k < 200) (hp : p = i + 1) : lrd apS (F + 1) .piece [apN] i k = ⟨0, apY, p, k + 1⟩ := by
  subst hp
  rw [lrd, if_neg (by rw [hb]; omega), if_neg (by rw [ap_nameY h he]; simp), if_neg (by omega), h, he]
  have : lastN apN [apN] = some 0 := by simp [lastN]
  unfold namedL
  rw [this]
  rfl
theorem ap_c (F k : Nat) (hk : k < 200) : lrd apS (F + 1) .piece [] 9 k = ⟨0, apCl, 11, k + 1⟩ := by
  have h1 : stopAt apS 9 = 11 := by decide
  have h2 : apS.extract 9 11 = apK := by decide
  have hb : byteAt apS 9 = 99 := by decide
  have hn : nameE apS 9 = 0 := by
    unfold nameE
    rw [h1, h2, if_neg (by omega), if_neg (by decide)]
  have hc : conN apK = some 1 := conN_is (by decide) (by rw [ap_dec]; rfl)
  rw [lrd, if_neg (by rw [hb]; omega), if_neg (by rw [hn]; simp), if_neg (by omega), h1, h2]
  unfold namedL
  have : lastN apK [] = none := rfl
  rw [this, hc]
  rfl
/-- The body of the binder. -/
theorem ap_body (F k : Nat) (hk : k < 100) : lrd apS (F + 4) .term [apN] 4 k = ⟨0, apBl, 7, k + 3⟩ := by
  have b4 : byteAt apS 4 = 121 := by decide
  have b5 : byteAt apS 5 = 32 := by decide
  have b7 : byteAt apS 7 = 41 := by decide
  rw [lrd, if_neg (by rw [b4]; omega), ap_y (F + 2) k 5 4 (by decide) (by decide) b4 (by omega) rfl]
  simp only [ne_eq, not_true_eq_false, if_false]
  rw [lrd, if_pos ⟨by decide, b5⟩, if_neg (by omega), ap_y (F + 1) (k + 1 + 1) 7 6 (by decide) (by decide) (by decide) (by omega) rfl]
  simp only [ne_eq, not_true_eq_false, if_false]
  rw [lrd, if_neg (by rw [b7]; omega)]
  rfl
theorem ap_fun (F k : Nat) (hk : k < 90) : lrd apS (F + 5) .term [] 1 k = ⟨0, ⟨2, 0, [apBl]⟩, 7, k + 4⟩ := by
  have b1 : byteAt apS 1 = 92 := by decide
  have h2 : stopAt apS 2 = 3 := by decide
  have he : apS.extract 2 3 = apN := by decide
  have ha : askE apS 3 46 = 0 := by decide
  rw [lrd, if_pos ⟨by decide, b1⟩, if_neg (by omega), if_neg (by rw [ap_nameY h2 he]; simp), h2, if_neg (by rw [ha]; simp), he]
  have := ap_body F (k + 1) (by omega)
  simp only [List.nil_append, Nat.reduceAdd] at this ⊢
  rw [this]
  simp
theorem ap_all (F : Nat) : lrd apS (F + 8) .term [] 0 0 = ⟨0, apTl, 11, 6⟩ := by
  have b0 : byteAt apS 0 = 40 := by decide
  have b8 : byteAt apS 8 = 32 := by decide
  have ha : askE apS 7 41 = 0 := by decide
  have hp : lrd apS (F + 7) .piece [] 0 0 = ⟨0, ⟨2, 0, [apBl]⟩, 8, 4⟩ := by
    have := ap_fun (F + 1) 0 (by omega)
    rw [lrd, if_pos ⟨by decide, b0⟩]
    simp only [Nat.zero_add] at this ⊢
    rw [this]
    simp [ha]
  rw [lrd, if_neg (by rw [b0]; omega), hp]
  simp only [ne_eq, not_true_eq_false, if_false]
  rw [lrd, if_pos ⟨by decide, b8⟩, if_neg (by omega), ap_c (F + 5) 5 (by omega)]
  simp only [ne_eq, not_true_eq_false, if_false]
  rw [lrd, if_neg (by rw [show apS.size = 11 from rfl]; omega)]
  rfl
theorem ap_read : (lrdAll apS []).err = 0 ∧ (lrdAll apS []).t = apTl := by
  have h := ap_all 28
  have hf : freE [] = 0 := by decide
  unfold lrdAll
  rw [hf, show 3 * apS.size + 3 = 28 + 8 from rfl, h]
  rw [if_neg (by simp), if_neg (by decide)]
  simp [show apS.size = 11 from rfl]
theorem ap_may : lamE 0 0 apTl = 0 := by
  unfold lamE
  simp [apTl, apBl, apY, apCl, sizeM, errM, knE, subsK, mostK, deepK]
theorem ap_end : endM false 5 apTl = (0, apE, 1) := by
  have h1 : stepM [apTl] = true := by simp [apTl, stepM, rdxT]
  have h2 : stpT false 2001 apTl = apE := by
    show stpT false (2000 + 1) ⟨3, 0, [⟨2, 0, [apBl]⟩, apCl]⟩ = apE
    rw [stpT, if_pos (by simp [hereT, rdxT])]
    simp [conT, insT, insM, apBl, apY, apCl, apE, higT, higM, deepK]
  have h3 : stepM [apE] = false := by simp [apE, apCl, stepM, rdxT]
  have h4 : sizeM [apE] = 3 := by simp [apE, apCl, sizeM]
  rw [endM, if_pos h1, h2, if_neg (by rw [h4]; omega)]
  rw [endM, if_neg (by rw [h3]; simp)]
/-- What is written. -/
theorem ap_text : txE [] apE = 0 ∧ txB [] apE = [99, 49, 32, 99, 49] := by
  have h0 : txE [] apE = 0 := by
    unfold txE
    have hf : freE [] = 0 := by decide
    rw [hf, if_pos rfl]
    unfold lamE
    simp [apE, apCl, sizeM, errM, knE, subsK, mostK, deepK]
  refine ⟨h0, ?_⟩
  unfold txB
  rw [if_pos h0]
  show ltx [] 0 ⟨3, 0, [⟨4, 1, []⟩, ⟨4, 1, []⟩]⟩ = _
  rw [ltx_app, ltx_con]
  simp [brk, ap_dec]
end Go.Proofs.YtfkjejpfhflanaaGreatDoor

/- Walks: the fact that what is applied to itself takes a step. -/
namespace Go.Proofs.YtfkjejpfhflanaaGreatDoor
open Go.RowKit
set_option linter.unusedSimpArgs false
set_option linter.unusedVariables false
set_option maxRecDepth 8000

theorem parseA_any (w : World) (hT : Tb w.heap.size w) (hS : Tse w.heap.size w) :
    Calls Tryz.prog 17 #[.string ⟨#[40, 92, 121, 46, 121, 32, 121, 41, 32, 99, 49]⟩, .slice none 0 0] w fun e w' => ∃ a c, e = .returned (.tuple #[.agg #[.int .i64 apTl.kind, .int .i64 apTl.idx, .slice a apTl.subs.length c], .int .i64 0]) ∧ SlM w' (fun _ => True) a apTl.subs ∧ Below w.heap.size w w' := by
  refine (parseL_any apS [] none 0 w (fun _ => False) ⟨none, 0, rfl, ⟨by simp, by simp⟩, Or.inl rfl⟩ hT hS).mono ?_
  rintro e w' ⟨v, rfl, h1, _, hb⟩
  obtain ⟨a, c, rfl, hs⟩ := h1 ap_read.1
  rw [ap_read.1]
  rw [ap_read.2] at hs ⊢
  exact ⟨a, c, rfl, hs.mono fun _ _ _ => trivial, hb⟩
theorem normalA_any (v : Value) (w : World) (X : Nat → Prop) (hv : MV w X v apTl) :
    Calls Tryz.prog 11 #[v, .int .i64 0, .int .i64 5] w fun e w' => ∃ a c, e = .returned (.tuple #[.agg #[.int .i64 apE.kind, .int .i64 apE.idx, .slice a apE.subs.length c], .int .i64 1, .int .i64 0]) ∧ SlM w' (fun _ => True) a apE.subs ∧ Below w.heap.size w w' := by
  refine (normal_ok apTl 0 5 (by omega) ap_may v w X hv).mono ?_
  rintro e w' ⟨hb, h⟩
  rw [ap_end] at h
  rcases h with ⟨_, a, c, rfl, hs⟩ | ⟨h, _⟩
  · exact ⟨a, c, rfl, hs.mono fun _ _ _ => trivial, hb⟩
  · exact absurd rfl h
theorem textA_any (v : Value) (w : World) (X : Nat → Prop) (hv : MV w X v apE) (hT : Tb w.heap.size w) :
    Calls Tryz.prog 18 #[v, .slice none 0 0] w fun e w' => e = .returned (.tuple #[.string ⟨#[99, 49, 32, 99, 49]⟩, .int .i64 0]) ∧ Below w.heap.size w w' := by
  refine (lText_any [] apE v none 0 w X (fun _ => False) hv ⟨none, 0, rfl, ⟨by simp, by simp⟩, Or.inl rfl⟩ hT).mono ?_
  rintro e w' ⟨rfl, hb⟩
  rw [ap_text.1, ap_text.2]
  exact ⟨rfl, hb⟩

set_option maxHeartbeats 2000000 in
theorem applies_any (w : World) (hT : Tb w.heap.size w) (hS : Tse w.heap.size w) :
    Calls Tryz.prog 7 #[] w fun e w' => e = .returned (.bool true) ∧ Below w.heap.size w w' := by
  have HT := hide hT
  have HSE := hide hS
  clear hT hS
  go_enter Tryz.func7, Tryz.ntmps7
  go_wp2_with fail
  refine (parseA_any w HT.out HSE.out).mono ?_
  rintro e w1 ⟨a, c, rfl, hs, hb⟩
  have B1 : Hid (Below w.heap.size w (w1.alloc (.cells #[.int .i64 apTl.kind, .int .i64 apTl.idx, .slice a apTl.subs.length c] 25))) := hb.alloc hb.size _
  have K1 : Hid (Blk (w1.alloc (.cells #[.int .i64 apTl.kind, .int .i64 apTl.idx, .slice a apTl.subs.length c] 25)) w1.heap.size #[.int .i64 apTl.kind, .int .i64 apTl.idx, .slice a apTl.subs.length c] 25) := Blk.new w1 _ _
  have S1 := hide (hs.later ((Below.refl _ _).alloc (Nat.le_refl _) (.cells #[.int .i64 apTl.kind, .int .i64 apTl.idx, .slice a apTl.subs.length c] 25)))
  have c0 := K1.out.cell 0
  have c1 := K1.out.cell 1
  have c2 := K1.out.cell 2
  simp only [List.getElem?_toArray, List.getElem?_cons_succ, List.getElem?_cons_zero] at c0 c1 c2
  clear hs hb
  go_wp2_with fail
  generalize (w1.alloc (.cells #[.int .i64 apTl.kind, .int .i64 apTl.idx, .slice a apTl.subs.length c] 25)) = w2 at *
  refine (normalA_any _ _ _ ⟨a, c, rfl, by exact S1.out⟩).mono ?_
  rintro e w3 ⟨ax, cx, rfl, hs, hb⟩
  have B3 := hide (B1.out.trans (hb.mono B1.out.size))
  have B4 : Hid (Below w.heap.size w (w3.alloc (.cells #[.int .i64 apE.kind, .int .i64 apE.idx, .slice ax apE.subs.length cx] 25))) := B3.out.alloc B3.out.size _
  have K4 : Hid (Blk (w3.alloc (.cells #[.int .i64 apE.kind, .int .i64 apE.idx, .slice ax apE.subs.length cx] 25)) w3.heap.size #[.int .i64 apE.kind, .int .i64 apE.idx, .slice ax apE.subs.length cx] 25) := Blk.new w3 _ _
  have S4 := hide (hs.later ((Below.refl _ _).alloc (Nat.le_refl _) (.cells #[.int .i64 apE.kind, .int .i64 apE.idx, .slice ax apE.subs.length cx] 25)))
  clear hs hb c0 c1 c2 B1 K1 S1 B3
  have c0 := K4.out.cell 0
  have c1 := K4.out.cell 1
  have c2 := K4.out.cell 2
  simp only [List.getElem?_toArray, List.getElem?_cons_succ, List.getElem?_cons_zero] at c0 c1 c2
  go_wp2_with fail
  generalize (w3.alloc (.cells #[.int .i64 apE.kind, .int .i64 apE.idx, .slice ax apE.subs.length cx] 25)) = w4 at *
  refine (textA_any _ _ _ ⟨ax, cx, rfl, by exact S4.out⟩ (HT.out.raise B4.out B4.out.size)).mono ?_
  rintro e w5 ⟨rfl, hb⟩
  have B5 := hide (B4.out.trans (hb.mono B4.out.size))
  clear hb
  go_wp2_with fail
  go_ret
  exact ⟨rfl, B5.out⟩
end Go.Proofs.YtfkjejpfhflanaaGreatDoor
