import Derived.Test.YtbnmlkaejdpigaaGreatDoorZTopLocalOwn
namespace Go.Proofs.YtbnmlkaejdpigaaGreatDoor
open Go.RowKit
set_option linter.unusedSimpArgs false
set_option linter.unusedVariables false
theorem Sl.grown {w w' : World} {X : Nat → Prop} {a : Option Addr} {l : List Tm} {r : Option Nat} (h : Sl w X a l) (hg : w.grownBy w' r) (hX : ∀ b, X b → some b ≠ r) : Sl w' X a l := by
 have h1 : Sl w (fun b => X b ∧ b < w.heap.size) a l := h.mono fun b h1 h2 => ⟨h1, h2⟩
 have h2 : Sl w' (fun b => X b ∧ b < w.heap.size) a l := h1.kept fun b hx => hg.block b hx.2 (hX b hx.1)
 exact h2.mono fun b hx _ => hx.1
theorem err_name {s : ByteArray} {l : List Tm} (h : errL [(⟨s, l⟩ : Tm)] = 0) : nameB s = true ∧ errL l = 0 := by
 simp only [errL] at h
 split at h
 ·refine ⟨by assumption, ?_⟩
  split at h
  ·exact absurd h (by decide)
  ·split at h
   ·assumption
   ·exact h
 ·exact absurd h (by decide)
theorem err_mem {l : List Tm} (h : errL l = 0) (k : Nat) (hk : k < l.length) : errL [l[k]] = 0 := by
 induction l generalizing k with
 | nil => simp at hk
 | cons t r ih =>
  rw [errL_cons] at h
  by_cases h0 : errL [t] = 0
  ·rw [if_pos h0] at h
   cases k with
   | zero => exact h0
   | succ k => exact ih h k (by simpa using hk)
  ·rw [if_neg h0] at h; exact absurd h h0
theorem NamesAt.lv {w0 w1 : World} {B : Nat} {q0 q1 : Value} {acc1 : List ByteArray} (h : NamesAt w0 B q0 acc1 q1 w1) : LV Value.string w1 (fun b => B ≤ b) q1 acc1 := LV.of_own h.1
theorem NamesAt.refl {w : World} {B : Nat} {q : Value} {acc : List ByteArray} (h : w.ownsRow B 9 1 q acc.length (acc.map Value.string)) : NamesAt w B q acc q w :=
 ⟨h, grown_of_below (Below.refl _ _) _, fun _ h => Or.inl h⟩
theorem names_append {w : World} {B : Nat} {q : Value} {acc : List ByteArray} (s : ByteArray) (h : w.ownsRow B 9 1 q acc.length (acc.map Value.string)) (hB : B ≤ w.heap.size) (hn : acc.length ≤ 3000000) (A : Nat) (hA : w.heap.size = A) :
  ∃ q2 w3, (Builtin.append_ #[37, 37] 37 #[q, .slice (some ⟨A, 0, none⟩) 1 1]).run Tryz.prog (w.alloc (.cells #[.string s] 9)) = .ok q2 w3 ∧ NamesAt w B q (acc ++ [s]) q2 w3 := by
 subst hA
 obtain ⟨i0, hi, hz0, hz1, hz2⟩ := info_parts Tryz.infoStr
 obtain ⟨g, cap, w3, hr, ho, hg, hat, hlt⟩ := run_append_lies (P := Tryz.prog) (w := w.alloc (.cells #[.string s] 9)) 37 37 B 9 i0 _ 1 16 Tryz.underlying37 hi hz0 hz1 hz2 rfl (by decide) q acc.length (acc.map Value.string) (h.alloc _)
  ⟨w.heap.size, 0, none⟩ 1 1 [.string s] rfl (cell_one_new _ _ _) (fun x hx => by simp at hx; subst hx; rfl) (by decide) (by unfold maxLen; omega) (by omega) (by simp; omega) _ rfl
 refine ⟨_, w3, hr, by simpa using ho, ?_, fun k hk => ?_⟩
 ·exact grown_trans (grown_of_below ((Below.refl _ _).alloc (Nat.le_refl _) _) q.ownBlock) hg (fun k hk => Or.inl hk)
 ·simp [Value.ownBlock] at hk
  subst hk
  rcases hat with e | e
  ·exact Or.inl e
  ·right; simp at e; omega
theorem names_start {w : World} {B : Nat} {q : Value} {acc : List ByteArray} (h : w.ownsRow B 9 1 q acc.length (acc.map Value.string)) (o : Obj) : NamesAt w B q acc q (w.alloc o) := (NamesAt.refl h).below ((Below.refl _ _).alloc (Nat.le_refl _) o)
theorem names_boxed {w w3 : World} {B : Nat} {q q2 : Value} {acc acc2 : List ByteArray} {o : Obj} (h : w.ownsRow B 9 1 q acc.length (acc.map Value.string)) (h2 : NamesAt (w.alloc o) B q acc2 q2 w3) : NamesAt w B q acc2 q2 w3 := (names_start h o).step h2
set_option maxHeartbeats 1000000 in
theorem addNames_any (t : Tm) : ∀ (q v : Value) (acc : List ByteArray) (w : World) (X : Nat → Prop) (B : Nat), TV w X v t → (∀ b, X b → b < B) → B ≤ w.heap.size → w.ownsRow B 9 1 q acc.length (acc.map Value.string) → errL [t] = 0 → acc.length + sizeL [t] ≤ 2000000 →
  Calls Tryz.prog 64 #[q, v] w fun e w' => ∃ q', e = .returned q' ∧ NamesAt w B q (varsP acc (preL [t])) q' w' := by
 induction t using Tm.ind with
 | h s l ih =>
  intro q v acc w X B hv hX hB hown herr hsm
  have IH := hide ih
  clear ih
  obtain ⟨a, c, rfl, hs⟩ := hv
  have hl := hs.1
  obtain ⟨hn, hel⟩ := err_name herr
  have hpos := name_pos hn
  have HEL := hide hel
  have hz : sizeL [(⟨s, l⟩ : Tm)] = 1 + sizeL l := by simp [sizeL]
  rw [hz] at hsm
  have HP : Hid (varsP acc (preL [(⟨s, l⟩ : Tm)]) = varsP (addV acc s) (preL l)) := by simp [Hid, preL, varsP]
  have HOWN := hide hown
  clear hz hn hel herr hown
  cases hvb : varB s with
  | false =>
   have HN := hide (addV_no (acc := acc) hvb)
   have HVB := hide hvb
   clear hvb
   go_enter Tryz.func64, Tryz.ntmps64
   go_wp2_with (go_at_call 36; refine (isVariable_any _ _ hpos).mono ?_; rintro e w' ⟨rfl, rfl⟩; rw [HVB.out])
   go_loopw [0, 25] (fun q' i wr => ∃ k : Nat, k ≤ l.length ∧ i = .int .i64 k ∧ NamesAt w B q (varsP (addV acc s) (preL (l.take k))) q' wr) (fun q' i wr => l.length - (intOf i).toNat)
   case atStart => exact ⟨0, Nat.zero_le _, rfl, by simp only [List.take_zero]; rw [HN.out]; simpa [preL, varsP] using names_start HOWN.out _⟩
   case round =>
    obtain ⟨k, hk, rfl, hna⟩ := hrel
    have HNA := hide hna
    have hlen := varsP_len (preL (l.take k)) (addV acc s)
    rw [preL_length] at hlen
    have hadd := addV_len acc s
    have hBr : B ≤ wr.heap.size := Nat.le_trans hB hna.2.1.size
    by_cases hlt : k < l.length
    ·have hst := sizeL_take l k hlt
     have hst2 := sizeL_take_le l (k + 1)
     have hsr := hs.grown hna.2.1 (fun b hb e => by have h1 := hX b hb; have h2 := (HOWN.out.lt b e.symm).1; omega)
     obtain ⟨b, o, a', c', rfl, d0, d1, hx⟩ := hsr.get (Below.refl wr.heap.size wr) (fun _ _ h => h) k hlt
     have HX := hide hx
     have HT : Hid (varsP (addV acc s) (preL (l.take (k + 1))) = varsP (varsP (addV acc s) (preL (l.take k))) (preL [l[k]])) := by unfold Hid; rw [preL_take l k hlt, varsP_append]
     have HSM : Hid ((varsP (addV acc s) (preL (l.take k))).length + sizeL [l[k]] ≤ 2000000) := by unfold Hid; omega
     clear hna hsr hx hlen hadd hst hst2
     go_wp2_with fail
     refine (IH.out _ (List.getElem_mem hlt) _ _ _ _ X B (by exact HX.out.alloc _) hX (by simp; omega) (by exact HNA.out.1.alloc _) (err_mem HEL.out k hlt) HSM.out).mono ?_
     rintro e w5 ⟨q5, rfl, hna5⟩
     have HFIN := hide ((HNA.out.below ((Below.refl _ _).alloc (Nat.le_refl _) _)).step hna5)
     clear hna5
     go_wp2_with fail
     go_roundw
     case rel => exact ⟨k + 1, by omega, by go_num, by rw [HT.out]; exact HFIN.out⟩
     case measure => simp [intOf]; omega
    ·have htk : l.take k = l := List.take_of_length_le (by omega)
     rw [htk] at hna
     have HNB := hide hna
     clear hna hlen hadd
     go_wp2_with fail
     go_ret
     exact ⟨_, rfl, by rw [HP.out]; exact HNB.out⟩
  | true =>
   have HVB := hide hvb
   cases hin : inB s acc with
   | true =>
    have HN := hide (addV_in hvb hin)
    have HIN := hide hin
    clear hvb hin
    go_enter Tryz.func64, Tryz.ntmps64
    go_wp2_with (first | (go_at_call 36; refine (isVariable_any _ _ hpos).mono ?_; rintro e w' ⟨rfl, rfl⟩; rw [HVB.out]) | (go_at_call 87; refine (contains_any _ _ _ _ _ (LV.of_own (HOWN.out.alloc _))).mono ?_; rintro e w' ⟨rfl, rfl⟩; rw [HIN.out]))
    go_loopw [0, 25] (fun q' i wr => ∃ k : Nat, k ≤ l.length ∧ i = .int .i64 k ∧ NamesAt w B q (varsP (addV acc s) (preL (l.take k))) q' wr) (fun q' i wr => l.length - (intOf i).toNat)
    case atStart => exact ⟨0, Nat.zero_le _, rfl, by simp only [List.take_zero]; rw [HN.out]; simpa [preL, varsP] using names_start HOWN.out _⟩
    case round =>
     obtain ⟨k, hk, rfl, hna⟩ := hrel
     have HNA := hide hna
     have hlen := varsP_len (preL (l.take k)) (addV acc s)
     rw [preL_length] at hlen
     have hadd := addV_len acc s
     have hBr : B ≤ wr.heap.size := Nat.le_trans hB hna.2.1.size
     by_cases hlt : k < l.length
     ·have hst := sizeL_take l k hlt
      have hst2 := sizeL_take_le l (k + 1)
      have hsr := hs.grown hna.2.1 (fun b hb e => by have h1 := hX b hb; have h2 := (HOWN.out.lt b e.symm).1; omega)
      obtain ⟨b, o, a', c', rfl, d0, d1, hx⟩ := hsr.get (Below.refl wr.heap.size wr) (fun _ _ h => h) k hlt
      have HX := hide hx
      have HT : Hid (varsP (addV acc s) (preL (l.take (k + 1))) = varsP (varsP (addV acc s) (preL (l.take k))) (preL [l[k]])) := by unfold Hid; rw [preL_take l k hlt, varsP_append]
      have HSM : Hid ((varsP (addV acc s) (preL (l.take k))).length + sizeL [l[k]] ≤ 2000000) := by unfold Hid; omega
      clear hna hsr hx hlen hadd hst hst2
      go_wp2_with fail
      refine (IH.out _ (List.getElem_mem hlt) _ _ _ _ X B (by exact HX.out.alloc _) hX (by simp; omega) (by exact HNA.out.1.alloc _) (err_mem HEL.out k hlt) HSM.out).mono ?_
      rintro e w5 ⟨q5, rfl, hna5⟩
      have HFIN := hide ((HNA.out.below ((Below.refl _ _).alloc (Nat.le_refl _) _)).step hna5)
      clear hna5
      go_wp2_with fail
      go_roundw
      case rel => exact ⟨k + 1, by omega, by go_num, by rw [HT.out]; exact HFIN.out⟩
      case measure => simp [intOf]; omega
     ·have htk : l.take k = l := List.take_of_length_le (by omega)
      rw [htk] at hna
      have HNB := hide hna
      clear hna hlen hadd
      go_wp2_with fail
      go_ret
      exact ⟨_, rfl, by rw [HP.out]; exact HNB.out⟩
   | false =>
    have HN := hide (addV_yes hvb hin)
    have HIN := hide hin
    clear hvb hin
    obtain ⟨q2, w3, hr2, hna2⟩ := names_append (w := w.alloc (.cells #[.string s, .slice a l.length c] 32)) (B := B) s (HOWN.out.alloc _) (by simp; omega) (by omega) (w.heap.size + 1) (by simp)
    have HR := hide hr2
    have hbox : Blk w3 w.heap.size #[.string s, .slice a l.length c] 32 := (Blk.new w _ _).grown hna2.2.1 (fun e => by have := (HOWN.out.lt _ e.symm).2; omega)
    have hbx1 := hbox.c1
    have HNA2 := hide (names_boxed HOWN.out hna2)
    clear hr2 hna2 hbox
    go_enter Tryz.func64, Tryz.ntmps64
    go_wp2_with (first | (go_at_call 36; refine (isVariable_any _ _ hpos).mono ?_; rintro e w' ⟨rfl, rfl⟩; rw [HVB.out]) | (go_at_call 87; refine (contains_any _ _ _ _ _ (LV.of_own (HOWN.out.alloc _))).mono ?_; rintro e w' ⟨rfl, rfl⟩; rw [HIN.out]) | (at_builtin; refine wpList_append_eq rfl _ _ _ _ rfl rfl rfl HR.out ?_))
    go_loopw [0, 25] (fun q' i wr => ∃ k : Nat, k ≤ l.length ∧ i = .int .i64 k ∧ NamesAt w B q (varsP (addV acc s) (preL (l.take k))) q' wr) (fun q' i wr => l.length - (intOf i).toNat)
    case atStart => exact ⟨0, Nat.zero_le _, rfl, by simp only [List.take_zero]; rw [HN.out]; simpa [preL, varsP] using HNA2.out⟩
    case round =>
     obtain ⟨k, hk, rfl, hna⟩ := hrel
     have HNA := hide hna
     have hlen := varsP_len (preL (l.take k)) (addV acc s)
     rw [preL_length] at hlen
     have hadd := addV_len acc s
     have hBr : B ≤ wr.heap.size := Nat.le_trans hB hna.2.1.size
     by_cases hlt : k < l.length
     ·have hst := sizeL_take l k hlt
      have hst2 := sizeL_take_le l (k + 1)
      have hsr := hs.grown hna.2.1 (fun b hb e => by have h1 := hX b hb; have h2 := (HOWN.out.lt b e.symm).1; omega)
      obtain ⟨b, o, a', c', rfl, d0, d1, hx⟩ := hsr.get (Below.refl wr.heap.size wr) (fun _ _ h => h) k hlt
      have HX := hide hx
      have HT : Hid (varsP (addV acc s) (preL (l.take (k + 1))) = varsP (varsP (addV acc s) (preL (l.take k))) (preL [l[k]])) := by unfold Hid; rw [preL_take l k hlt, varsP_append]
      have HSM : Hid ((varsP (addV acc s) (preL (l.take k))).length + sizeL [l[k]] ≤ 2000000) := by unfold Hid; omega
      clear hna hsr hx hlen hadd hst hst2
      go_wp2_with fail
      refine (IH.out _ (List.getElem_mem hlt) _ _ _ _ X B (by exact HX.out.alloc _) hX (by simp; omega) (by exact HNA.out.1.alloc _) (err_mem HEL.out k hlt) HSM.out).mono ?_
      rintro e w5 ⟨q5, rfl, hna5⟩
      have HFIN := hide ((HNA.out.below ((Below.refl _ _).alloc (Nat.le_refl _) _)).step hna5)
      clear hna5
      go_wp2_with fail
      go_roundw
      case rel => exact ⟨k + 1, by omega, by go_num, by rw [HT.out]; exact HFIN.out⟩
      case measure => simp [intOf]; omega
     ·have htk : l.take k = l := List.take_of_length_le (by omega)
      rw [htk] at hna
      have HNB := hide hna
      clear hna hlen hadd
      go_wp2_with fail
      go_ret
      exact ⟨_, rfl, by rw [HP.out]; exact HNB.out⟩
set_option maxHeartbeats 1000000 in
theorem namesOf_any (t : Tm) (v : Value) (w : World) (X : Nat → Prop) (hv : TV w X v t) :
  Calls Tryz.prog 37 #[v] w fun e w' => ∃ v', e = .returned (.tuple #[v', .int .i64 (mayE t)]) ∧ (mayE t = 0 → LV Value.string w' (fun b => w.heap.size ≤ b) v' (varsP [] (preL [t]))) ∧ (mayE t ≠ 0 → v' = .slice none 0 0) ∧ Below w.heap.size w w' := by
 obtain ⟨X', hX, hv'⟩ : ∃ X' : Nat → Prop, (∀ b, X' b → b < w.heap.size) ∧ TV w X' v t := ⟨fun b => X b ∧ b < w.heap.size, fun _ h => h.2, hv.mono fun b h1 h2 => ⟨h1, h2⟩⟩
 clear hv
 obtain ⟨a, c, rfl, hs⟩ := hv'
 have HV := hide (show TV w X' (.agg #[.string t.name, .slice a t.args.length c]) t from ⟨a, c, rfl, hs⟩)
 clear hs
 go_enter Tryz.func37, Tryz.ntmps37
 go_wp2_with fail
 refine (check_any t _ _ X' (by exact HV.out.alloc _)).mono ?_
 rintro e w1 ⟨rfl, hb1⟩
 have hbk := (Blk.new w #[.string t.name, .slice a t.args.length c] 32).below hb1 (by simp)
 have c0 := hbk.c0
 have c1 := hbk.c1
 have HB := hide (((Below.refl w.heap.size w).alloc (Nat.le_refl _) (.cells #[.string t.name, .slice a t.args.length c] 32)).trans (hb1.mono (by simp)))
 clear hb1 hbk
 by_cases h : mayE t = 0
 ·have HM := hide h
  have HE : Hid (errL [t] = 0 ∧ sizeL [t] ≤ 200) := by
   unfold mayE at h
   split at h
   ·exact absurd h (by decide)
   ·exact ⟨h, by omega⟩
  rw [h]
  clear h
  go_wp2_with fail
  refine (addNames_any t _ _ [] _ X' w1.heap.size (by exact HV.out.later HB.out) (fun b hb => by have := hX b hb; have := HB.out.size; omega) (Nat.le_refl _) (World.ownsRow_nil _ _ _ _) HE.out.1 (by have := HE.out.2; simp; omega)).mono ?_
  rintro e w2 ⟨q2, rfl, hna⟩
  have HNA := hide hna
  clear hna
  go_wp2_with fail
  go_ret2
  refine ⟨q2, by rw [HM.out]; rfl, fun _ => ?_, fun h => absurd HM.out h, ?_⟩
  ·exact HNA.out.lv.mono fun b hb _ => Nat.le_trans HB.out.size hb
  ·exact HB.out.trans ⟨HNA.out.2.1.os, HNA.out.2.1.tape, HNA.out.2.1.output, HNA.out.2.1.size, fun k hk => HNA.out.2.1.block k (Nat.lt_of_lt_of_le hk HB.out.size) (by simp [Value.ownBlock])⟩
 ·have h' : (mayE t == 0) = false := by simpa using h
  have HM := hide h
  clear h
  go_wp2_with fail
  go_ret2
  exact ⟨_, rfl, fun h => absurd h HM.out, fun _ => rfl, HB.out⟩
end Go.Proofs.YtbnmlkaejdpigaaGreatDoor
