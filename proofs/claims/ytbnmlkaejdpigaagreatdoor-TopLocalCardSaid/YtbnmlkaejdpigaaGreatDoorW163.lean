import Derived.Test.YtbnmlkaejdpigaaGreatDoorZCTopLocalOwn
import Derived.Test.YtbnmlkaejdpigaaGreatDoorZBTopLocalOwn
import Derived.Test.YtbnmlkaejdpigaaGreatDoorW18
namespace Go.Proofs.YtbnmlkaejdpigaaGreatDoor
open Go.RowKit
set_option linter.unusedSimpArgs false
set_option linter.unusedVariables false
set_option maxRecDepth 8000
theorem inB_addV {n s : ByteArray} {acc : List ByteArray} (hn : varB n = true) : inB n (addV acc s) = (inB n acc || (s.toList == n.toList)) := by
 cases hs : varB s with
 | false =>
  rw [addV_no hs]
  have : (s.toList == n.toList) = false := by
   rw [Bool.eq_false_iff]
   intro h
   have e : s = n := bytes_inj (by simpa using h)
   rw [e, hn] at hs
   cases hs
  rw [this, Bool.or_false]
 | true =>
  cases hi : inB s acc with
  | true =>
   rw [addV_in hs hi]
   cases he : (s.toList == n.toList) with
   | false => rw [Bool.or_false]
   | true =>
    have e : s = n := bytes_inj (by simpa using he)
    rw [← e, hi]; rfl
  | false =>
   rw [addV_yes hs hi]
   unfold inB
   rw [List.any_append]
   simp
theorem vars_occ {n : ByteArray} (hn : varB n = true) : ∀ (ks : List Tm) (acc : List ByteArray), inB n (varsP acc ks) = (inB n acc || ks.any fun k => k.name.toList == n.toList)
 | [], acc => by simp [varsP]
 | k :: ks, acc => by
  have h := vars_occ hn ks (addV acc k.name)
  show inB n (varsP (addV acc k.name) ks) = _
  rw [h, inB_addV hn, List.any_cons, Bool.or_assoc]
theorem vars_var : ∀ (ks : List Tm) (acc : List ByteArray), (∀ n ∈ acc, varB n = true) → ∀ n ∈ varsP acc ks, varB n = true
 | [], acc, h => h
 | k :: ks, acc, h => vars_var ks (addV acc k.name) fun n hn => by
  unfold addV at hn
  split at hn
  ·rename_i hc
   rcases List.mem_append.1 hn with h1 | h1
   ·exact h n h1
   ·rw [List.mem_singleton.1 h1]
    simp at hc
    exact hc.1
  ·exact h n hn
theorem vars_holds {n : ByteArray} (hn : varB n = true) (t : Tm) : inB n (varsP [] (preL [t])) = occB n [t] := by
 rw [vars_occ hn]
 simp [inB, occB]
theorem not_all (l : Tm) : ∀ ns : List ByteArray, (∀ n ∈ ns, varB n = true) → (ns.any fun n => !occB n [l]) = !(ns.all fun n => inB n (varsP [] (preL [l])))
 | [], _ => by simp
 | n :: ns, h => by
  rw [List.any_cons, List.all_cons, not_all l ns (fun m hm => h m (by simp [hm])), vars_holds (h n (by simp)), Bool.not_and]
theorem any_takeR {l : List ByteArray} {f : ByteArray → Bool} {k : Nat} (h : k < l.length) : (l.take (k + 1)).any f = ((l.take k).any f || f l[k]) := by
 rw [List.take_succ_eq_append_getElem h, List.any_append]
 simp
theorem any_yes {l : List ByteArray} {f : ByteArray → Bool} {k : Nat} (h : k < l.length) (h0 : f l[k] = true) : l.any f = true := List.any_eq_true.2 ⟨_, List.getElem_mem h, h0⟩
def NotIn (P : Nat) (p : Pr) (a1 a2 : Option Addr) (c1 c2 : Nat) (w : World) : Prop := Blk w P #[.string p.l.name, .slice a1 p.l.args.length c1, .string p.r.name, .slice a2 p.r.args.length c2] 34 ∧ Sl w (fun _ => True) a1 p.l.args
set_option maxHeartbeats 400000 in
theorem notIn_any (P : Nat) (p : Pr) (a1 a2 : Option Addr) (c1 c2 : Nat) (n : ByteArray) (w : World) (h : NotIn P p a1 a2 c1 c2 w) :
  Calls Tryz.prog 39 #[.string n, .pointer (some ⟨P, 0, none⟩)] w fun e w' => e = .returned (.bool (!occB n [p.l])) ∧ Below w.heap.size w w' := by
 have H := hide h
 have d0 := h.1.c0
 have d1 := h.1.c1
 clear h
 go_enter Tryz.func39, Tryz.ntmps39
 go_wp2_with fail
 refine (holds_any n p.l _ _ (fun _ => True) ⟨_, _, rfl, H.out.2⟩).mono ?_
 rintro e w1 ⟨rfl, hb1⟩
 have HB1 := hide hb1
 clear hb1
 go_wp2_with fail
 go_ret
 exact ⟨rfl, HB1.out⟩
def IsInv (f : ByteArray → Bool) (l : List ByteArray) (w : World) (v : Value) (wr : World) : Prop := ∃ k : Nat, k ≤ l.length ∧ v = .int .i64 (k : Int) ∧ (l.take k).any f = false ∧ Below w.heap.size w wr
set_option maxHeartbeats 400000 in
theorem indexFuncS_of (P : Nat) (p : Pr) (a1 a2 : Option Addr) (c1 c2 : Nat) (l : List ByteArray) (v : Value) (w : World) (X : Nat → Prop) (hv : LV Value.string w X v l) (hp : NotIn P p a1 a2 c1 c2 w) :
  Calls Tryz.prog 65 #[v, .func (.func 39) #[] #[.pointer (some ⟨P, 0, none⟩)]] w fun e w' => (∃ i : Int, e = .returned (.int .i64 i) ∧ decide (0 ≤ i) = l.any fun n => !occB n [p.l]) ∧ Below w.heap.size w w' := by
 have HV := hide hv
 have HP := hide hp
 obtain ⟨a, c, rfl, ⟨hl, _⟩, _⟩ := hv
 clear hp
 go_enter Tryz.func65, Tryz.ntmps65
 go_wp2_with fail
 go_loopw [8] (fun v wr => IsInv (fun n => !occB n [p.l]) l w v wr) (fun v wr => l.length - (intOf v).toNat)
 case atStart => exact ⟨0, Nat.zero_le _, rfl, by simp, Below.refl _ _⟩
 case round =>
  obtain ⟨k, hk, rfl, hT, hb⟩ := hrel
  have HT := hide hT
  have HB := hide hb
  clear hT
  by_cases hlt : k < l.length
  ·have hlt2 : (k : Int) < (l.length : Int) := by omega
   obtain ⟨a', c', ev, _, h1⟩ := HV.out.later hb
   simp at ev
   obtain ⟨rfl, rfl⟩ := ev
   obtain ⟨b, o, rfl, _, hc⟩ := h1.resolve_left (fun h => by rw [h] at hlt; simp at hlt)
   have d0 := hc k hlt
   have CK := hide (notIn_any P p a1 a2 c1 c2 l[k] wr ⟨HP.out.1.below hb HP.out.1.lt, HP.out.2.later hb⟩)
   have HTK := hide (any_takeR (f := fun n => !occB n [p.l]) hlt)
   have HYS := hide (any_yes (f := fun n => !occB n [p.l]) hlt)
   clear hc h1 hb
   generalize l[k] = y at *
   go_wp2_with fail
   refine CK.out.mono ?_
   rintro e w1 ⟨rfl, hb1⟩
   have HB1 := hide (HB.out.trans (hb1.mono HB.out.size))
   clear hb1
   cases hm : occB y [p.l] with
   | false =>
    have HF := hide (HYS.out (by rw [hm]; rfl))
    go_wp2_with fail
    go_ret
    exact ⟨⟨_, rfl, by rw [HF.out]; simp⟩, HB1.out⟩
   | true =>
    have HTK2 : Hid ((l.take (k + 1)).any (fun n => !occB n [p.l]) = false) := by
     have h := HTK.out
     rw [hm, HT.out] at h
     exact h
    go_wp2_with fail
    go_roundw
    case rel => exact ⟨k + 1, by omega, by go_num, HTK2.out, HB1.out⟩
    case measure => simp [intOf]; omega
  ·have HF : Hid (false = l.any fun n => !occB n [p.l]) := by
    unfold Hid
    rw [← HT.out, List.take_of_length_le (by omega)]
   go_wp2_with fail
   go_ret
   exact ⟨⟨-1, rfl, by rw [← HF.out]; decide⟩, HB.out⟩
set_option maxHeartbeats 400000 in
theorem containsFuncS_of (P : Nat) (p : Pr) (a1 a2 : Option Addr) (c1 c2 : Nat) (l : List ByteArray) (v : Value) (w : World) (X : Nat → Prop) (hv : LV Value.string w X v l) (hp : NotIn P p a1 a2 c1 c2 w) :
  Calls Tryz.prog 38 #[v, .func (.func 39) #[] #[.pointer (some ⟨P, 0, none⟩)]] w fun e w' => e = .returned (.bool (l.any fun n => !occB n [p.l])) ∧ Below w.heap.size w w' := by
 have IC := hide (indexFuncS_of P p a1 a2 c1 c2 l v w X hv hp)
 clear hv hp
 go_enter Tryz.func38, Tryz.ntmps38
 go_wp2_with fail
 refine IC.out.mono ?_
 rintro e w1 ⟨⟨i, rfl, hi⟩, hb1⟩
 have HI := hide hi
 have HB1 := hide hb1
 clear hi hb1
 go_wp2_with fail
 go_ret
 exact ⟨ret_bool (by rw [← HI.out]), HB1.out⟩
def firstE : List Tm → Int
 | [] => 0
 | t :: r => if mayE t = 0 then firstE r else mayE t
theorem firstE_take {l : List Tm} {k : Nat} (h : k < l.length) (h0 : firstE (l.take k) = 0) : firstE (l.take (k + 1)) = mayE l[k] ∧ (mayE l[k] ≠ 0 → firstE l = mayE l[k]) := by
 induction l generalizing k with
 | nil => simp at h
 | cons t r ih =>
  cases k with
  | zero =>
   refine ⟨?_, fun hne => ?_⟩
   ·simp only [List.take_succ_cons, List.take_zero, firstE, List.getElem_cons_zero]
    split
    ·rename_i e; exact e.symm
    ·rfl
   ·simp only [List.getElem_cons_zero] at hne ⊢
    rw [firstE, if_neg hne]
  | succ k =>
   have ht : mayE t = 0 := by
    rw [List.take_succ_cons, firstE] at h0
    split at h0
    ·assumption
    ·rename_i e; exact absurd h0 e
   rw [List.take_succ_cons, firstE, if_pos ht] at h0
   obtain ⟨h1, h2⟩ := ih (by simpa using h) h0
   simp only [List.getElem_cons_succ]
   refine ⟨by rw [List.take_succ_cons, firstE, if_pos ht]; exact h1, fun hne => by rw [firstE, if_pos ht]; exact h2 hne⟩
def CtInv (l : List Tm) (w : World) (v : Value) (wr : World) : Prop := ∃ k : Nat, k ≤ l.length ∧ v = .int .i64 (k : Int) ∧ firstE (l.take k) = 0 ∧ Below w.heap.size w wr
set_option maxHeartbeats 1000000 in
theorem checkTerms_any (l : List Tm) (a : Option Addr) (c : Nat) (w : World) (X : Nat → Prop) (hs : Sl w X a l) :
  Calls Tryz.prog 35 #[.slice a l.length c] w fun e w' => e = .returned (.int .i64 (firstE l)) ∧ Below w.heap.size w w' := by
 have HS := hide hs
 have hl := hs.1
 clear hs
 go_enter Tryz.func35, Tryz.ntmps35
 go_wp2_with fail
 go_loopw [8] (fun v wr => CtInv l w v wr) (fun v wr => l.length - (intOf v).toNat)
 case atStart => exact ⟨0, Nat.zero_le _, rfl, by simp [firstE], Below.refl _ _⟩
 case round =>
  obtain ⟨k, hk, rfl, hT, hb⟩ := hrel
  have HT := hide hT
  have HB := hide hb
  clear hT
  by_cases hlt : k < l.length
  ·have hlt2 : (k : Int) < (l.length : Int) := by omega
   obtain ⟨b, o, a', c', rfl, d0, d1, hx⟩ := HS.out.get hb (fun _ _ h => h) k hlt
   have HX := hide hx
   have HTK := hide (firstE_take hlt HT.out)
   clear hx hb
   generalize l[k] = y at *
   go_wp2_with fail
   refine (check_any y _ _ X (by exact HX.out.later ((Below.refl _ _).alloc (Nat.le_refl _) _))).mono ?_
   rintro e w1 ⟨rfl, hb1⟩
   have HB1 := hide ((HB.out.alloc HB.out.size (.cells #[.string y.name, .slice a' y.args.length c'] 32)).trans (hb1.mono (by have := HB.out.size; simp; omega)))
   clear hb1
   by_cases hm : mayE y = 0
   ·have HZ : Hid (firstE (l.take (k + 1)) = 0) := by unfold Hid; rw [HTK.out.1, hm]
    rw [hm]
    clear hm
    go_wp2_with fail
    go_roundw
    case rel => exact ⟨k + 1, by omega, by go_num, HZ.out, HB1.out⟩
    case measure => simp [intOf]; omega
   ·have hm2 : (mayE y == 0) = false := by simpa using hm
    have HF := hide (HTK.out.2 hm)
    clear hm
    go_wp2_with fail
    go_ret
    exact ⟨ret_int HF.out.symm, HB1.out⟩
  ·have HF : Hid (0 = firstE l) := by
    unfold Hid
    rw [← HT.out, List.take_of_length_le (by omega)]
   go_wp2_with fail
   go_ret
   exact ⟨ret_int HF.out, HB.out⟩
theorem firstE_two (a b : Tm) : firstE [a, b] = twoE a b := by
 simp only [firstE, twoE]
 by_cases h1 : mayE a = 0
 ·rw [if_pos h1, if_pos h1]
  by_cases h2 : mayE b = 0
  ·rw [if_pos h2, h2]
  ·rw [if_neg h2]
 ·rw [if_neg h1, if_neg h1]
theorem sl_twoR {w : World} {B : Nat} {t5 t6 : Tm} {a5 a6 : Option Addr} {c5 c6 T : Nat} (hb : Blk w B #[.string t5.name, .slice a5 t5.args.length c5, .string t6.name, .slice a6 t6.args.length c6] T) (h5 : Sl w (fun _ => True) a5 t5.args) (h6 : Sl w (fun _ => True) a6 t6.args) : Sl w (fun _ => True) (some ⟨B, 0, none⟩) [t5, t6] := by
 refine ⟨by simp, Or.inr ⟨B, 0, rfl, lies_mk _ _ _ fun i hi => ?_⟩⟩
 have h01 : i = 0 ∨ i = 1 := by simp at hi; omega
 rcases h01 with rfl | rfl
 ·exact ⟨trivial, hb.cell 0, a5, c5, hb.cell 1, h5⟩
 ·exact ⟨trivial, hb.cell 2, a6, c6, hb.cell 3, h6⟩
set_option maxHeartbeats 2000000 in
theorem checkRule_any (p : Pr) (a1 a2 : Option Addr) (c1 c2 : Nat) (w : World) (X : Nat → Prop) (hs1 : Sl w X a1 p.l.args) (hs2 : Sl w X a2 p.r.args) :
  Calls Tryz.prog 18 #[.agg #[.string p.l.name, .slice a1 p.l.args.length c1, .string p.r.name, .slice a2 p.r.args.length c2]] w fun e w' => e = .returned (.int .i64 (ruleE p)) ∧ Below w.heap.size w w' := by
 have S1 := hide (hs1.mono (Y := fun _ => True) fun _ _ _ => trivial)
 have S2 := hide (hs2.mono (Y := fun _ => True) fun _ _ _ => trivial)
 clear hs1 hs2
 have hmf : ∀ (fn : Fn) (first cap : Array Value) (w : World), (Instr.makeFunc fn first cap).run Tryz.prog w = .ok (.func fn first cap) w := fun _ _ _ _ => rfl
 have HW : Hid (Blk ((w.alloc (.cells #[.string p.l.name, .slice a1 p.l.args.length c1, .string p.r.name, .slice a2 p.r.args.length c2] 34)).alloc (.cells #[.string p.l.name, .slice a1 p.l.args.length c1, .string p.r.name, .slice a2 p.r.args.length c2] 32)) w.heap.size #[.string p.l.name, .slice a1 p.l.args.length c1, .string p.r.name, .slice a2 p.r.args.length c2] 34 ∧ Blk ((w.alloc (.cells #[.string p.l.name, .slice a1 p.l.args.length c1, .string p.r.name, .slice a2 p.r.args.length c2] 34)).alloc (.cells #[.string p.l.name, .slice a1 p.l.args.length c1, .string p.r.name, .slice a2 p.r.args.length c2] 32)) (w.heap.size + 1) #[.string p.l.name, .slice a1 p.l.args.length c1, .string p.r.name, .slice a2 p.r.args.length c2] 32 ∧ Below w.heap.size w ((w.alloc (.cells #[.string p.l.name, .slice a1 p.l.args.length c1, .string p.r.name, .slice a2 p.r.args.length c2] 34)).alloc (.cells #[.string p.l.name, .slice a1 p.l.args.length c1, .string p.r.name, .slice a2 p.r.args.length c2] 32))) := by
  have K1 := Blk.new (w.alloc (.cells #[.string p.l.name, .slice a1 p.l.args.length c1, .string p.r.name, .slice a2 p.r.args.length c2] 34)) #[.string p.l.name, .slice a1 p.l.args.length c1, .string p.r.name, .slice a2 p.r.args.length c2] 32
  rw [World.size_alloc] at K1
  exact ⟨(Blk.new w _ _).alloc _, K1, ((Below.refl _ _).alloc (Nat.le_refl _) _).alloc (by simp) _⟩
 go_enter Tryz.func18, Tryz.ntmps18
 go_wp2_with fail
 generalize ((w.alloc (.cells #[.string p.l.name, .slice a1 p.l.args.length c1, .string p.r.name, .slice a2 p.r.args.length c2] 34)).alloc (.cells #[.string p.l.name, .slice a1 p.l.args.length c1, .string p.r.name, .slice a2 p.r.args.length c2] 32)) = w2 at *
 refine (checkTerms_any [p.l, p.r] _ _ _ (fun _ => True) (sl_twoR HW.out.2.1 (S1.out.later HW.out.2.2) (S2.out.later HW.out.2.2))).mono ?_
 rintro e w3 ⟨rfl, hb3⟩
 have B3 := hide (HW.out.2.2.trans (hb3.mono HW.out.2.2.size))
 have K3 := hide (HW.out.1.below hb3 HW.out.1.lt)
 clear hb3 HW
 rw [firstE_two]
 by_cases hm : twoE p.l p.r = 0
 ·have HM : Hid (mayE p.r = 0) := by
   unfold twoE at hm
   split at hm
   ·exact hm
   ·rename_i h; exact absurd hm h
  have HRE : Hid (ruleE p = if varB p.l.name = true then 2 else if (varsP [] (preL [p.r])).all (fun n => inB n (varsP [] (preL [p.l]))) = true then 0 else 15) := by unfold Hid ruleE; rw [if_pos hm]
  rw [hm]
  clear hm
  have d0 := K3.out.c0
  have d2 := K3.out.c2
  have d3 := K3.out.c3
  go_wp2_with fail
  refine (isVariable_all _ _).mono ?_
  rintro e w4 ⟨rfl, hw4⟩
  rw [hw4]
  clear hw4 w4
  cases hv : varB p.l.name with
  | true =>
   have HE : Hid (2 = ruleE p) := by unfold Hid; rw [HRE.out, if_pos hv]
   clear hv
   go_wp2_with fail
   go_ret
   exact ⟨ret_int HE.out, B3.out⟩
  | false =>
   have HRF : Hid (ruleE p = if (varsP [] (preL [p.r])).all (fun n => inB n (varsP [] (preL [p.l]))) = true then 0 else 15) := by
    have h := HRE.out
    rw [if_neg (by rw [hv]; decide)] at h
    exact h
   clear hv HRE
   go_wp2_with fail
   refine (namesOf_any p.r _ _ (fun _ => True) ⟨_, _, rfl, S2.out.later B3.out⟩).mono ?_
   rintro e w5 ⟨v5, rfl, hlv, _, hb5⟩
   have L5 := hide (hlv HM.out)
   have B5 := hide (B3.out.trans (hb5.mono B3.out.size))
   have K5 := hide (K3.out.below hb5 K3.out.lt)
   rw [HM.out]
   clear hlv hb5 d0 d2 d3
   have HNA := hide (not_all p.l (varsP [] (preL [p.r])) (vars_var _ _ (by simp)))
   go_wp2_with fail
   refine (containsFuncS_of w.heap.size p a1 a2 c1 c2 (varsP [] (preL [p.r])) _ _ _ (by exact L5.out) ⟨K5.out, S1.out.later B5.out⟩).mono ?_
   rintro e w6 ⟨rfl, hb6⟩
   have B6 := hide (B5.out.trans (hb6.mono B5.out.size))
   clear hb6
   rw [HNA.out]
   cases ha : (varsP [] (preL [p.r])).all (fun n => inB n (varsP [] (preL [p.l]))) with
   | true =>
    have HE : Hid (0 = ruleE p) := by unfold Hid; rw [HRF.out, if_pos ha]
    clear ha
    go_wp2_with fail
    go_ret
    exact ⟨ret_int HE.out, B6.out⟩
   | false =>
    have HE : Hid (15 = ruleE p) := by unfold Hid; rw [HRF.out, if_neg (by rw [ha]; decide)]
    clear ha
    go_wp2_with fail
    go_ret
    exact ⟨ret_int HE.out, B6.out⟩
 ·have hm2 : (twoE p.l p.r == 0) = false := by simpa using hm
  have HE : Hid (twoE p.l p.r = ruleE p) := by unfold Hid ruleE; rw [if_neg hm]
  clear hm
  go_wp2_with fail
  go_ret
  exact ⟨ret_int HE.out, B3.out⟩
set_option maxHeartbeats 2000000 in
theorem rCheck_any (ls : List Pr) (u : Value) (w : World) (X : Nat → Prop) (hu : QV w X u ls) :
  Calls Tryz.prog 11 #[u] w fun e w' => e = .returned (.int .i64 (rulesE ls)) ∧ Below w.heap.size w w' := by
 have HU := hide (hu.mono (Y := fun b => X b ∧ b < w.heap.size) fun b h1 h2 => ⟨h1, h2⟩)
 obtain ⟨a, c, rfl, hl, hu2⟩ := hu
 clear hu2
 go_enter Tryz.func11, Tryz.ntmps11
 by_cases h40 : 40 < ls.length
 ·go_wp2_with fail
  go_ret
  exact ⟨ret_int (by unfold rulesE; rw [if_pos h40]), Below.refl _ _⟩
 go_wp2_with fail
 go_loopw [11] (fun v wr => RmInv ls w v wr) (fun v wr => ls.length - (intOf v).toNat)
 case atStart => exact ⟨0, rfl, Nat.zero_le _, rfl, Below.refl _ _⟩
 case round =>
  obtain ⟨k, rfl, hk, hT, hb⟩ := hrel
  have HB := hide hb
  have HT := hide hT
  clear hT
  by_cases hlt : k < ls.length
  ·obtain ⟨b, o, a1, c1, a2, c2, rfl, d0, d1, d2, d3, hs1, hs2⟩ := (HU.out.later hb).get k hlt
   have hlt2 : (k : Int) < (ls.length : Int) := by omega
   have HX1 := hide hs1
   have HX2 := hide hs2
   have HY := hide (rmT_err hlt h40 HT.out)
   have HN := hide (rmT_next hlt HT.out)
   clear hs1 hs2 hb
   generalize ls[k] = d at *
   go_wp2_with fail
   have hbA : Below wr.heap.size wr (wr.alloc (.cells #[.string d.l.name, .slice a1 d.l.args.length c1, .string d.r.name, .slice a2 d.r.args.length c2] 34)) := (Below.refl _ _).alloc (Nat.le_refl _) _
   refine (checkRule_any d a1 a2 c1 c2 _ _ (by exact HX1.out.later hbA) (by exact HX2.out.later hbA)).mono ?_
   rintro e w5 ⟨rfl, hb5⟩
   have HB5 := hide (HB.out.trans ((hbA.trans (hb5.mono (by simp))).mono HB.out.size))
   clear hb5 hbA
   by_cases hm : ruleE d = 0
   ·have HZ : Hid (rmT ls (k + 1) = 0) := by unfold Hid; rw [HN.out, hm]
    rw [hm]
    clear hm
    go_wp2_with fail
    go_roundw
    case rel => exact ⟨k + 1, by go_num, by omega, HZ.out, HB5.out⟩
    case measure => simp [intOf]; omega
   ·have hm2 : (ruleE d == 0) = false := by simpa using hm
    have HM := hide (HY.out hm)
    clear hm
    go_wp2_with fail
    go_ret
    exact ⟨ret_int HM.out.symm, HB5.out⟩
  ·have hkl : k = ls.length := by omega
   go_wp2_with fail
   go_ret
   exact ⟨ret_int (by unfold rulesE; rw [if_neg h40, ← hkl]; exact HT.out.symm), HB.out⟩
end Go.Proofs.YtbnmlkaejdpigaaGreatDoor
