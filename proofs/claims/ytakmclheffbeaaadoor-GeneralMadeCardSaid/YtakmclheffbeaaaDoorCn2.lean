/- Walks: terms renamed together, as the document says (Canon). -/
import Derived.Test.YtakmclheffbeaaaDoorCn1
import Derived.Test.YtakmclheffbeaaaDoorW52
import Derived.Test.YtakmclheffbeaaaDoorZGeneralMadeOwn
namespace Go.Proofs.YtakmclheffbeaaaDoor
open Go.RowKit
set_option linter.unusedSimpArgs false
set_option linter.unusedVariables false
set_option maxRecDepth 8000

theorem str_catC (a b : List UInt8) : (⟨a.toArray⟩ : ByteArray) ++ ⟨b.toArray⟩ = ⟨(a ++ b).toArray⟩ := by
  apply ByteArray.ext
  simp
theorem foldI_len : ∀ (vs acc : List ByteArray), (vs.foldl addI acc).length ≤ acc.length + vs.length
  | [], acc => by simp
  | s :: r, acc => by
    have h1 := foldI_len r (addI acc s)
    have h2 : (addI acc s).length ≤ acc.length + 1 := by unfold addI; split <;> simp
    rw [List.foldl_cons, List.length_cons]; omega
theorem foldI_take {vs acc : List ByteArray} {m : Nat} (h : m < vs.length) : (vs.take (m + 1)).foldl addI acc = addI ((vs.take m).foldl addI acc) vs[m] := by
  rw [List.take_succ_eq_append_getElem h, List.foldl_append]; rfl
/-- The variables of the first terms. -/
def nmsK (l : List Tm) (k : Nat) : List ByteArray := varsP [] (preL (l.take k))
theorem nmsK_step {l : List Tm} {k : Nat} (h : k < l.length) : (varsP [] (preL [l[k]])).foldl addI (nmsK l k) = nmsK l (k + 1) := by
  unfold nmsK
  rw [foldI_varsP, List.take_succ_eq_append_getElem h, preL_append, varsP_append]
  rfl
theorem nmsK_len {l : List Tm} {k : Nat} (h : k < l.length) : (nmsK l k).length + (varsP [] (preL [l[k]])).length ≤ sizeL l := by
  have h1 := varsP_len (preL (l.take k)) []
  have h2 := varsP_len (preL [l[k]]) []
  have h3 : (preL l).length = (preL (l.take k)).length + (preL [l[k]]).length + (preL (l.drop (k + 1))).length := by
    conv => lhs; rw [← List.take_append_drop (k + 1) l, preL_append, List.take_succ_eq_append_getElem h, preL_append]
    simp only [List.length_append]
  rw [preL_length] at h3
  unfold nmsK
  simp only [List.length_nil] at h1 h2
  omega
theorem nmsK_all {l : List Tm} {k : Nat} (h : l.length ≤ k) : nmsK l k = varsP [] (preL l) := by unfold nmsK; rw [List.take_of_length_le h]
theorem nms_len (l : List Tm) : (varsP [] (preL l)).length ≤ sizeL l := by
  have := varsP_len (preL l) []
  rw [preL_length] at this
  simpa using this
theorem LV.atC {w : World} {X : Nat → Prop} {a : Option Addr} {n c : Nat} {l : List ByteArray} (h : LV Value.string w X (.slice a n c) l) (k : Nat) (hk : k < l.length) : ∃ b o, a = some ⟨b, o, none⟩ ∧ w.cell? ⟨b, o + k, none⟩ = some (.string l[k]) := by
  obtain ⟨a2, c2, e, _, h3⟩ := h
  simp only [Value.slice.injEq] at e
  obtain ⟨rfl, _, _⟩ := e
  rcases h3 with h3 | ⟨b, o, e, _, h4⟩
  · rw [h3] at hk; simp at hk
  · exact ⟨b, o, e, h4 k hk⟩
theorem cell_one_newC (w : World) (c0 : Value) (T : Nat) : ∀ j u, [c0][j]? = some u → (w.alloc (.cells #[c0] T)).cell? ((⟨w.heap.size, 0, none⟩ : Addr).add j) = some u :=
  World.news_of_block (cs := #[c0]) (heap_alloc_new w _)
/-- One name more; what else is read stays. -/
theorem app_nameC {wr : World} {N : Nat} {q v : Value} {ns vs : List ByteArray} (s : ByteArray) (hown : wr.ownsRow N 9 1 q ns.length (ns.map Value.string)) (hv : LV Value.string wr (fun b => some b ≠ q.ownBlock) v vs) (hN : N ≤ wr.heap.size) (hl : ns.length ≤ 1000000) :
    ∃ q2 w3, (Builtin.append_ #[67, 67] 67 #[q, .slice (some ⟨wr.heap.size, 0, none⟩) 1 1]).run Tryd.prog (wr.alloc (.cells #[.string s] 9)) = .ok q2 w3 ∧ w3.ownsRow N 9 1 q2 (ns ++ [s]).length ((ns ++ [s]).map Value.string) ∧ LV Value.string w3 (fun b => some b ≠ q2.ownBlock) v vs ∧ Below N wr w3 := by
  obtain ⟨i0, hi, hz0, hz1, hz2⟩ := info_parts Tryd.infoStr
  obtain ⟨g, cap, w3, hr, ho, hg, hat, _⟩ := run_append_lies (P := Tryd.prog) (w := wr.alloc (.cells #[.string s] 9)) 67 67 N 9 i0 _ 1 16 Tryd.underlying67 hi hz0 hz1 hz2 rfl (by decide) q ns.length _ (hown.alloc _) ⟨wr.heap.size, 0, none⟩ 1 1 [.string s] rfl (cell_one_newC _ _ _) (fun u hu => by simp at hu; subst hu; rfl) (by decide) (by unfold maxLen; omega) (by omega) (by simp; omega) _ rfl
  refine ⟨_, w3, hr, by simpa using ho, ?_, ?_⟩
  · have h1 := hv.mono (Y := fun b => some b ≠ q.ownBlock ∧ b < wr.heap.size) fun b h1 h2 => ⟨h1, h2⟩
    refine (h1.kept fun b hb => ?_).mono fun b hb _ => fun e => ?_
    · rw [hg.block b (by simp; omega) hb.1, Below.heap_alloc _ _ _ hb.2]
    · simp [Value.ownBlock] at e
      rcases hat with e' | e'
      · exact hb.1 (by rw [e', e])
      · simp at e'; omega
  · exact ((Below.refl N wr).alloc hN _).grown hg (by simp; omega) (fun j hj => (hown.lt j hj).1)
/-- One binding more: a name, and a variable. -/
theorem app_bindC {wr w1 : World} {N : Nat} {Y : Nat → Prop} {u : Value} {cs : List Bc} (n z : ByteArray) (hrow : BRow wr N Y u cs) (hY : ∀ b, Y b → b < N) (hb : Below wr.heap.size wr w1) (hN : N ≤ wr.heap.size) (hl : cs.length ≤ 1000000) :
    ∃ q2 w3, (Builtin.append_ #[28, 28] 28 #[u, .slice (some ⟨w1.heap.size, 0, none⟩) 1 1]).run Tryd.prog (w1.alloc (.cells #[.string n, .string z, .slice none 0 0] 36)) = .ok q2 w3 ∧ BRow w3 N Y q2 (cs ++ [(⟨n, ⟨z, []⟩⟩, none, 0)]) ∧ Below N wr w3 := by
  obtain ⟨i0, hi, hz0, hz1, hz2⟩ := info_parts Tryd.infoBind
  have hs := hb.size
  obtain ⟨g, cap, w3, hr, ho, hg, hat, _⟩ := run_append_lies (P := Tryd.prog) (w := w1.alloc (.cells #[.string n, .string z, .slice none 0 0] 36)) 28 28 N 36 i0 _ 3 56 Tryd.underlying28 hi hz0 hz1 hz2 rfl (by decide) u cs.length (flat3 cs) ((hrow.below hb).own.alloc _) ⟨w1.heap.size, 0, none⟩ 1 1 (enc3 (⟨n, ⟨z, []⟩⟩, none, 0)) rfl (cell_three_new _ _ _ _ _) (fun x hx => by simp [enc3] at hx; rcases hx with rfl | rfl | rfl <;> rfl) (by decide) (by unfold maxLen; omega) (by omega) (by simp; omega) _ rfl
  have hp := hrow.push (w1 := w1) (x := (⟨n, ⟨z, []⟩⟩, none, 0)) hN hY hb ⟨by simp, Or.inl rfl⟩ _ rfl ho hg hat
  exact ⟨_, w3, hr, hp, ((hb.mono hN).alloc (by omega) _).grown hg (by simp; omega) (fun j hj => (hrow.own.lt j hj).1)⟩
/-- One term more. -/
theorem app_termC {wr w1 : World} {N : Nat} {Y : Nat → Prop} {u : Value} {L : List Tm} {xs : List Value} {z : Tm} {a1 : Option Addr} {c : Nat} (hrow : Row wr N 24 Y u L xs) (hY : ∀ b, Y b → b < N) (hb : Below wr.heap.size wr w1) (hN : N ≤ wr.heap.size) (hl : L.length ≤ 1000000) (hz : Sl w1 (fun b => Y b ∨ wr.heap.size ≤ b) a1 z.args) :
    ∃ q2 w3, (Builtin.append_ #[22, 22] 22 #[u, .slice (some ⟨w1.heap.size, 0, none⟩) 1 1]).run Tryd.prog (w1.alloc (.cells #[.string z.name, .slice a1 z.args.length c] 24)) = .ok q2 w3 ∧ Row w3 N 24 Y q2 (L ++ [z]) (xs ++ [.string z.name, .slice a1 z.args.length c]) ∧ Below N wr w3 := by
  obtain ⟨i0, hi, hz0, hz1, hz2⟩ := info_parts Tryd.infoTerm
  have hs := hb.size
  obtain ⟨g, cap, w3, hr, ho, hg, hat, _⟩ := run_append_lies (P := Tryd.prog) (w := w1.alloc (.cells #[.string z.name, .slice a1 z.args.length c] 24)) 22 22 N 24 i0 _ 2 40 Tryd.underlying22 hi hz0 hz1 hz2 rfl (by decide) u L.length xs ((hrow.below hb).own.alloc _) ⟨w1.heap.size, 0, none⟩ 1 1 [.string z.name, .slice a1 z.args.length c] rfl (cell_termZ _ _ _ _) (fun x hx => by simp at hx; rcases hx with rfl | rfl <;> rfl) (by decide) (by unfold maxLen; omega) (by omega) (by simp; omega) _ rfl
  have hp := hrow.push (w1 := w1) (t := z) hN hY hb ⟨a1, c, rfl, hz⟩ _ rfl ho hg hat
  exact ⟨_, w3, hr, hp, ((hb.mono hN).alloc (by omega) _).grown hg (by simp; omega) (fun j hj => (hrow.own.lt j hj).1)⟩
def CnO (w : World) (l : List Tm) (q i : Value) (wr : World) : Prop :=
  ∃ k : Nat, k ≤ l.length ∧ i = .int .i64 k ∧ wr.ownsRow w.heap.size 9 1 q (nmsK l k).length ((nmsK l k).map Value.string) ∧ Below w.heap.size w wr
def CnI (N : Nat) (w1 : World) (ns vs : List ByteArray) (v q j : Value) (wr : World) : Prop :=
  ∃ m : Nat, m ≤ vs.length ∧ j = .int .i64 m ∧ wr.ownsRow N 9 1 q ((vs.take m).foldl addI ns).length (((vs.take m).foldl addI ns).map Value.string) ∧ LV Value.string wr (fun b => some b ≠ q.ownBlock) v vs ∧ Below N w1 wr
def CnB (w2 : World) (ns : List ByteArray) (u i : Value) (wr : World) : Prop :=
  ∃ (m : Nat) (cs : List Bc), m ≤ ns.length ∧ i = .int .i64 m ∧ BRow wr w2.heap.size (fun _ => False) u cs ∧ cs.map (·.1) = bdN 0 (ns.take m) ∧ Below w2.heap.size w2 wr
def CnR (V : Nat → Prop) (w3 : World) (ls : List Bd) (l : List Tm) (u i : Value) (wr : World) : Prop :=
  ∃ (m : Nat) (xs : List Value), m ≤ l.length ∧ i = .int .i64 m ∧ Row wr w3.heap.size 24 (fun b => V b ∧ b < w3.heap.size) u (onL ls (l.take m)) xs ∧ Below w3.heap.size w3 wr
theorem bdN_take {ns : List ByteArray} {m : Nat} (h : m < ns.length) : bdN 0 (ns.take (m + 1)) = bdN 0 (ns.take m) ++ [⟨ns[m], ⟨nmZ (m + 1), []⟩⟩] := by
  rw [List.take_succ_eq_append_getElem h, bdN_push]
  have : (ns.take m).length = m := by simp; omega
  rw [this, Nat.zero_add]

set_option maxHeartbeats 4000000 in
theorem canonR_any (l : List Tm) (a : Option Addr) (c : Nat) (w : World) (X : Nat → Prop) (hs : Sl w X a l) (he : errL l = 0) (hsm : sizeL l ≤ 100000) :
    Calls Tryd.prog 14 #[.slice a l.length c] w fun e w' => ∃ a' c', e = .returned (.slice a' l.length c') ∧ Sl w' (fun b => (X b ∧ b < w.heap.size) ∨ w.heap.size ≤ b) a' (renL [] l).1 ∧ Below w.heap.size w w' := by
  obtain ⟨V, hV⟩ : ∃ V : Nat → Prop, V = fun b => (X b ∧ b < w.heap.size) ∨ w.heap.size ≤ b := ⟨_, rfl⟩
  rw [← hV]
  have HV := hide hV
  clear hV
  have HSV : Hid (Sl w V a l) := hs.mono fun b h1 h2 => by rw [HV.out]; exact Or.inl ⟨h1, h2⟩
  have HS := hide (hs.mono (Y := fun b => b < w.heap.size) fun b _ h => h)
  have hll := sizeL_len l
  have hl := hs.1
  have HE := hide he
  clear hs he
  go_enter Tryd.func14, Tryd.ntmps14
  go_wp2_with fail
  go_loopw [3, 4] (fun q i wr => CnO w l q i wr) (fun q i wr => l.length - (intOf i).toNat)
  case atStart => exact ⟨0, Nat.zero_le _, rfl, by simpa [nmsK, varsP, preL] using World.ownsRow_nil w w.heap.size 9 1, Below.refl _ _⟩
  case round =>
    obtain ⟨k, hk, rfl, hown, hb⟩ := hrel
    have HOWN := hide hown
    have HB := hide hb
    by_cases hlt : k < l.length
    · obtain ⟨b, o, a', c', rfl, d0, d1, hx⟩ := HS.out.get hb (fun b h _ => h) k hlt
      have HX := hide hx
      have hlt2 : (k : Int) < (l.length : Int) := by omega
      have hszk : sizeL [l[k]] ≤ 1000000 := by
        have := sizeL_take l k hlt
        have := sizeL_take_le l (k + 1)
        omega
      have HST := hide (nmsK_step hlt)
      have HLN := hide (nmsK_len hlt)
      clear hown hb hx
      go_wp2_with fail
      refine (varsOf_any l[k] _ _ _ HX.out hszk).mono ?_
      rintro e w1 ⟨v1, rfl, hlv, hb1⟩
      obtain ⟨av, cv, rfl, _⟩ := id hlv
      generalize varsP [] (preL [l[k]]) = vs at *
      have O1 : Hid (w1.ownsRow w.heap.size 9 1 u3 (nmsK l k).length ((nmsK l k).map Value.string)) := HOWN.out.kept (w' := w1) (row := none) ⟨hb1.os, hb1.tape, hb1.output, hb1.size, fun j hj _ => hb1.block j hj⟩ (by rcases Option.eq_none_or_eq_some (Value.ownBlock u3) with h | ⟨x, h⟩; exact Or.inl h; exact Or.inr (by rw [h]; simp))
      have V1 : Hid (LV Value.string w1 (fun b => some b ≠ Value.ownBlock u3) (.slice av vs.length cv) vs) := hlv.mono fun b h1 h2 e => by have := (HOWN.out.lt b e.symm).2; omega
      have HB1 := hide (HB.out.trans (hb1.mono HB.out.size))
      have hvl : vs.length ≤ 100000 := by have := HLN.out; omega
      have HVL := hide hvl
      clear hlv hb1 d0 d1
      go_wp2_with fail
      go_loopw [3, 6] (fun q j wr2 => CnI w.heap.size w1 (nmsK l k) vs (.slice av vs.length cv) q j wr2) (fun q j wr2 => vs.length - (intOf j).toNat)
      case atStart => exact ⟨0, Nat.zero_le _, rfl, by simpa using O1.out, V1.out, Below.refl _ _⟩
      case round =>
        obtain ⟨m, hm, rfl, hown2, hlv2, hb2⟩ := hrel
        have O2 := hide hown2
        have V2 := hide hlv2
        have B2 := hide hb2
        by_cases hmt : m < vs.length
        · obtain ⟨bv, ov, rfl, x0⟩ := hlv2.atC m hmt
          have hmt2 : (m : Int) < (vs.length : Int) := by omega
          have HTK := hide (foldI_take (acc := nmsK l k) hmt)
          have hfl := foldI_len (vs.take m) (nmsK l k)
          have hfl2 : ((vs.take m).foldl addI (nmsK l k)).length ≤ 1000000 := by
            have := HLN.out
            rw [List.length_take] at hfl
            omega
          clear hown2 hlv2 hb2 hfl
          generalize (vs.take m).foldl addI (nmsK l k) = acc at *
          cases hin : inB vs[m] acc with
          | true =>
            have HN : Hid (addI acc vs[m] = acc) := by unfold Hid addI; rw [if_pos hin]
            have HIN := hide hin
            clear hin
            go_wp2_with (go_at_call 32; refine (in_any _ _ _ _ _ (LV.of_own O2.out)).mono ?_; rintro e w' ⟨rfl, rfl⟩; rw [HIN.out])
            go_roundw
            case rel => exact ⟨m + 1, by omega, by go_num, by rw [HTK.out, HN.out]; exact O2.out, V2.out, B2.out⟩
            case measure => simp [intOf]; omega
          | false =>
            have HN : Hid (addI acc vs[m] = acc ++ [vs[m]]) := by unfold Hid addI; rw [if_neg (by rw [hin]; decide)]
            have HIN := hide hin
            clear hin
            obtain ⟨q2, w3, hr2, ho2, hv3, hb3⟩ := app_nameC vs[m] O2.out V2.out (Nat.le_trans HB1.out.size (B2.out.size)) hfl2
            have HR := hide hr2
            have HO3 := hide ho2
            have HV3 := hide hv3
            have HB3 := hide (B2.out.trans hb3)
            clear hr2 ho2 hv3 hb3
            go_wp2_with (first | (go_at_call 32; refine (in_any _ _ _ _ _ (LV.of_own O2.out)).mono ?_; rintro e w' ⟨rfl, rfl⟩; rw [HIN.out]) | (at_builtin; refine wpList_append_eq rfl _ _ _ _ rfl rfl rfl HR.out ?_))
            go_roundw
            case rel => exact ⟨m + 1, by omega, by go_num, by rw [HTK.out, HN.out]; exact HO3.out, HV3.out, HB3.out⟩
            case measure => simp [intOf]; omega
        · have htk : vs.take m = vs := List.take_of_length_le (by omega)
          rw [htk, HST.out] at hown2
          have HO := hide hown2
          clear hown2 hlv2 hb2 htk
          go_wp2_with fail
          go_roundw
          case rel => exact ⟨k + 1, by omega, by go_num, HO.out, HB1.out.trans B2.out⟩
          case measure => simp [intOf]; omega
    · rw [nmsK_all (by omega : l.length ≤ k)] at hown
      obtain ⟨ns, hns⟩ : ∃ ns, ns = varsP [] (preL l) := ⟨_, rfl⟩
      have hnl := nms_len l
      rw [← hns] at hown hnl
      have HNS := hide hns
      have HNL := hide hnl
      obtain ⟨an, cn, rfl, _⟩ := id (LV.of_own hown)
      have HLV := hide ((LV.of_own hown).mono (Y := fun _ => True) fun _ _ _ => trivial)
      clear hown hb hns HOWN
      go_wp2_with fail
      obtain ⟨w2, hw2⟩ : ∃ w2, w2 = wr := ⟨_, rfl⟩
      subst hw2
      go_loopw [7, 8] (fun u i wr2 => CnB w2 ns u i wr2) (fun u i wr2 => ns.length - (intOf i).toNat)
      case atStart => exact ⟨0, [], Nat.zero_le _, rfl, BRow.start _ _ _, by simp [bdN], Below.refl _ _⟩
      case round =>
        obtain ⟨m, cs, hm, rfl, hrow, hcs, hb2⟩ := hrel
        have HROW := hide hrow
        have HCS := hide hcs
        have HB2 := hide hb2
        by_cases hmt : m < ns.length
        · obtain ⟨bn, on, rfl, x0⟩ := (HLV.out.later hb2).atC m hmt
          have hmt2 : (m : Int) < (ns.length : Int) := by omega
          have hcl : cs.length ≤ 1000000 := by
            have h1 := congrArg List.length hcs
            rw [List.length_map, bdN_len, List.length_take] at h1
            have := HNL.out
            omega
          have HTK := hide (bdN_take hmt)
          have KP : Hid (∀ w', Below wr.heap.size wr w' → w'.cell? ⟨bn, on + m, none⟩ = some (.string ns[m])) := fun w' hb => cell_later hb x0
          have kd : Below wr.heap.size wr wr.drew := (Below.refl _ _).drew
          have HSd := hide (KP.out _ kd)
          have hdl3 : 1 + (Lib.decDigits (m + 1)).length ≤ 9223372036854775807 := by have := dec_len (m + 1); have := HNL.out; omega
          have hdl2 : ¬ 9223372036854775807 < 1 + (Lib.decDigits (m + 1)).length := by omega
          have HM1 : Hid (IntKind.i64.wrap ((m : Int) + 1) = ((m + 1 : Nat) : Int)) := by unfold Hid; rw [IntKind.wrap_i64]; have := HNL.out; omega
          clear hrow hcs hb2 x0
          go_upto_region 15 with fail
          refine wp_region_held_drew (S := (fun w' => w'.cell? ⟨bn, on + m, none⟩ = some (.string ns[m]))) (by kernel_rfl) HSd.out (fun hHeld => ?_)
          refine wpAnyH_take (i := 0) (v := ?_) rfl (by kernel_rfl) (by kernel_rfl) (by kernel_rfl) (fun _ _ _ h => h) (Or.inl ⟨by rfl, ?_⟩) (by assumption) ?_
          rotate_left
          · intro w' hSw
            go_simp <;> with_reducible rfl
          try simp only [Act.put, List.setIfInBounds_toArray, List.set_cons_zero, List.set_cons_succ, List.getElem_toArray, List.getElem_cons_succ, List.getElem_cons_zero]
          refine wpAnyH_take (i := 1) (v := ?_) rfl (by kernel_rfl) (by kernel_rfl) (by kernel_rfl) (fun _ _ _ h => h) (Or.inl ⟨by rfl, ?_⟩) (by assumption) ?_
          rotate_left
          · intro w' hSw
            go_simp <;> with_reducible rfl
          try simp only [Act.put, List.setIfInBounds_toArray, List.set_cons_zero, List.set_cons_succ, List.getElem_toArray, List.getElem_cons_succ, List.getElem_cons_zero]
          refine wpAnyH_take (i := 2) (v := ?_) rfl (by kernel_rfl) (by kernel_rfl) (by kernel_rfl) (fun _ _ _ h => h) (Or.inl ⟨by rfl, ?_⟩) (by assumption) ?_
          rotate_left
          · intro w' hSw
            go_simp <;> with_reducible rfl
          try simp only [Act.put, List.setIfInBounds_toArray, List.set_cons_zero, List.set_cons_succ, List.getElem_toArray, List.getElem_cons_succ, List.getElem_cons_zero]
          refine wpAnyH_take (i := 3) (v := ?_) rfl (by kernel_rfl) (by kernel_rfl) (by kernel_rfl) (fun _ _ _ h => h) (Or.inl ⟨by rfl, ?_⟩) (by assumption) ?_
          rotate_left
          · intro w' hSw
            go_simp <;> with_reducible rfl
          try simp only [Act.put, List.setIfInBounds_toArray, List.set_cons_zero, List.set_cons_succ, List.getElem_toArray, List.getElem_cons_succ, List.getElem_cons_zero]
          refine wpAnyH_take (i := 4) (v := ?_) rfl (by kernel_rfl) (by kernel_rfl) (by kernel_rfl) (fun _ _ _ h => h) (Or.inl ⟨by rfl, ?_⟩) (by assumption) ?_
          rotate_left
          · intro w' hSw
            have x0 := hSw
            go_simp <;> with_reducible rfl
          try simp only [Act.put, List.setIfInBounds_toArray, List.set_cons_zero, List.set_cons_succ, List.getElem_toArray, List.getElem_cons_succ, List.getElem_cons_zero]
          refine wpAnyH_take (i := 5) (v := ?_) rfl (by kernel_rfl) (by kernel_rfl) (by kernel_rfl) (fun _ _ _ h => h) (Or.inl ⟨by rfl, ?_⟩) (by assumption) ?_
          rotate_left
          · intro w' hSw
            go_simp <;> with_reducible rfl
          try simp only [Act.put, List.setIfInBounds_toArray, List.set_cons_zero, List.set_cons_succ, List.getElem_toArray, List.getElem_cons_succ, List.getElem_cons_zero]
          refine wpAnyH_take (i := 6) (v := ?_) rfl (by kernel_rfl) (by kernel_rfl) (by kernel_rfl) (fun _ _ _ h => h) (Or.inl ⟨by rfl, ?_⟩) (by assumption) ?_
          rotate_left
          · intro w' hSw
            go_simp <;> with_reducible rfl
          try simp only [Act.put, List.setIfInBounds_toArray, List.set_cons_zero, List.set_cons_succ, List.getElem_toArray, List.getElem_cons_succ, List.getElem_cons_zero]
          refine wpAnyH_ready (rs := [7]) (by kernel_rfl) (by simp) ?_
          refine AllReadyH.cons rfl (fun K hK => ?_) AllReadyH.nil
          go_simp
          go_at_call 8
          rw [HM1.out]
          refine (dec_any (m + 1) (by have := HNL.out; omega) _).mono ?_
          rintro e w5 ⟨rfl, hb5⟩
          have k5 : Below wr.heap.size wr w5 := kd.trans (hb5.mono kd.size)
          clear hb5
          go_simp
          refine hK.out _ _ (by exact KP.out _ k5) (fun hHeld => ?_)
          clear hK K
          try simp only [Act.put, List.setIfInBounds_toArray, List.set_cons_zero, List.set_cons_succ, List.getElem_toArray, List.getElem_cons_succ, List.getElem_cons_zero]
          refine wpAnyH_take (i := 8) (v := ?_) rfl (by kernel_rfl) (by kernel_rfl) (by kernel_rfl) (fun _ _ _ h => h) (Or.inl ⟨by rfl, ?_⟩) (by assumption) ?_
          rotate_left
          · intro w' hSw
            go_simp <;> with_reducible rfl
          try simp only [Act.put, List.setIfInBounds_toArray, List.set_cons_zero, List.set_cons_succ, List.getElem_toArray, List.getElem_cons_succ, List.getElem_cons_zero]
          refine wpAnyH_take (i := 9) (v := ?_) rfl (by kernel_rfl) (by kernel_rfl) (by kernel_rfl) (fun _ _ _ h => h) (Or.inl ⟨by rfl, ?_⟩) (by assumption) ?_
          rotate_left
          · intro w' hSw
            go_simp <;> with_reducible rfl
          try simp only [Act.put, List.setIfInBounds_toArray, List.set_cons_zero, List.set_cons_succ, List.getElem_toArray, List.getElem_cons_succ, List.getElem_cons_zero]
          refine wpAnyH_take (i := 10) (v := ?_) rfl (by kernel_rfl) (by kernel_rfl) (by kernel_rfl) (fun _ _ _ h => h) (Or.inl ⟨by rfl, ?_⟩) (by assumption) ?_
          rotate_left
          · intro w' hSw
            go_simp <;> with_reducible rfl
          try simp only [Act.put, List.setIfInBounds_toArray, List.set_cons_zero, List.set_cons_succ, List.getElem_toArray, List.getElem_cons_succ, List.getElem_cons_zero]
          have hcat : (⟨#[90]⟩ : ByteArray) ++ ⟨(Lib.decDigits (m + 1)).toArray⟩ = nmZ (m + 1) := str_catC [90] (Lib.decDigits (m + 1))
          try rw [hcat]
          clear hcat
          obtain ⟨q2, w6, hr, hrow6, hb6⟩ := app_bindC ns[m] (nmZ (m + 1)) HROW.out (fun _ h => h.elim) k5 HB2.out.size hcl
          have k6 : Below wr.heap.size wr (w5.alloc (.cells #[.string ns[m], .string (nmZ (m + 1)), .slice none 0 0] 36)) := k5.alloc k5.size _
          have HR := hide hr
          have HROW6 := hide hrow6
          have HB6 := hide (HB2.out.trans hb6)
          have HXB : Hid (w6.cell? ⟨bn, on + m, none⟩ = some (.string ns[m])) := (((HLV.out.later HB6.out).atC m hmt).elim fun b h => h.elim fun o h => by simp at h; obtain ⟨⟨rfl, rfl⟩, h⟩ := h; exact h)
          clear hr hrow6 hb6
          refine wpAnyH_ready (rs := [11]) (by kernel_rfl) (by simp) ?_
          refine AllReadyH.cons rfl (fun K hK => ?_) AllReadyH.nil
          go_simp
          refine hK.out _ _ (by exact KP.out _ k6) (fun hHeld => ?_)
          clear hK K
          try simp only [Act.put, List.setIfInBounds_toArray, List.set_cons_zero, List.set_cons_succ, List.getElem_toArray, List.getElem_cons_succ, List.getElem_cons_zero]
          refine wpAnyH_ready (rs := [12]) (by kernel_rfl) (by simp) ?_
          refine AllReadyH.cons rfl (fun K hK => ?_) AllReadyH.nil
          refine step_append_eqM rfl _ _ _ _ rfl rfl rfl HR.out ?_
          refine hK.out _ _ (by exact HXB.out) (fun hHeld => ?_)
          clear hK K
          try simp only [Act.put, List.setIfInBounds_toArray, List.set_cons_zero, List.set_cons_succ, List.getElem_toArray, List.getElem_cons_succ, List.getElem_cons_zero]
          refine wpAnyH_take (i := 13) (v := ?_) rfl (by kernel_rfl) (by kernel_rfl) (by kernel_rfl) (fun _ _ _ h => h) (Or.inl ⟨by rfl, ?_⟩) (by assumption) ?_
          rotate_left
          · intro w' hSw
            go_simp <;> with_reducible rfl
          try simp only [Act.put, List.setIfInBounds_toArray, List.set_cons_zero, List.set_cons_succ, List.getElem_toArray, List.getElem_cons_succ, List.getElem_cons_zero]
          refine wpAnyH_done (by kernel_rfl) ?_ _
          go_wp2_with fail
          go_roundw
          case rel => exact ⟨m + 1, _, by omega, by go_num, HROW6.out, by rw [HTK.out, List.map_append, HCS.out]; rfl, HB6.out⟩
          case measure => simp [intOf]; omega
        · have htk : ns.take m = ns := List.take_of_length_le (by omega)
          rw [htk] at hcs
          have hbv := hrow.bv
          rw [hcs, HNS.out] at hbv
          obtain ⟨aS, cS, rfl, _⟩ := id hbv
          have HBV := hide (hbv.mono (Y := V) fun b h1 _ => by rw [HV.out]; exact Or.inr (h1.elim (fun h => h.elim) fun h => Nat.le_trans HB.out.size h))
          have HON := hide (canon_on HE.out)
          have HBW := hide (HB.out.trans (hb2.mono HB.out.size))
          clear hrow hcs hb2 htk hbv HROW HCS
          generalize bdN 0 (varsP [] (preL l)) = ls at *
          go_wp2_with fail
          obtain ⟨w4, hw4⟩ : ∃ w4, w4 = wr := ⟨_, rfl⟩
          subst hw4
          go_loopw [9, 10] (fun u i wr => CnR V w4 ls l u i wr) (fun u i wr => l.length - (intOf i).toNat)
          case atStart => exact ⟨0, [], Nat.zero_le _, rfl, by simpa [onL] using Row.start w4 w4.heap.size 24 (fun b => V b ∧ b < w4.heap.size), Below.refl _ _⟩
          case round =>
            obtain ⟨p, xs, hp, rfl, hrow, hb3⟩ := hrel
            have HROW := hide hrow
            have HB3 := hide hb3
            by_cases hpt : p < l.length
            · obtain ⟨b, o, a', c', rfl, d0, d1, hx⟩ := ((HSV.out.later HBW.out).mono (Y := fun b => V b ∧ b < w4.heap.size) fun b h1 h2 => ⟨h1, h2⟩).get hb3 (fun b _ h => h) p hpt
              have HX := hide hx
              have hpt2 : (p : Int) < (l.length : Int) := by omega
              have hszk : sizeL [l[p]] ≤ 1000000 := by
                have := sizeL_take l p hpt
                have := sizeL_take_le l (p + 1)
                omega
              have hOL : (onL ls (l.take p)).length ≤ 1000000 := by rw [onL_length]; simp; omega
              have HTK := hide (onL_take ls l p hpt)
              clear hrow hb3 hx
              go_wp2_with fail
              refine (on_any ls l[p] _ _ _ _ ((HBV.out.mono (Y := fun b => V b ∧ b < w4.heap.size) fun b h1 h => ⟨h1, h⟩).later HB3.out) HX.out hszk).mono ?_
              rintro e w1 ⟨a1, c1, rfl, hs1, hb1⟩
              generalize onT ls l[p] = z at *
              obtain ⟨q2, w5, hr, hrow5, hb5⟩ := app_termC HROW.out (fun b h => h.2) hb1 HB3.out.size hOL (c := c1) (hs1.mono (Y := fun b => (V b ∧ b < w4.heap.size) ∨ wr.heap.size ≤ b) fun b h _ => h.imp (fun h => h.1) id)
              have HR := hide hr
              have HROW5 := hide hrow5
              have HB5 := hide (HB3.out.trans hb5)
              clear hr hrow5 hb5 hs1 hb1 d0 d1
              go_wp2_with (at_builtin; refine wpList_append_eq rfl _ _ _ _ rfl rfl rfl HR.out ?_)
              go_roundw
              case rel => exact ⟨p + 1, _, by omega, by go_num, by rw [HTK.out]; exact HROW5.out, HB5.out⟩
              case measure => simp [intOf]; omega
            · have htk : l.take p = l := List.take_of_length_le (by omega)
              rw [htk, HON.out] at hrow
              obtain ⟨ar, cr, rfl, hsr⟩ := hrow.sl
              have HSR := hide hsr
              have hrl : (renL [] l).1.length = l.length := renL_len l []
              clear hrow hb3 htk hsr
              go_wp2_with fail
              go_ret
              exact ⟨ar, cr, by rw [hrl]; rfl, HSR.out.mono fun b h1 _ => h1.elim (fun h => h.1) fun h => by rw [HV.out]; exact Or.inr (Nat.le_trans HBW.out.size h), HBW.out.trans (HB3.out.mono HBW.out.size)⟩
end Go.Proofs.YtakmclheffbeaaaDoor
