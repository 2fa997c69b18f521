/- Walks: the text of a lambda term, as the document writes it. -/
import Derived.Test.YtfbligcampbchaaDoorLt3
import Derived.Test.YtfbligcampbchaaDoorL4
import Derived.Laws.OwnMore
namespace Go.Proofs.YtfbligcampbchaaDoor
open Go.RowKit
set_option linter.unusedSimpArgs false
set_option linter.unusedVariables false
set_option maxRecDepth 8000

/-- The names of the first binders. -/
def xsN (d : Nat) : List ByteArray := (List.range d).map fun k => ⟨(120 :: Lib.decDigits k).toArray⟩
theorem xsN_len (d : Nat) : (xsN d).length = d := by simp [xsN]
theorem xsN_succ (d : Nat) : xsN (d + 1) = xsN d ++ [⟨(120 :: Lib.decDigits d).toArray⟩] := by simp [xsN, List.range_succ]
theorem xsN_get (d k : Nat) (h : k < (xsN d).length) : (xsN d)[k] = ⟨(120 :: Lib.decDigits k).toArray⟩ := by simp [xsN]

/-- What a name looks like, found by its place. -/
theorem nm_get (fr : List ByteArray) (d m : Nat) (x : Int) (hx0 : 0 ≤ x) (hm : (m : Int) = fr.length + d - 1 - x) (h : m < (fr ++ xsN d).length) : ((fr ++ xsN d)[m]).data.toList = nmAt fr (d - 1 - x) := by
  unfold nmAt
  by_cases hk : (d : Int) - 1 - x < 0
  · rw [if_pos hk]
    have h1 : m < fr.length := by omega
    have h2 : ((fr.length : Int) + (d - 1 - x)).toNat = m := by omega
    rw [h2, List.getElem_append_left h1, List.getElem?_eq_getElem h1]
    rfl
  · rw [if_neg hk]
    have h1 : fr.length ≤ m := by omega
    have h2 : ((d : Int) - 1 - x).toNat = m - fr.length := by omega
    rw [List.getElem_append_right h1, xsN_get, h2]


/-- All of one list behind an empty one of one's own. -/
theorem app_spread {W : World} {B g : Nat} {Y : Nat → Prop} {a : Option Addr} {c : Nat} {l : List ByteArray} (hown : W.ownsRow B 9 1 (.slice (some ⟨g, 0, none⟩) 0 0) 0 []) (hB : B ≤ W.heap.size) (hl : l.length ≤ 100000) (h : LV Value.string W Y (.slice a l.length c) l) :
    ∃ v1 W1, (Builtin.append_ #[25, 25] 25 #[.slice (some ⟨g, 0, none⟩) 0 0, .slice a l.length c]).run Tryd.prog W = .ok v1 W1 ∧ W1.ownsRow B 9 1 v1 l.length (l.map Value.string) ∧ W.grownBy W1 (some g) := by
  obtain ⟨i0, hi, hz0, hz1, hz2⟩ := info_parts Tryd.infoStr
  obtain ⟨a2, c2, e, ⟨h1, h2⟩, h3⟩ := h
  simp at e
  obtain ⟨rfl, rfl⟩ := e
  cases a with
  | none =>
    rcases h3 with rfl | ⟨b, o, e, _⟩
    · refine ⟨_, W, ?_, hown, ⟨rfl, rfl, rfl, Nat.le_refl _, fun k hk _ => rfl⟩⟩
      have hrun : ∀ cc, (Builtin.append_ #[25, 25] 25 #[.slice (some ⟨g, 0, none⟩) 0 0, .slice none 0 cc]).run Tryd.prog W = .ok (.slice (some ⟨g, 0, none⟩) 0 0) W := fun cc => by
        simp [Builtin.append_, run_underlying Tryd.underlying25, sizeOf, typeInfo, hi, Builtin.lenOf, Builtin.firstCells, storeCells]
      exact hrun c
    · cases e
  | some ad =>
    obtain ⟨v1, W1, hr, ho, hg, _⟩ := run_append_own (P := Tryd.prog) W B 25 25 9 i0 _ 1 16 Tryd.underlying25 hi hz0 hz1 hz2 rfl (by decide) _ 0 [] hown ad l.length c (l.map Value.string) (by simp) (fun j u hj => by
      rcases h3 with rfl | ⟨b, o, e, hY, h3⟩
      · simp at hj
      · cases e
        rw [List.getElem?_map] at hj
        obtain ⟨y, hy, rfl⟩ := Option.map_eq_some_iff.1 hj
        obtain ⟨hlt, rfl⟩ := List.getElem?_eq_some_iff.1 hy
        have hq := h3 j hlt
        have ea : (⟨b, o, none⟩ : Addr).add j = ⟨b, o + j, none⟩ := by unfold Addr.add; split <;> simp_all
        rw [ea]; exact hq) (fun x hx => by simp at hx; obtain ⟨y, _, rfl⟩ := hx; rfl) (by unfold maxLen; omega) (by omega) hB
    exact ⟨v1, W1, hr, by simpa using ho, by simpa [Value.ownBlock] using hg⟩

/-- One more. -/
theorem app_one {W : World} {B P : Nat} {v : Value} {s : ByteArray} {l : List ByteArray} (hown : W.ownsRow B 9 1 v l.length (l.map Value.string)) (hB : B ≤ W.heap.size) (hl : l.length ≤ 100000) (hP : W.cell? ⟨P, 0, none⟩ = some (.string s)) :
    ∃ v1 W1, (Builtin.append_ #[25, 25] 25 #[v, .slice (some ⟨P, 0, none⟩) 1 1]).run Tryd.prog W = .ok v1 W1 ∧ W1.ownsRow B 9 1 v1 (l.length + 1) ((l ++ [s]).map Value.string) ∧ W.grownBy W1 v.ownBlock := by
  obtain ⟨i0, hi, hz0, hz1, hz2⟩ := info_parts Tryd.infoStr
  obtain ⟨v1, W1, hr, ho, hg, _⟩ := run_append_own (P := Tryd.prog) W B 25 25 9 i0 _ 1 16 Tryd.underlying25 hi hz0 hz1 hz2 rfl (by decide) _ l.length _ hown ⟨P, 0, none⟩ 1 1 [.string s] rfl (fun j u hj => by
    cases j with
    | zero => simp at hj; subst hj; exact hP
    | succ j => simp at hj) (fun x hx => by simp at hx; subst hx; rfl) (by unfold maxLen; omega) (by omega) hB
  exact ⟨v1, W1, hr, by simpa using ho, hg⟩

/-- Behind both appends: all names, and one more. -/
def ApW (N : Nat) (w1 : World) (l : List ByteArray) (v : Value) (w' : World) : Prop := LV Value.string w' (fun b => N ≤ b) v l ∧ Below N w1 w'
theorem cell_is {w w' : World} {p : Addr} {v : Value} (h : w.cell? p = some v) (hb : Below w.heap.size w w') : w'.cell? p = some v := by
  have hlt : p.block < w.heap.size := by
    apply Classical.byContradiction
    intro hn
    have : w.cell? p = none := by
      unfold World.cell?
      rw [Array.getElem?_eq_none (by omega)]
    rw [this] at h; cases h
  rw [hb.cell hlt]; exact h
theorem str_cat (a b : List UInt8) : (⟨a.toArray⟩ : ByteArray) ++ ⟨b.toArray⟩ = ⟨(a ++ b).toArray⟩ := by
  apply ByteArray.ext
  simp

set_option maxHeartbeats 4000000 in
theorem lamText_any (fr : List ByteArray) (hfl : fr.length ≤ 40) (hfn : ∀ s ∈ fr, s.size ≤ 8) (t : Lm) : ∀ (d : Nat) (v : Value) (na : Option Addr) (nc : Nat) (w : World) (X Y : Nat → Prop), errM (fr.length + d) 0 [t] = 0 → d + sizeM [t] ≤ 500 → MV w X v t → LV Value.string w Y (.slice na (fr.length + d) nc) (fr ++ xsN d) →
    Calls Tryd.prog 9 #[v, .slice na (fr.length + d : Nat) nc, .int .i64 fr.length] w fun e w' => e = .returned (.string ⟨(ltx fr d t).toArray⟩) ∧ Below w.heap.size w w' := by
  induction t using Lm.ind with
  | h k x l ih =>
    intro d v na nc w X Y he hd hv hn
    have IH := hide ih
    clear ih
    obtain ⟨a, c, rfl, hs⟩ := hv
    have HN := hide hn
    have HB0 : Hid (Below w.heap.size w (w.alloc (.cells #[.int .i64 k, .int .i64 x, .slice a l.length c] 24))) := (Below.refl _ _).alloc (Nat.le_refl _) _
    have HT0 := hide (Blk.new w #[.int .i64 k, .int .i64 x, .slice a l.length c] 24)
    have hlen : (fr ++ xsN d).length = fr.length + d := by rw [List.length_append, xsN_len]
    obtain ⟨F, hF⟩ : ∃ F : Nat, F = fr.length := ⟨_, rfl⟩
    have HLEN := hide (ltx_len fr hfn ⟨k, x, l⟩ _ d 500 he rfl hd)
    rcases may_look he with ⟨y, e, h0, h1⟩ | ⟨b, e, hb⟩ | ⟨f, z, e, hf, hz⟩ | ⟨y, e, h0, h1⟩
    · cases e
      obtain ⟨m, hm⟩ : ∃ m : Nat, (m : Int) = fr.length + d - 1 - x := ⟨(fr.length + d - 1 - x).toNat, by omega⟩
      have hml : m < (fr ++ xsN d).length := by rw [hlen]; omega
      have HE : Hid ((fr ++ xsN d)[m].data.toList = ltx fr d ⟨1, x, []⟩) := by unfold Hid; rw [ltx_bound]; exact nm_get fr d m x h0 hm hml
      obtain ⟨a2, c2, e2, ⟨_, hc2⟩, h3⟩ := hn
      simp at e2
      obtain ⟨rfl, _, rfl⟩ := e2
      obtain ⟨bn, on, rfl, hY, hcells⟩ := h3.resolve_left (fun h => by rw [h] at hml; simp at hml)
      have hcell := (hcells m hml)
      have dm : ∀ o, (w.alloc o).cell? ⟨bn, on + m, none⟩ = some (.string (fr ++ xsN d)[m]) := fun o => by
        rw [World.cell?_alloc_some w _ o (by rw [hcell]; rfl)]; exact hcell
      generalize (fr ++ xsN d)[m] = S at HE dm
      generalize hR : ltx fr d ⟨1, x, []⟩ = R at HE ⊢
      have hidx : ((fr.length + d : Nat) : Int) - 1 - x = (m : Int) := by omega
      have hidx2 : (m : Int) < ((fr.length + d : Nat) : Int) := by omega
      have hx1 : x < ((fr.length + d : Nat) : Int) := by omega
      have hL1 : ((fr.length + d : Nat) : Int) ≤ 1000 := by omega
      generalize fr.length + d = L at hidx hidx2 hx1 hL1
      clear hcell hcells h3 hm hml hlen
      go_enter Tryd.func9, Tryd.ntmps9
      go_wp2_with fail
      go_ret
      exact ⟨ret_strL (by rw [HE.out]), HB0.out⟩
    · cases e
      obtain ⟨bs, os, ab, cb, rfl, f0, f1, f2, hbv⟩ := hs.get (Below.refl w.heap.size w) (fun _ _ h => h) 0 (by simp)
      simp only [Nat.zero_mul, Nat.add_zero, List.getElem_cons_zero] at f0 f1 f2 hbv
      have hsz : sizeM [(⟨2, 0, [b]⟩ : Lm)] = 1 + sizeM [b] := by simp [sizeM]
      have hlb := ltx_len fr hfn b _ (d + 1) 500 hb (by omega) (by omega)
      have hlb2 : (ltx fr (d + 1) b).length ≤ 1000000 := by have : (500 + 60) * sizeM [b] ≤ 560 * 500 := Nat.mul_le_mul (by omega) (by omega); omega
      have hdl : (Lib.decDigits d).length ≤ 1000 := by have := dec_len d; omega
      have HE := hide (ltx_fun fr d 0 b)
      have HV := hide hbv
      have HC := hide (And.intro f0 (And.intro f1 f2))
      generalize hR : ltx fr d ⟨2, 0, [b]⟩ = R at HE HLEN ⊢
      clear hR hlb hbv hs f0 f1 f2
      have e1 : ((fr.length + d : Nat) : Int) - (fr.length : Int) = (d : Int) := by omega
      have E1 := hide e1
      have HFL := hide hlen
      clear e1 hlen
      go_enter Tryd.func9, Tryd.ntmps9
      go_wp2_with fail
      rw [show ((fr.length : Int) + (d : Int) - (fr.length : Int)) = (d : Int) from by omega]
      refine (dec_any d (by omega) _).mono ?_
      rintro e w1 ⟨rfl, hb1⟩
      have HB1 := hide (HB0.out.trans (hb1.mono (by simp)))
      have K1 := hide (HT0.out.below hb1 HT0.out.lt)
      clear hb1
      have hcat : (⟨#[120]⟩ : ByteArray) ++ ⟨(Lib.decDigits d).toArray⟩ = ⟨(120 :: Lib.decDigits d).toArray⟩ := str_cat [120] (Lib.decDigits d)
      go_wp2_with fail
      have HB9 : Hid (errM ((fr.length : Int) + ((d + 1 : Nat) : Int)) 0 [b] = 0) := by
        have e9 : ((fr.length : Int) + ((d + 1 : Nat) : Int)) = fr.length + d + 1 := by omega
        unfold Hid; rw [e9]; exact hb
      have HB1q : Hid (Below w.heap.size w w1.drew) := Below.drew HB1.out
      have K1q : Hid (Blk w1.drew w.heap.size #[.int .i64 2, .int .i64 0, .slice (some ⟨bs, os, none⟩) 1 c] 24) := K1.out
      clear HB1 K1
      refine wp_region_held_drew (S := fun w' => Below w1.drew.heap.size w1.drew w') (by kernel_rfl) (Below.refl _ _) (fun hHeld => ?_)
      generalize w1.drew = wq at *
      clear hHeld
      have hHeld : Below wq.heap.size wq wq := Below.refl _ _
      have HB1 := HB1q
      have K1 := K1q
      clear HB1q K1q
      refine wpAnyH_take (i := 0) (v := ?_) rfl (by kernel_rfl) (by kernel_rfl) (by kernel_rfl) (fun _ _ _ h => h) (Or.inl ⟨by rfl, ?_⟩) (by assumption) ?_
      rotate_left
      · intro w' hSw
        go_simp <;> with_reducible rfl
      try simp only [Act.put, List.setIfInBounds_toArray, List.set_cons_zero, List.set_cons_succ, List.getElem_toArray, List.getElem_cons_succ, List.getElem_cons_zero]
      refine wpAnyH_take (i := 1) (v := ?_) rfl (by kernel_rfl) (by kernel_rfl) (by kernel_rfl) (fun _ _ _ h => h) (Or.inl ⟨by rfl, ?_⟩) (by assumption) ?_
      rotate_left
      · intro w' hSw
        have q1 : ¬ 9223372036854775807 < 1 + ((Lib.decDigits d).length + 1) := by omega
        have q2 : ¬ 9223372036854775807 < 1 + ((Lib.decDigits d).length + 1) + 1 := by omega
        go_simp <;> with_reducible rfl
      try simp only [Act.put, List.setIfInBounds_toArray, List.set_cons_zero, List.set_cons_succ, List.getElem_toArray, List.getElem_cons_succ, List.getElem_cons_zero]
      refine wpAnyH_take (i := 2) (v := ?_) rfl (by kernel_rfl) (by kernel_rfl) (by kernel_rfl) (fun _ _ _ h => h) (Or.inl ⟨by rfl, ?_⟩) (by assumption) ?_
      rotate_left
      · intro w' hSw
        have q1 : ¬ 9223372036854775807 < 1 + ((Lib.decDigits d).length + 1) := by omega
        have q2 : ¬ 9223372036854775807 < 1 + ((Lib.decDigits d).length + 1) + 1 := by omega
        go_simp <;> with_reducible rfl
      try simp only [Act.put, List.setIfInBounds_toArray, List.set_cons_zero, List.set_cons_succ, List.getElem_toArray, List.getElem_cons_succ, List.getElem_cons_zero]
      refine wpAnyH_take (i := 3) (v := ?_) rfl (by kernel_rfl) (by kernel_rfl) (by kernel_rfl) (fun _ _ _ h => h) (Or.inl ⟨by rfl, ?_⟩) (by assumption) ?_
      rotate_left
      · intro w' hSw
        go_simp <;> with_reducible rfl
      try simp only [Act.put, List.setIfInBounds_toArray, List.set_cons_zero, List.set_cons_succ, List.getElem_toArray, List.getElem_cons_succ, List.getElem_cons_zero]
      refine wpAnyH_take (i := 4) (v := ?_) rfl (by kernel_rfl) (by kernel_rfl) (by kernel_rfl) (fun _ _ _ h => h) (Or.inl ⟨by rfl, ?_⟩) (by assumption) ?_
      rotate_left
      · intro w' hSw
        have k2 := (K1.out.below hSw K1.out.lt).cell 2
        simp only [List.getElem?_toArray, List.getElem?_cons_zero, List.getElem?_cons_succ] at k2
        have f0 := cell_is HC.out.1 (HB1.out.trans (hSw.mono HB1.out.size))
        have f1 := cell_is HC.out.2.1 (HB1.out.trans (hSw.mono HB1.out.size))
        have f2 := cell_is HC.out.2.2 (HB1.out.trans (hSw.mono HB1.out.size))
        go_simp <;> with_reducible rfl
      try simp only [Act.put, List.setIfInBounds_toArray, List.set_cons_zero, List.set_cons_succ, List.getElem_toArray, List.getElem_cons_succ, List.getElem_cons_zero]
      refine wpAnyH_take (i := 5) (v := ?_) rfl (by kernel_rfl) (by kernel_rfl) (by kernel_rfl) (fun _ _ _ h => h) (Or.inl ⟨by rfl, ?_⟩) (by assumption) ?_
      rotate_left
      · intro w' hSw
        have k2 := (K1.out.below hSw K1.out.lt).cell 2
        simp only [List.getElem?_toArray, List.getElem?_cons_zero, List.getElem?_cons_succ] at k2
        have f0 := cell_is HC.out.1 (HB1.out.trans (hSw.mono HB1.out.size))
        have f1 := cell_is HC.out.2.1 (HB1.out.trans (hSw.mono HB1.out.size))
        have f2 := cell_is HC.out.2.2 (HB1.out.trans (hSw.mono HB1.out.size))
        go_simp <;> with_reducible rfl
      try simp only [Act.put, List.setIfInBounds_toArray, List.set_cons_zero, List.set_cons_succ, List.getElem_toArray, List.getElem_cons_succ, List.getElem_cons_zero]
      refine wpAnyH_take (i := 6) (v := ?_) rfl (by kernel_rfl) (by kernel_rfl) (by kernel_rfl) (fun _ _ _ h => h) (Or.inl ⟨by rfl, ?_⟩) (by assumption) ?_
      rotate_left
      · intro w' hSw
        have k2 := (K1.out.below hSw K1.out.lt).cell 2
        simp only [List.getElem?_toArray, List.getElem?_cons_zero, List.getElem?_cons_succ] at k2
        have f0 := cell_is HC.out.1 (HB1.out.trans (hSw.mono HB1.out.size))
        have f1 := cell_is HC.out.2.1 (HB1.out.trans (hSw.mono HB1.out.size))
        have f2 := cell_is HC.out.2.2 (HB1.out.trans (hSw.mono HB1.out.size))
        go_simp <;> with_reducible rfl
      try simp only [Act.put, List.setIfInBounds_toArray, List.set_cons_zero, List.set_cons_succ, List.getElem_toArray, List.getElem_cons_succ, List.getElem_cons_zero]
      refine wpAnyH_take (i := 8) (v := ?_) rfl (by kernel_rfl) (by kernel_rfl) (by kernel_rfl) (fun _ _ _ h => h) (Or.inl ⟨by rfl, ?_⟩) (by assumption) ?_
      rotate_left
      · intro w' hSw
        go_simp <;> with_reducible rfl
      try simp only [Act.put, List.setIfInBounds_toArray, List.set_cons_zero, List.set_cons_succ, List.getElem_toArray, List.getElem_cons_succ, List.getElem_cons_zero]
      refine wpAnyH_take (i := 10) (v := ?_) rfl (by kernel_rfl) (by kernel_rfl) (by kernel_rfl) (fun _ _ _ h => h) (Or.inl ⟨by rfl, ?_⟩) (by assumption) ?_
      rotate_left
      · intro w' hSw
        go_simp <;> with_reducible rfl
      try simp only [Act.put, List.setIfInBounds_toArray, List.set_cons_zero, List.set_cons_succ, List.getElem_toArray, List.getElem_cons_succ, List.getElem_cons_zero]
      refine wpAnyH_take (i := 13) (v := ?_) rfl (by kernel_rfl) (by kernel_rfl) (by kernel_rfl) (fun _ _ _ h => h) (Or.inl ⟨by rfl, ?_⟩) (by assumption) ?_
      rotate_left
      · intro w' hSw
        go_simp <;> with_reducible rfl
      try simp only [Act.put, List.setIfInBounds_toArray, List.set_cons_zero, List.set_cons_succ, List.getElem_toArray, List.getElem_cons_succ, List.getElem_cons_zero]
      refine wpAnyH_ready (rs := [7, 11]) (by kernel_rfl) (by simp) ?_
      refine AllReadyH.cons rfl (fun K hK => ?_) (AllReadyH.cons rfl (fun K hK => ?_) AllReadyH.nil)
      · go_simp
        have HBX : Hid (Below wq.heap.size wq (wq.alloc (.cells #[] 9))) := (Below.refl _ _).alloc (Nat.le_refl _) _
        have OW : Hid ((wq.alloc (.cells #[] 9)).ownsRow wq.heap.size 9 1 (.slice (some ⟨wq.heap.size, 0, none⟩) 0 0) 0 []) := World.ownsRow_lit wq #[] 0 (Nat.le_refl _) (by unfold maxLen; omega) (by simp)
        have hz7 : (wq.alloc (.cells #[] 9)).heap.size = wq.heap.size + 1 := by simp
        refine hK.out _ _ (by exact HBX.out) (fun hHeld => ?_)
        clear hK K
        try simp only [Act.put, List.setIfInBounds_toArray, List.set_cons_zero, List.set_cons_succ, List.getElem_toArray, List.getElem_cons_succ, List.getElem_cons_zero]
        generalize (wq.alloc (.cells #[] 9)) = W7 at *
        refine wpAnyH_ready (rs := [9, 11]) (by kernel_rfl) (by simp) ?_
        refine AllReadyH.cons rfl (fun K hK => ?_) (AllReadyH.cons rfl (fun K hK => ?_) AllReadyH.nil)
        · obtain ⟨v1, W9, hr1, ho1, hg1⟩ := app_spread (B := wq.heap.size) (l := fr ++ xsN d) (a := na) (c := nc) OW.out (by have := HBX.out.size; omega) (by rw [HFL.out]; omega) (by rw [HFL.out]; exact HN.out.later (HB1.out.trans (HBX.out.mono HB1.out.size)))
          rw [HFL.out] at hr1
          have HR1 := hide hr1
          have O9' := hide ho1
          have HBY := hide (HBX.out.grown hg1 (by have := HBX.out.size; omega) (fun q hq => by cases hq; omega))
          have HG1 := hide hg1
          clear hr1 ho1 hg1
          refine step_append_eqM rfl _ _ _ _ rfl rfl rfl HR1.out ?_
          refine hK.out _ _ (by exact HBY.out) (fun hHeld => ?_)
          clear hK K
          try simp only [Act.put, List.setIfInBounds_toArray, List.set_cons_zero, List.set_cons_succ, List.getElem_toArray, List.getElem_cons_succ, List.getElem_cons_zero]
          have HBZ : Hid (Below wq.heap.size wq (W9.alloc (.cells #[.string ⟨(120 :: Lib.decDigits d).toArray⟩] 9))) := HBY.out.alloc HBY.out.size _
          refine wpAnyH_ready (rs := [11]) (by kernel_rfl) (by simp) ?_
          refine AllReadyH.cons rfl (fun K hK => ?_) AllReadyH.nil
          go_simp
          refine hK.out _ _ (by exact HBZ.out) (fun hHeld => ?_)
          clear hK K
          try simp only [Act.put, List.setIfInBounds_toArray, List.set_cons_zero, List.set_cons_succ, List.getElem_toArray, List.getElem_cons_succ, List.getElem_cons_zero]
          have O9 := hide (O9'.out.alloc (.cells #[.string ⟨(120 :: Lib.decDigits d).toArray⟩] 9))
          have PC : Hid ((W9.alloc (.cells #[.string ⟨(120 :: Lib.decDigits d).toArray⟩] 9)).cell? ⟨W9.heap.size, 0, none⟩ = some (.string ⟨(120 :: Lib.decDigits d).toArray⟩)) := (Blk.new W9 #[.string ⟨(120 :: Lib.decDigits d).toArray⟩] 9).cell 0
          have HBW := HBZ
          clear O9' HBX HBZ HR1 HG1 OW hz7
          generalize hZ : W9.heap.size = Z9 at PC ⊢
          generalize (W9.alloc (.cells #[.string ⟨(120 :: Lib.decDigits d).toArray⟩] 9)) = W11 at *
          clear hZ
          obtain ⟨v2, W12, hr2, ho2, hg2⟩ := app_one (P := Z9) (s := ⟨(120 :: Lib.decDigits d).toArray⟩) (l := fr ++ xsN d) O9.out (by have := HBW.out.size; omega) (by rw [HFL.out]; omega) PC.out
          have HR2 := hide hr2
          have HO2 := hide ho2
          have HB12 := hide (HBW.out.grown hg2 (by have := HBW.out.size; omega) (fun q hq => (O9.out.lt q hq).1))
          clear hr2 ho2 hg2
          refine wpAnyH_ready (rs := [12]) (by kernel_rfl) (by simp) ?_
          refine AllReadyH.cons rfl (fun K hK => ?_) AllReadyH.nil
          refine step_append_eqM rfl _ _ _ _ rfl rfl rfl HR2.out ?_
          refine hK.out _ _ (by exact HB12.out) (fun hHeld => ?_)
          clear hK K
          try simp only [Act.put, List.setIfInBounds_toArray, List.set_cons_zero, List.set_cons_succ, List.getElem_toArray, List.getElem_cons_succ, List.getElem_cons_zero]
          have HLV2 : Hid (LV Value.string W12 (fun q => wq.heap.size ≤ q) v2 (fr ++ xsN (d + 1))) := by
            have e8 : (fr ++ xsN d ++ [(⟨(120 :: Lib.decDigits d).toArray⟩ : ByteArray)]).length = (fr ++ xsN d).length + 1 := List.length_append
            unfold Hid; rw [xsN_succ, ← List.append_assoc]; exact LV.of_own (by rw [e8]; exact HO2.out)
          obtain ⟨a2, c2, rfl, _⟩ := HLV2.out
          have hl2 : (fr ++ xsN (d + 1)).length = fr.length + (d + 1) := by rw [List.length_append, xsN_len]
          rw [hl2] at HLV2 ⊢
          clear hl2 HO2
          refine wpAnyH_ready (rs := [14]) (by kernel_rfl) (by simp) ?_
          refine AllReadyH.cons rfl (fun K hK => ?_) AllReadyH.nil
          go_simp
          go_at_call 9
          refine (IH.out b (by simp) (d + 1) _ a2 c2 _ X _ HB9.out (by omega) (by exact HV.out.later (HB1.out.trans (HB12.out.mono HB1.out.size))) (by exact HLV2.out)).mono ?_
          rintro e w5 ⟨rfl, hb5⟩
          have HB5 := hide (HB12.out.trans (hb5.mono HB12.out.size))
          clear hb5
          go_simp
          refine hK.out _ _ (by exact HB5.out) (fun hHeld => ?_)
          clear hK K
          try simp only [Act.put, List.setIfInBounds_toArray, List.set_cons_zero, List.set_cons_succ, List.getElem_toArray, List.getElem_cons_succ, List.getElem_cons_zero]
          refine wpAnyH_take (i := 15) (v := ?_) rfl (by kernel_rfl) (by kernel_rfl) (by kernel_rfl) (fun _ _ _ h => h) (Or.inl ⟨by rfl, ?_⟩) (by assumption) ?_
          rotate_left
          · intro w' hSw
            have q3 : ¬ 9223372036854775807 < 1 + ((Lib.decDigits d).length + 1) + 1 + (ltx fr (d + 1) b).length := by omega
            go_simp <;> with_reducible rfl
          try simp only [Act.put, List.setIfInBounds_toArray, List.set_cons_zero, List.set_cons_succ, List.getElem_toArray, List.getElem_cons_succ, List.getElem_cons_zero]
          refine wpAnyH_take (i := 16) (v := ?_) rfl (by kernel_rfl) (by kernel_rfl) (by kernel_rfl) (fun _ _ _ h => h) (Or.inl ⟨by rfl, ?_⟩) (by assumption) ?_
          rotate_left
          · intro w' hSw
            go_simp <;> with_reducible rfl
          try simp only [Act.put, List.setIfInBounds_toArray, List.set_cons_zero, List.set_cons_succ, List.getElem_toArray, List.getElem_cons_succ, List.getElem_cons_zero]
          refine wpAnyH_done (by kernel_rfl) ?_ _
          go_wp2_with fail
          go_ret
          exact ⟨ret_strL (by rw [HE.out]; simp), HB1.out.trans (HB5.out.mono HB1.out.size)⟩
        · go_simp
          have HBX2 : Hid (Below wq.heap.size wq (W7.alloc (.cells #[.string ⟨(120 :: Lib.decDigits d).toArray⟩] 9))) := HBX.out.alloc HBX.out.size _
          refine hK.out _ _ (by exact HBX2.out) (fun hHeld => ?_)
          clear hK K
          try simp only [Act.put, List.setIfInBounds_toArray, List.set_cons_zero, List.set_cons_succ, List.getElem_toArray, List.getElem_cons_succ, List.getElem_cons_zero]
          have OW2 := hide (OW.out.alloc (.cells #[.string ⟨(120 :: Lib.decDigits d).toArray⟩] 9))
          have PC0 : Hid ((W7.alloc (.cells #[.string ⟨(120 :: Lib.decDigits d).toArray⟩] 9)).heap[wq.heap.size + 1]? = some (.cells #[.string ⟨(120 :: Lib.decDigits d).toArray⟩] 9 (0, 0))) := by unfold Hid; rw [← hz7]; exact heap_alloc_new _ _
          have hz8 : (W7.alloc (.cells #[.string ⟨(120 :: Lib.decDigits d).toArray⟩] 9)).heap.size = wq.heap.size + 2 := by simp [hz7]
          clear HBX OW hz7
          have HBX := HBX2
          clear HBX2
          generalize (W7.alloc (.cells #[.string ⟨(120 :: Lib.decDigits d).toArray⟩] 9)) = W11 at *
          obtain ⟨v1, W9, hr1, ho1, hg1⟩ := app_spread (B := wq.heap.size) (l := fr ++ xsN d) (a := na) (c := nc) OW2.out (by have := HBX.out.size; omega) (by rw [HFL.out]; omega) (by rw [HFL.out]; exact HN.out.later (HB1.out.trans (HBX.out.mono HB1.out.size)))
          rw [HFL.out] at hr1
          have HR1 := hide hr1
          have O9' := hide ho1
          have HBY := hide (HBX.out.grown hg1 (by have := HBX.out.size; omega) (fun q hq => by cases hq; omega))
          have HG1 := hide hg1
          clear hr1 ho1 hg1
          refine wpAnyH_ready (rs := [9]) (by kernel_rfl) (by simp) ?_
          refine AllReadyH.cons rfl (fun K hK => ?_) AllReadyH.nil
          refine step_append_eqM rfl _ _ _ _ rfl rfl rfl HR1.out ?_
          refine hK.out _ _ (by exact HBY.out) (fun hHeld => ?_)
          clear hK K
          try simp only [Act.put, List.setIfInBounds_toArray, List.set_cons_zero, List.set_cons_succ, List.getElem_toArray, List.getElem_cons_succ, List.getElem_cons_zero]
          have O9 := O9'
          have PC : Hid (W9.cell? ⟨wq.heap.size + 1, 0, none⟩ = some (.string ⟨(120 :: Lib.decDigits d).toArray⟩)) := by
            unfold Hid
            rw [Lib.cell_of_heap (by rw [HG1.out.block (wq.heap.size + 1) (by omega) (by simp)]; exact PC0.out)]; rfl
          have HBW := HBY
          clear O9' HBX HR1 HG1 OW2 hz8 PC0
          obtain ⟨v2, W12, hr2, ho2, hg2⟩ := app_one (P := wq.heap.size + 1) (s := ⟨(120 :: Lib.decDigits d).toArray⟩) (l := fr ++ xsN d) O9.out (by have := HBW.out.size; omega) (by rw [HFL.out]; omega) PC.out
          have HR2 := hide hr2
          have HO2 := hide ho2
          have HB12 := hide (HBW.out.grown hg2 (by have := HBW.out.size; omega) (fun q hq => (O9.out.lt q hq).1))
          clear hr2 ho2 hg2
          refine wpAnyH_ready (rs := [12]) (by kernel_rfl) (by simp) ?_
          refine AllReadyH.cons rfl (fun K hK => ?_) AllReadyH.nil
          refine step_append_eqM rfl _ _ _ _ rfl rfl rfl HR2.out ?_
          refine hK.out _ _ (by exact HB12.out) (fun hHeld => ?_)
          clear hK K
          try simp only [Act.put, List.setIfInBounds_toArray, List.set_cons_zero, List.set_cons_succ, List.getElem_toArray, List.getElem_cons_succ, List.getElem_cons_zero]
          have HLV2 : Hid (LV Value.string W12 (fun q => wq.heap.size ≤ q) v2 (fr ++ xsN (d + 1))) := by
            have e8 : (fr ++ xsN d ++ [(⟨(120 :: Lib.decDigits d).toArray⟩ : ByteArray)]).length = (fr ++ xsN d).length + 1 := List.length_append
            unfold Hid; rw [xsN_succ, ← List.append_assoc]; exact LV.of_own (by rw [e8]; exact HO2.out)
          obtain ⟨a2, c2, rfl, _⟩ := HLV2.out
          have hl2 : (fr ++ xsN (d + 1)).length = fr.length + (d + 1) := by rw [List.length_append, xsN_len]
          rw [hl2] at HLV2 ⊢
          clear hl2 HO2
          refine wpAnyH_ready (rs := [14]) (by kernel_rfl) (by simp) ?_
          refine AllReadyH.cons rfl (fun K hK => ?_) AllReadyH.nil
          go_simp
          go_at_call 9
          refine (IH.out b (by simp) (d + 1) _ a2 c2 _ X _ HB9.out (by omega) (by exact HV.out.later (HB1.out.trans (HB12.out.mono HB1.out.size))) (by exact HLV2.out)).mono ?_
          rintro e w5 ⟨rfl, hb5⟩
          have HB5 := hide (HB12.out.trans (hb5.mono HB12.out.size))
          clear hb5
          go_simp
          refine hK.out _ _ (by exact HB5.out) (fun hHeld => ?_)
          clear hK K
          try simp only [Act.put, List.setIfInBounds_toArray, List.set_cons_zero, List.set_cons_succ, List.getElem_toArray, List.getElem_cons_succ, List.getElem_cons_zero]
          refine wpAnyH_take (i := 15) (v := ?_) rfl (by kernel_rfl) (by kernel_rfl) (by kernel_rfl) (fun _ _ _ h => h) (Or.inl ⟨by rfl, ?_⟩) (by assumption) ?_
          rotate_left
          · intro w' hSw
            have q3 : ¬ 9223372036854775807 < 1 + ((Lib.decDigits d).length + 1) + 1 + (ltx fr (d + 1) b).length := by omega
            go_simp <;> with_reducible rfl
          try simp only [Act.put, List.setIfInBounds_toArray, List.set_cons_zero, List.set_cons_succ, List.getElem_toArray, List.getElem_cons_succ, List.getElem_cons_zero]
          refine wpAnyH_take (i := 16) (v := ?_) rfl (by kernel_rfl) (by kernel_rfl) (by kernel_rfl) (fun _ _ _ h => h) (Or.inl ⟨by rfl, ?_⟩) (by assumption) ?_
          rotate_left
          · intro w' hSw
            go_simp <;> with_reducible rfl
          try simp only [Act.put, List.setIfInBounds_toArray, List.set_cons_zero, List.set_cons_succ, List.getElem_toArray, List.getElem_cons_succ, List.getElem_cons_zero]
          refine wpAnyH_done (by kernel_rfl) ?_ _
          go_wp2_with fail
          go_ret
          exact ⟨ret_strL (by rw [HE.out]; simp), HB1.out.trans (HB5.out.mono HB1.out.size)⟩
      · go_simp
        have HBX0 : Hid (Below wq.heap.size wq (wq.alloc (.cells #[.string ⟨(120 :: Lib.decDigits d).toArray⟩] 9))) := (Below.refl _ _).alloc (Nat.le_refl _) _
        have PC1 : Hid ((wq.alloc (.cells #[.string ⟨(120 :: Lib.decDigits d).toArray⟩] 9)).heap[wq.heap.size]? = some (.cells #[.string ⟨(120 :: Lib.decDigits d).toArray⟩] 9 (0, 0))) := heap_alloc_new wq _
        have hz7 : (wq.alloc (.cells #[.string ⟨(120 :: Lib.decDigits d).toArray⟩] 9)).heap.size = wq.heap.size + 1 := by simp
        refine hK.out _ _ (by exact HBX0.out) (fun hHeld => ?_)
        clear hK K
        try simp only [Act.put, List.setIfInBounds_toArray, List.set_cons_zero, List.set_cons_succ, List.getElem_toArray, List.getElem_cons_succ, List.getElem_cons_zero]
        generalize (wq.alloc (.cells #[.string ⟨(120 :: Lib.decDigits d).toArray⟩] 9)) = W6 at *
        refine wpAnyH_ready (rs := [7]) (by kernel_rfl) (by simp) ?_
        refine AllReadyH.cons rfl (fun K hK => ?_) AllReadyH.nil
        go_simp
        have HBX : Hid (Below wq.heap.size wq (W6.alloc (.cells #[] 9))) := HBX0.out.alloc HBX0.out.size _
        refine hK.out _ _ (by exact HBX.out) (fun hHeld => ?_)
        clear hK K
        try simp only [Act.put, List.setIfInBounds_toArray, List.set_cons_zero, List.set_cons_succ, List.getElem_toArray, List.getElem_cons_succ, List.getElem_cons_zero]
        have OW : Hid ((W6.alloc (.cells #[] 9)).ownsRow wq.heap.size 9 1 (.slice (some ⟨wq.heap.size + 1, 0, none⟩) 0 0) 0 []) := by
          unfold Hid; rw [← hz7]; exact World.ownsRow_lit W6 #[] 0 (by omega) (by unfold maxLen; omega) (by simp)
        have PC0 : Hid ((W6.alloc (.cells #[] 9)).heap[wq.heap.size]? = some (.cells #[.string ⟨(120 :: Lib.decDigits d).toArray⟩] 9 (0, 0))) := by unfold Hid; rw [Below.heap_alloc _ _ _ (by omega)]; exact PC1.out
        have hz8 : (W6.alloc (.cells #[] 9)).heap.size = wq.heap.size + 2 := by simp [hz7]
        clear HBX0 PC1 hz7
        generalize (W6.alloc (.cells #[] 9)) = W11 at *
        obtain ⟨v1, W9, hr1, ho1, hg1⟩ := app_spread (B := wq.heap.size) (l := fr ++ xsN d) (a := na) (c := nc) OW.out (by have := HBX.out.size; omega) (by rw [HFL.out]; omega) (by rw [HFL.out]; exact HN.out.later (HB1.out.trans (HBX.out.mono HB1.out.size)))
        rw [HFL.out] at hr1
        have HR1 := hide hr1
        have O9' := hide ho1
        have HBY := hide (HBX.out.grown hg1 (by have := HBX.out.size; omega) (fun q hq => by cases hq; omega))
        have HG1 := hide hg1
        clear hr1 ho1 hg1
        refine wpAnyH_ready (rs := [9]) (by kernel_rfl) (by simp) ?_
        refine AllReadyH.cons rfl (fun K hK => ?_) AllReadyH.nil
        refine step_append_eqM rfl _ _ _ _ rfl rfl rfl HR1.out ?_
        refine hK.out _ _ (by exact HBY.out) (fun hHeld => ?_)
        clear hK K
        try simp only [Act.put, List.setIfInBounds_toArray, List.set_cons_zero, List.set_cons_succ, List.getElem_toArray, List.getElem_cons_succ, List.getElem_cons_zero]
        have O9 := O9'
        have PC : Hid (W9.cell? ⟨wq.heap.size, 0, none⟩ = some (.string ⟨(120 :: Lib.decDigits d).toArray⟩)) := by
          unfold Hid
          rw [Lib.cell_of_heap (by rw [HG1.out.block wq.heap.size (by omega) (by simp)]; exact PC0.out)]; rfl
        have HBW := HBY
        clear O9' HBX HR1 HG1 OW hz8 PC0
        obtain ⟨v2, W12, hr2, ho2, hg2⟩ := app_one (P := wq.heap.size) (s := ⟨(120 :: Lib.decDigits d).toArray⟩) (l := fr ++ xsN d) O9.out (by have := HBW.out.size; omega) (by rw [HFL.out]; omega) PC.out
        have HR2 := hide hr2
        have HO2 := hide ho2
        have HB12 := hide (HBW.out.grown hg2 (by have := HBW.out.size; omega) (fun q hq => (O9.out.lt q hq).1))
        clear hr2 ho2 hg2
        refine wpAnyH_ready (rs := [12]) (by kernel_rfl) (by simp) ?_
        refine AllReadyH.cons rfl (fun K hK => ?_) AllReadyH.nil
        refine step_append_eqM rfl _ _ _ _ rfl rfl rfl HR2.out ?_
        refine hK.out _ _ (by exact HB12.out) (fun hHeld => ?_)
        clear hK K
        try simp only [Act.put, List.setIfInBounds_toArray, List.set_cons_zero, List.set_cons_succ, List.getElem_toArray, List.getElem_cons_succ, List.getElem_cons_zero]
        have HLV2 : Hid (LV Value.string W12 (fun q => wq.heap.size ≤ q) v2 (fr ++ xsN (d + 1))) := by
          have e8 : (fr ++ xsN d ++ [(⟨(120 :: Lib.decDigits d).toArray⟩ : ByteArray)]).length = (fr ++ xsN d).length + 1 := List.length_append
          unfold Hid; rw [xsN_succ, ← List.append_assoc]; exact LV.of_own (by rw [e8]; exact HO2.out)
        obtain ⟨a2, c2, rfl, _⟩ := HLV2.out
        have hl2 : (fr ++ xsN (d + 1)).length = fr.length + (d + 1) := by rw [List.length_append, xsN_len]
        rw [hl2] at HLV2 ⊢
        clear hl2 HO2
        refine wpAnyH_ready (rs := [14]) (by kernel_rfl) (by simp) ?_
        refine AllReadyH.cons rfl (fun K hK => ?_) AllReadyH.nil
        go_simp
        go_at_call 9
        refine (IH.out b (by simp) (d + 1) _ a2 c2 _ X _ HB9.out (by omega) (by exact HV.out.later (HB1.out.trans (HB12.out.mono HB1.out.size))) (by exact HLV2.out)).mono ?_
        rintro e w5 ⟨rfl, hb5⟩
        have HB5 := hide (HB12.out.trans (hb5.mono HB12.out.size))
        clear hb5
        go_simp
        refine hK.out _ _ (by exact HB5.out) (fun hHeld => ?_)
        clear hK K
        try simp only [Act.put, List.setIfInBounds_toArray, List.set_cons_zero, List.set_cons_succ, List.getElem_toArray, List.getElem_cons_succ, List.getElem_cons_zero]
        refine wpAnyH_take (i := 15) (v := ?_) rfl (by kernel_rfl) (by kernel_rfl) (by kernel_rfl) (fun _ _ _ h => h) (Or.inl ⟨by rfl, ?_⟩) (by assumption) ?_
        rotate_left
        · intro w' hSw
          have q3 : ¬ 9223372036854775807 < 1 + ((Lib.decDigits d).length + 1) + 1 + (ltx fr (d + 1) b).length := by omega
          go_simp <;> with_reducible rfl
        try simp only [Act.put, List.setIfInBounds_toArray, List.set_cons_zero, List.set_cons_succ, List.getElem_toArray, List.getElem_cons_succ, List.getElem_cons_zero]
        refine wpAnyH_take (i := 16) (v := ?_) rfl (by kernel_rfl) (by kernel_rfl) (by kernel_rfl) (fun _ _ _ h => h) (Or.inl ⟨by rfl, ?_⟩) (by assumption) ?_
        rotate_left
        · intro w' hSw
          go_simp <;> with_reducible rfl
        try simp only [Act.put, List.setIfInBounds_toArray, List.set_cons_zero, List.set_cons_succ, List.getElem_toArray, List.getElem_cons_succ, List.getElem_cons_zero]
        refine wpAnyH_done (by kernel_rfl) ?_ _
        go_wp2_with fail
        go_ret
        exact ⟨ret_strL (by rw [HE.out]; simp), HB1.out.trans (HB5.out.mono HB1.out.size)⟩
    · cases e
      obtain ⟨bs, os, af, cf, rfl, f0, f1, f2, hfv⟩ := hs.get (Below.refl w.heap.size w) (fun _ _ h => h) 0 (by simp)
      obtain ⟨bs', os', az, cz, e', z0, z1, z2, hzv⟩ := hs.get (Below.refl w.heap.size w) (fun _ _ h => h) 1 (by simp)
      cases e'
      simp only [Nat.zero_mul, Nat.add_zero, Nat.one_mul, List.getElem_cons_zero, List.getElem_cons_succ] at f0 f1 f2 z0 z1 z2 hfv hzv
      have hsz : sizeM [(⟨3, 0, [f, z]⟩ : Lm)] = 1 + (sizeM [f] + sizeM [z]) := by
        obtain ⟨k1, y1, m1⟩ := f; obtain ⟨k2, y2, m2⟩ := z
        simp only [sizeM]; omega
      have hlf := ltx_len fr hfn f _ d 500 hf rfl (by omega)
      have hlz := ltx_len fr hfn z _ d 500 hz rfl (by omega)
      have hlf2 : (ltx fr d f).length ≤ 1000000 := by have : (500 + 60) * sizeM [f] ≤ 560 * 500 := Nat.mul_le_mul (by omega) (by omega); omega
      have hlz2 : (ltx fr d z).length ≤ 1000000 := by have : (500 + 60) * sizeM [z] ≤ 560 * 500 := Nat.mul_le_mul (by omega) (by omega); omega
      have HE := hide (ltx_app fr d 0 f z)
      have HF := hide hfv
      have HZ := hide hzv
      have HC := hide (And.intro f0 (And.intro z0 (And.intro z1 z2)))
      generalize hR : ltx fr d ⟨3, 0, [f, z]⟩ = R at HE HLEN ⊢
      clear hR hlf hlz hfv hzv hs hlen
      have g0 : ∀ o, (w.alloc o).cell? ⟨bs, os, none⟩ = some (.int .i64 f.kind) := fun o => cell_is f0 ((Below.refl _ _).alloc (Nat.le_refl _) o)
      have g1 : ∀ o, (w.alloc o).cell? ⟨bs, os + 1, none⟩ = some (.int .i64 f.idx) := fun o => cell_is f1 ((Below.refl _ _).alloc (Nat.le_refl _) o)
      have g2 : ∀ o, (w.alloc o).cell? ⟨bs, os + 2, none⟩ = some (.slice af f.subs.length cf) := fun o => cell_is f2 ((Below.refl _ _).alloc (Nat.le_refl _) o)
      go_enter Tryd.func9, Tryd.ntmps9
      go_wp2_with fail
      refine (IH.out f (by simp) d _ na nc _ X Y hf (by omega) (by exact HF.out.alloc _) (by exact HN.out.alloc _)).mono ?_
      rintro e w1 ⟨rfl, hb1⟩
      have HB1 := hide (HB0.out.trans (hb1.mono (by simp)))
      have K1 := hide (HT0.out.below hb1 HT0.out.lt)
      clear hb1 f0 f1 f2 z0 z1 z2 g0 g1 g2
      have z0 := cell_is HC.out.2.1 HB1.out
      have z1 := cell_is HC.out.2.2.1 HB1.out
      have z2 := cell_is HC.out.2.2.2 HB1.out
      have k2 : w1.cell? ⟨w.heap.size, 2, none⟩ = some (.slice (some ⟨bs, os, none⟩) 2 c) := K1.out.cell 2
      go_wp2_with fail
      refine (IH.out z (by simp) d _ na nc _ X Y hz (by omega) (by exact HZ.out.later HB1.out) (by exact HN.out.later HB1.out)).mono ?_
      rintro e w2 ⟨rfl, hb2⟩
      have HB2 := hide (HB1.out.trans (hb2.mono HB1.out.size))
      have K2 := hide (K1.out.below hb2 K1.out.lt)
      clear hb2 z0 z1 z2 k2
      have z0 := cell_is HC.out.2.1 HB2.out
      have f0 := cell_is HC.out.1 HB2.out
      have k2 : w2.cell? ⟨w.heap.size, 2, none⟩ = some (.slice (some ⟨bs, os, none⟩) 2 c) := K2.out.cell 2
      generalize ltx fr d f = TF at HE hlf2 ⊢
      generalize ltx fr d z = TZ at HE hlz2 ⊢
      cases hbf : (f.kind == 2) with
      | true =>
        cases hb2 : (z.kind == 2) with
        | true =>
          go_wp2_with fail
          go_ret
          exact ⟨ret_strL (by rw [HE.out]; simp [brk, hbf, hb2]), HB2.out⟩
        | false =>
          cases hb3 : (z.kind == 3) with
          | true =>
            go_wp2_with fail
            go_ret
            exact ⟨ret_strL (by rw [HE.out]; simp [brk, hbf, hb2, hb3]), HB2.out⟩
          | false =>
            go_wp2_with fail
            go_ret
            exact ⟨ret_strL (by rw [HE.out]; simp [brk, hbf, hb2, hb3]), HB2.out⟩
      | false =>
        cases hb2 : (z.kind == 2) with
        | true =>
          go_wp2_with fail
          go_ret
          exact ⟨ret_strL (by rw [HE.out]; simp [brk, hbf, hb2]), HB2.out⟩
        | false =>
          cases hb3 : (z.kind == 3) with
          | true =>
            go_wp2_with fail
            go_ret
            exact ⟨ret_strL (by rw [HE.out]; simp [brk, hbf, hb2, hb3]), HB2.out⟩
          | false =>
            go_wp2_with fail
            go_ret
            exact ⟨ret_strL (by rw [HE.out]; simp [brk, hbf, hb2, hb3]), HB2.out⟩
    · cases e
      obtain ⟨m, rfl⟩ : ∃ m : Nat, x = (m : Int) := ⟨x.toNat, by omega⟩
      have HE : Hid (120 = 120 ∧ 99 :: Lib.decDigits m = ltx fr d ⟨4, m, []⟩) := by unfold Hid; rw [ltx_con]; simp
      have hdl := dec_len m
      generalize hR : ltx fr d ⟨4, m, []⟩ = R at HE ⊢
      clear hR
      have hm40 : m < 40 := by omega
      go_enter Tryd.func9, Tryd.ntmps9
      go_wp2_with fail
      refine (dec_any m (by omega) _).mono ?_
      rintro e w1 ⟨rfl, hb1⟩
      have HB1 := hide (HB0.out.trans (hb1.mono (by simp)))
      clear hb1
      go_wp2_with fail
      go_ret
      exact ⟨ret_strL (by rw [← HE.out.2]; simp), HB1.out⟩
#print axioms lamText_any
end Go.Proofs.YtfbligcampbchaaDoor
