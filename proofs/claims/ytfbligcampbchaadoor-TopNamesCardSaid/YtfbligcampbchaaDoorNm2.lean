/- Lambda terms that were written are read again: the reading. -/
import Derived.Test.YtfbligcampbchaaDoorNm1
namespace Go.Proofs.YtfbligcampbchaaDoor
open Go.RowKit
set_option linter.unusedSimpArgs false
set_option linter.unusedVariables false

/-- What a name of what is bound stands for. -/
theorem lastN_bound {fr : List ByteArray} (hf : FrOk fr) {c : UInt8} (hc : c = 120 ∨ c = 113) {d : Nat} {x : Int} (h0 : 0 ≤ x) (h1 : x < fr.length + d) {n : ByteArray} (hn : n.data.toList = (nmAt fr (d - 1 - x)).map (sw c)) :
    lastN n (nmsN c fr d) = some (fr.length + d - 1 - x : Int).toNat := by
  have hc3 : c = 120 ∨ c = 113 ∨ c = 99 := by rcases hc with h | h <;> simp [h]
  have hlen := nmsN_len c fr d
  unfold nmAt at hn
  by_cases hk : (d : Int) - 1 - x < 0
  · rw [if_pos hk] at hn
    obtain ⟨m, hm⟩ : ∃ m : Nat, (m : Int) = fr.length + (d - 1 - x) := ⟨(fr.length + (d - 1 - x) : Int).toNat, by omega⟩
    have hml : m < fr.length := by omega
    have e1 : ((fr.length : Int) + (d - 1 - x)).toNat = m := by omega
    have e2 : ((fr.length : Int) + d - 1 - x).toNat = m := by omega
    rw [e1, List.getElem?_eq_getElem hml, Option.getD_some] at hn
    rw [e2]
    have hsw : (fr[m].data.toList).map (sw c) = fr[m].data.toList := by
      have : ∀ b ∈ fr[m].data.toList, sw c b = b := by
        intro b hb
        unfold sw
        rw [if_neg (hf.nox _ (List.getElem_mem hml) b hb).1]
      rw [List.map_congr_left this]; simp
    rw [hsw] at hn
    have hnm : n = fr[m] := ba_ext hn
    refine lastN_is (by omega) (by rw [nmsN_in c fr d m (by omega) hml, hnm]) fun i hi hmi => ?_
    by_cases hil : i < fr.length
    · rw [nmsN_in c fr d i hi hil, hnm]
      intro e
      have := hf.apart i m hil hml e
      omega
    · rw [nmsN_out c fr d i hi hil, hnm]
      intro e
      exact fr_not hf (List.getElem_mem hml) hc3 _ (by rw [← e]; exact bnN_list c _)
  · rw [if_neg hk] at hn
    simp only [List.map_cons, sw_x, sw_dec] at hn
    obtain ⟨m, hm⟩ : ∃ m : Nat, (m : Int) = d - 1 - x := ⟨(d - 1 - x : Int).toNat, by omega⟩
    have e1 : ((d : Int) - 1 - x).toNat = m := by omega
    have e2 : ((fr.length : Int) + d - 1 - x).toNat = fr.length + m := by omega
    rw [e1] at hn
    rw [e2]
    have hnm : n = bnN c m := ba_ext hn
    refine lastN_is (by omega) (by rw [nmsN_out c fr d _ (by omega) (by omega), hnm]; congr 1; omega) fun i hi hmi => ?_
    rw [nmsN_out c fr d i hi (by omega), hnm]
    intro e
    have h2 : (bnN c (i - fr.length)).data.toList = (bnN c m).data.toList := by rw [e]
    rw [bnN_list, bnN_list] at h2
    have := dec_inj (List.cons.inj h2).2
    omega
/-- No name that is bound is a constant's. -/
theorem lastN_con {fr : List ByteArray} (hf : FrOk fr) {c : UInt8} (hc : c = 120 ∨ c = 113) {d : Nat} {n : ByteArray} {r : List UInt8} (hn : n.data.toList = 99 :: r) : lastN n (nmsN c fr d) = none := by
  refine lastN_none fun i hi e => ?_
  by_cases hil : i < fr.length
  · rw [nmsN_in c fr d i hi hil] at e
    exact fr_not hf (List.getElem_mem hil) (Or.inr (Or.inr rfl)) r (by rw [e]; exact hn)
  · rw [nmsN_out c fr d i hi hil] at e
    have h2 : (bnN c (i - fr.length)).data.toList = 99 :: r := by rw [e]; exact hn
    rw [bnN_list] at h2
    have := (List.cons.inj h2).1
    rcases hc with rfl | rfl
    · exact absurd this (by decide)
    · exact absurd this (by decide)

/-- What may stand behind a piece; behind a term. -/
def EndsN (post : List UInt8) : Prop := post = [] ∨ ∃ c r, post = c :: r ∧ (c = 41 ∨ c = 32)
def EndsT (post : List UInt8) : Prop := post = [] ∨ ∃ r, post = 41 :: r
theorem EndsT.n {post : List UInt8} (h : EndsT post) : EndsN post := by
  rcases h with h | ⟨r, h⟩
  · exact Or.inl h
  · exact Or.inr ⟨41, r, h, Or.inl rfl⟩
theorem EndsN.al {post : List UInt8} (h : EndsN post) : post = [] ∨ ∃ c r, post = c :: r ∧ alnB (c.toNat : Int) = false := by
  rcases h with h | ⟨c, r, h, hc⟩
  · exact Or.inl h
  · exact Or.inr ⟨c, r, h, by rcases hc with rfl | rfl <;> decide⟩

theorem name_list {s n : ByteArray} {pre post : List UInt8} (h : s.data.toList = pre ++ n.data.toList ++ post) (hn : nameB n = true) (hp : post = [] ∨ ∃ c r, post = c :: r ∧ alnB (c.toNat : Int) = false) :
    stopAt s pre.length = pre.length + n.data.toList.length ∧ s.extract pre.length (pre.length + n.data.toList.length) = n ∧ nameE s pre.length = 0 ∧ (pre.length < s.size ∧ byteAt s pre.length ≠ 40 ∧ byteAt s pre.length ≠ 92) := by
  have h1 := stop_listN s post hp n.data.toList pre h (fr_aln hn)
  have h2 := ext_listN s n pre post h
  obtain ⟨b, r, hb⟩ := fr_some hn
  refine ⟨h1, h2, ?_, ?_⟩
  · unfold nameE
    rw [h1, h2, if_neg (by rw [hb]; simp), if_neg (by rw [hn]; simp)]
  · have h3 := byteAt_listN s pre.length b (by rw [h, hb]; simp)
    have h4 := fr_aln hn b (by rw [hb]; simp)
    refine ⟨h3.1, ?_, ?_⟩
    · intro e; rw [← h3.2, e] at h4; exact absurd h4 (by decide)
    · intro e; rw [← h3.2, e] at h4; exact absurd h4 (by decide)
theorem sizeM_two (f a : Lm) : sizeM [(⟨3, 0, [f, a]⟩ : Lm)] = 1 + (sizeM [f] + sizeM [a]) := by
  obtain ⟨k1, y1, m1⟩ := f; obtain ⟨k2, y2, m2⟩ := a
  simp only [sizeM]; omega
theorem sizeM_pos1 (t : Lm) : 1 ≤ sizeM [t] := by obtain ⟨k, x, l⟩ := t; simp only [sizeM]; omega

/-- A leaf is read as a piece. -/
theorem piece_leaf {fr : List ByteArray} (hf : FrOk fr) {c : UInt8} (hc : c = 120 ∨ c = 113) {s : ByteArray} {t : Lm} {d F k : Nat} {pre post : List UInt8} (ht : t.kind ≠ 2 ∧ t.kind ≠ 3) (he : errM (fr.length + d) 0 [t] = 0) (hL : s.data.toList = pre ++ (ltx fr d t).map (sw c) ++ post) (hp : EndsN post) (hk : k + 1 ≤ 200) (hd : d ≤ 900) :
    lrd s (F + 1) .piece (nmsN c fr d) pre.length k = ⟨0, t, pre.length + (ltx fr d t).length, k + 1⟩ ∧ sizeM [t] = 1 ∧ (pre.length < s.size ∧ byteAt s pre.length ≠ 92) := by
  have hc3 : c = 120 ∨ c = 113 ∨ c = 99 := by rcases hc with h | h <;> simp [h]
  rcases may_look he with ⟨x, rfl, h0, h1⟩ | ⟨b, rfl, hb⟩ | ⟨f, a, rfl, hf, ha⟩ | ⟨x, rfl, h0, h1⟩
  · rw [ltx_bound] at hL ⊢
    generalize hl : (nmAt fr (d - 1 - x)).map (sw c) = l at hL
    have hlen : (nmAt fr (d - 1 - x)).length = l.length := by rw [← hl]; simp
    obtain ⟨n, hn⟩ : ∃ n : ByteArray, n.data.toList = l := ⟨⟨l.toArray⟩, rfl⟩
    have hlast := lastN_bound hf hc h0 h1 (hn.trans hl.symm)
    have hnn : nameB n = true := by
      unfold nmAt at hl
      by_cases hk : (d : Int) - 1 - x < 0
      · rw [if_pos hk] at hl
        obtain ⟨m, hm⟩ : ∃ m : Nat, (m : Int) = fr.length + (d - 1 - x) := ⟨(fr.length + (d - 1 - x) : Int).toNat, by omega⟩
        have hml : m < fr.length := by omega
        have e1 : ((fr.length : Int) + (d - 1 - x)).toNat = m := by omega
        rw [e1, List.getElem?_eq_getElem hml, Option.getD_some] at hl
        have hsw : (fr[m].data.toList).map (sw c) = fr[m].data.toList := by
          have : ∀ b ∈ fr[m].data.toList, sw c b = b := by
            intro b hb
            unfold sw
            rw [if_neg (hf.nox _ (List.getElem_mem hml) b hb).1]
          rw [List.map_congr_left this]; simp
        rw [hsw] at hl
        rw [ba_ext (hn.trans hl.symm)]
        exact hf.nm _ (List.getElem_mem hml)
      · rw [if_neg hk] at hl
        simp only [List.map_cons, sw_x, sw_dec] at hl
        exact (bn_name hc3 (j := ((d : Int) - 1 - x).toNat) (by omega) (hn.trans hl.symm)).1
    rw [← hn] at hL
    obtain ⟨g1, g2, g3, g4, g5, g6⟩ := name_list hL hnn hp.al
    refine ⟨?_, by simp [sizeM], g4, g6⟩
    rw [lrd, if_neg (fun h => g5 h.2), if_neg (by rw [g3]; simp), if_neg (by omega), g1, g2]
    unfold namedL
    rw [hlast, nmsN_len, hlen, ← hn]
    simp only
    congr 2
    omega
  · exact absurd rfl ht.1
  · exact absurd rfl ht.2
  · rw [ltx_con] at hL ⊢
    simp only [List.map_cons, sw_dec] at hL
    have hs99 : sw c 99 = 99 := rfl
    rw [hs99] at hL
    obtain ⟨n, hn⟩ : ∃ n : ByteArray, n.data.toList = 99 :: Lib.decDigits x.toNat := ⟨⟨(99 :: Lib.decDigits x.toNat).toArray⟩, rfl⟩
    have hnn := (bn_name (c := 99) (Or.inr (Or.inr rfl)) (j := x.toNat) (by omega) hn).1
    have hlast := lastN_con hf hc (d := d) hn
    have hcon := conN_is (n := n) (k := x.toNat) (by omega) hn
    rw [← hn] at hL ⊢
    obtain ⟨g1, g2, g3, g4, g5, g6⟩ := name_list hL hnn hp.al
    refine ⟨?_, by simp [sizeM], g4, g6⟩
    rw [lrd, if_neg (fun h => g5 h.2), if_neg (by rw [g3]; simp), if_neg (by omega), g1, g2]
    unfold namedL
    rw [hlast, hcon]
    simp only
    congr 2
    omega

theorem at_len (pre post : List UInt8) (x : UInt8) : (pre ++ x :: post)[pre.length]? = some x := by simp

/-- What reading a term does. -/
def RdT (c : UInt8) (fr : List ByteArray) (s : ByteArray) (t : Lm) : Prop :=
  ∀ (d F k : Nat) (pre post : List UInt8), errM (fr.length + d) 0 [t] = 0 → s.data.toList = pre ++ (ltx fr d t).map (sw c) ++ post → k + sizeM [t] ≤ 200 → d + sizeM [t] ≤ 900 → 3 * sizeM [t] ≤ F →
    (EndsT post → lrd s F .term (nmsN c fr d) pre.length k = ⟨0, t, pre.length + (ltx fr d t).length, k + sizeM [t]⟩) ∧
    (t.kind ≠ 2 → EndsN post → ∃ F', F ≤ F' + sizeM [t] ∧ lrd s F .term (nmsN c fr d) pre.length k = lrd s F' (.behind t) (nmsN c fr d) (pre.length + (ltx fr d t).length) (k + sizeM [t]))

/-- In brackets it is a piece. -/
theorem piece_brk {c : UInt8} {fr : List ByteArray} {s : ByteArray} {t : Lm} (h : RdT c fr s t) {d F k : Nat} {pre post : List UInt8} (he : errM (fr.length + d) 0 [t] = 0) (hL : s.data.toList = pre ++ (40 :: ((ltx fr d t).map (sw c) ++ [41])) ++ post) (hk : k + sizeM [t] ≤ 200) (hd : d + sizeM [t] ≤ 900) (hF : 3 * sizeM [t] + 1 ≤ F) :
    lrd s F .piece (nmsN c fr d) pre.length k = ⟨0, t, pre.length + ((ltx fr d t).length + 2), k + sizeM [t]⟩ := by
  obtain ⟨f, rfl⟩ : ∃ f, F = f + 1 := ⟨F - 1, by omega⟩
  have hL2 : s.data.toList = (pre ++ [40]) ++ (ltx fr d t).map (sw c) ++ (41 :: post) := by rw [hL]; simp
  have hq := (h d f k (pre ++ [40]) (41 :: post) he hL2 hk hd (by omega)).1 (Or.inr ⟨post, rfl⟩)
  have hlen : (pre ++ [40]).length = pre.length + 1 := by simp
  rw [hlen] at hq
  have hb := byteAt_listN s pre.length 40 (by rw [hL]; simp)
  have e : pre.length + 1 + (ltx fr d t).length = ((pre ++ [40]) ++ (ltx fr d t).map (sw c)).length := by simp; omega
  have hb2 := byteAt_listN s ((pre ++ [40]) ++ (ltx fr d t).map (sw c)).length 41 (by rw [hL2]; exact at_len _ _ _)
  rw [← e] at hb2
  rw [lrd, if_pos ⟨hb.1, by rw [hb.2]; rfl⟩, hq]
  simp only [ne_eq, not_true_eq_false, if_false]
  have ha : askE s (pre.length + 1 + (ltx fr d t).length) 41 = 0 := by
    unfold askE
    rw [if_pos ⟨hb2.1, by rw [hb2.2]; rfl⟩]
  rw [ha]
  simp
  omega

theorem behind_end {s : ByteArray} {F : Nat} {t : Lm} {nm : List ByteArray} {k : Nat} {pre post : List UInt8} (hL : s.data.toList = pre ++ post) (hp : EndsT post) (hF : 1 ≤ F) : lrd s F (.behind t) nm pre.length k = ⟨0, t, pre.length, k⟩ := by
  obtain ⟨f, rfl⟩ : ∃ f, F = f + 1 := ⟨F - 1, by omega⟩
  rw [lrd, if_neg]
  intro h
  rcases hp with rfl | ⟨r, rfl⟩
  · have : s.size = pre.length := by rw [size_listN, hL]; simp
    omega
  · have hb := byteAt_listN s pre.length 41 (by rw [hL]; simp)
    rw [hb.2] at h
    exact absurd h.2 (by decide)

theorem map_brk (c : UInt8) (b : Bool) (l : List UInt8) : (brk b l).map (sw c) = brk b (l.map (sw c)) := by
  unfold brk
  split
  · have h1 : sw c 40 = 40 := rfl
    have h2 : sw c 41 = 41 := rfl
    simp [h1, h2]
  · rfl

theorem rdT_all {fr : List ByteArray} (hf : FrOk fr) {c : UInt8} (hc : c = 120 ∨ c = 113) (s : ByteArray) (t : Lm) : RdT c fr s t := by
  induction t using Lm.ind with
  | h kk xx l ih =>
    intro d F k pre post he hL hk hd hF
    -- once what is no binder goes on as it should, all is said
    have fin : (⟨kk, xx, l⟩ : Lm).kind ≠ 2 → (EndsN post → ∃ F', F ≤ F' + sizeM [(⟨kk, xx, l⟩ : Lm)] ∧ lrd s F .term (nmsN c fr d) pre.length k = lrd s F' (.behind ⟨kk, xx, l⟩) (nmsN c fr d) (pre.length + (ltx fr d ⟨kk, xx, l⟩).length) (k + sizeM [(⟨kk, xx, l⟩ : Lm)])) →
        (EndsT post → lrd s F .term (nmsN c fr d) pre.length k = ⟨0, ⟨kk, xx, l⟩, pre.length + (ltx fr d ⟨kk, xx, l⟩).length, k + sizeM [(⟨kk, xx, l⟩ : Lm)]⟩) ∧
        ((⟨kk, xx, l⟩ : Lm).kind ≠ 2 → EndsN post → ∃ F', F ≤ F' + sizeM [(⟨kk, xx, l⟩ : Lm)] ∧ lrd s F .term (nmsN c fr d) pre.length k = lrd s F' (.behind ⟨kk, xx, l⟩) (nmsN c fr d) (pre.length + (ltx fr d ⟨kk, xx, l⟩).length) (k + sizeM [(⟨kk, xx, l⟩ : Lm)])) := by
      intro hk2 hall
      refine ⟨fun hp => ?_, fun _ hp => hall hp⟩
      obtain ⟨F', hF', hq⟩ := hall hp.n
      have hpos := sizeM_pos1 (⟨kk, xx, l⟩ : Lm)
      have e : pre.length + (ltx fr d ⟨kk, xx, l⟩).length = (pre ++ (ltx fr d ⟨kk, xx, l⟩).map (sw c)).length := by simp
      rw [hq, e]
      exact behind_end hL hp (by omega)
    -- a leaf
    have leaf : (⟨kk, xx, l⟩ : Lm).kind ≠ 2 ∧ (⟨kk, xx, l⟩ : Lm).kind ≠ 3 → (EndsT post → lrd s F .term (nmsN c fr d) pre.length k = ⟨0, ⟨kk, xx, l⟩, pre.length + (ltx fr d ⟨kk, xx, l⟩).length, k + sizeM [(⟨kk, xx, l⟩ : Lm)]⟩) ∧
        ((⟨kk, xx, l⟩ : Lm).kind ≠ 2 → EndsN post → ∃ F', F ≤ F' + sizeM [(⟨kk, xx, l⟩ : Lm)] ∧ lrd s F .term (nmsN c fr d) pre.length k = lrd s F' (.behind ⟨kk, xx, l⟩) (nmsN c fr d) (pre.length + (ltx fr d ⟨kk, xx, l⟩).length) (k + sizeM [(⟨kk, xx, l⟩ : Lm)])) := by
      intro hlf
      refine fin hlf.1 fun hp => ?_
      have hpos := sizeM_pos1 (⟨kk, xx, l⟩ : Lm)
      obtain ⟨f, rfl⟩ : ∃ f, F = f + 1 + 1 := ⟨F - 2, by omega⟩
      obtain ⟨g1, g2, g3, g4⟩ := piece_leaf (F := f) (k := k) hf hc hlf he hL hp (by omega) (by omega)
      refine ⟨f + 1, by omega, ?_⟩
      rw [lrd, if_neg (fun h => g4 h.2), g1, g2]
      simp
    rcases may_look he with ⟨x, e, h0, h1⟩ | ⟨b, e, hb⟩ | ⟨f, a, e, hef, hea⟩ | ⟨x, e, h0, h1⟩
    · cases e
      exact leaf ⟨by simp, by simp⟩
    · cases e
      refine ⟨fun hp => ?_, fun h => absurd rfl h⟩
      have hsz : sizeM [(⟨2, 0, [b]⟩ : Lm)] = 1 + sizeM [b] := by simp [sizeM]
      rw [hsz] at hk hd hF ⊢
      obtain ⟨f, rfl⟩ : ∃ f, F = f + 1 := ⟨F - 1, by omega⟩
      rw [ltx_fun] at hL ⊢
      have hs92 : sw c 92 = 92 := rfl
      have hs46 : sw c 46 = 46 := rfl
      have hL1 : s.data.toList = pre ++ 92 :: ((bnN c d).data.toList ++ 46 :: ((ltx fr (d + 1) b).map (sw c) ++ post)) := by
        rw [hL, bnN_list]
        simp [hs92, hs46, sw_x, sw_dec]
      have hL2 : s.data.toList = (pre ++ [92]) ++ (bnN c d).data.toList ++ (46 :: ((ltx fr (d + 1) b).map (sw c) ++ post)) := by rw [hL1]; simp
      have hL3 : s.data.toList = (pre ++ 92 :: ((bnN c d).data.toList ++ [46])) ++ (ltx fr (d + 1) b).map (sw c) ++ post := by rw [hL1]; simp
      have hc3 : c = 120 ∨ c = 113 ∨ c = 99 := by rcases hc with h | h <;> simp [h]
      have hnn := (bn_name hc3 (j := d) (by omega) (bnN_list c d)).1
      obtain ⟨g1, g2, g3, g4⟩ := name_list hL2 hnn (Or.inr ⟨46, _, rfl, by decide⟩)
      have hl1 : (pre ++ [92]).length = pre.length + 1 := by simp
      rw [hl1] at g1 g2 g3
      have hl2 : (pre ++ 92 :: ((bnN c d).data.toList ++ [46])).length = pre.length + 1 + (bnN c d).data.toList.length + 1 := by simp; omega
      have hq := (ih b (by simp) (d + 1) f (k + 1) _ post (by rw [show ((fr.length : Int) + ((d + 1 : Nat) : Int)) = fr.length + d + 1 by omega]; exact hb) hL3 (by omega) (by omega) (by omega)).1 hp
      rw [hl2, nmsN_succ] at hq
      have hb1 := byteAt_listN s pre.length 92 (by rw [hL1]; simp)
      have e : pre.length + 1 + (bnN c d).data.toList.length = ((pre ++ [92]) ++ (bnN c d).data.toList).length := by simp only [List.length_append, List.length_cons, List.length_nil]
      have hb2 := byteAt_listN s ((pre ++ [92]) ++ (bnN c d).data.toList).length 46 (by rw [hL2]; exact at_len _ _ _)
      rw [← e] at hb2
      have hak : askE s (pre.length + 1 + (bnN c d).data.toList.length) 46 = 0 := by
        unfold askE
        rw [if_pos ⟨hb2.1, by rw [hb2.2]; rfl⟩]
      rw [lrd, if_pos ⟨hb1.1, by rw [hb1.2]; rfl⟩, if_neg (by omega), if_neg (by rw [g3]; simp), g1, g2, if_neg (by rw [hak]; simp)]
      simp only [hq]
      rw [bnN_list]
      simp
      omega
    · cases e
      refine fin (by simp) fun hp => ?_
      have hsz := sizeM_two f a
      have hpf := sizeM_pos1 f
      have hpa := sizeM_pos1 a
      rw [hsz] at hk hd hF ⊢
      rw [ltx_app] at hL ⊢
      have hs32 : sw c 32 = 32 := rfl
      have hL1 : s.data.toList = pre ++ brk (f.kind == 2) ((ltx fr d f).map (sw c)) ++ (32 :: (brk (a.kind == 2 || a.kind == 3) ((ltx fr d a).map (sw c)) ++ post)) := by
        rw [hL]
        simp [map_brk, hs32]
      have step1 : ∃ F1, F ≤ F1 + sizeM [f] ∧ lrd s F .term (nmsN c fr d) pre.length k = lrd s F1 (.behind f) (nmsN c fr d) (pre.length + (brk (f.kind == 2) (ltx fr d f)).length) (k + sizeM [f]) := by
        by_cases hk2 : f.kind = 2
        · have hbk : ∀ l : List UInt8, brk (f.kind == 2) l = 40 :: (l ++ [41]) := fun l => by unfold brk; simp [hk2]
          rw [hbk] at hL1 ⊢
          obtain ⟨F1, rfl⟩ : ∃ F1, F = F1 + 1 := ⟨F - 1, by omega⟩
          have hq := piece_brk (ih f (by simp)) (F := F1) (k := k) hef hL1 (by omega) (by omega) (by omega)
          have hb1 := byteAt_listN s pre.length 40 (by rw [hL1]; simp)
          refine ⟨F1, by omega, ?_⟩
          rw [lrd, if_neg (fun h => by rw [hb1.2] at h; exact absurd h.2 (by decide)), hq]
          simp
        · have hbk : ∀ l : List UInt8, brk (f.kind == 2) l = l := fun l => by unfold brk; simp [hk2]
          rw [hbk] at hL1 ⊢
          exact (ih f (by simp) d F k pre _ hef hL1 (by omega) (by omega) (by omega)).2 hk2 (Or.inr ⟨32, _, rfl, Or.inr rfl⟩)
      obtain ⟨F1, hF1, hq1⟩ := step1
      obtain ⟨F2, rfl⟩ : ∃ F2, F1 = F2 + 1 := ⟨F1 - 1, by omega⟩
      have hlb : (brk (f.kind == 2) ((ltx fr d f).map (sw c))).length = (brk (f.kind == 2) (ltx fr d f)).length := by rw [← map_brk]; simp
      have hL2 : s.data.toList = (pre ++ brk (f.kind == 2) ((ltx fr d f).map (sw c)) ++ [32]) ++ brk (a.kind == 2 || a.kind == 3) ((ltx fr d a).map (sw c)) ++ post := by rw [hL1]; simp
      have hl2 : (pre ++ brk (f.kind == 2) ((ltx fr d f).map (sw c)) ++ [32]).length = pre.length + (brk (f.kind == 2) (ltx fr d f)).length + 1 := by simp only [List.length_append, List.length_cons, List.length_nil, hlb]
      have e : pre.length + (brk (f.kind == 2) (ltx fr d f)).length = (pre ++ brk (f.kind == 2) ((ltx fr d f).map (sw c))).length := by simp only [List.length_append, List.length_cons, List.length_nil, hlb]
      have hb32 := byteAt_listN s (pre ++ brk (f.kind == 2) ((ltx fr d f).map (sw c))).length 32 (by rw [hL1]; exact at_len _ _ _)
      rw [← e] at hb32
      have step2 : lrd s F2 .piece (nmsN c fr d) (pre.length + (brk (f.kind == 2) (ltx fr d f)).length + 1) (k + sizeM [f] + 1) = ⟨0, a, pre.length + (brk (f.kind == 2) (ltx fr d f)).length + 1 + (brk (a.kind == 2 || a.kind == 3) (ltx fr d a)).length, k + sizeM [f] + 1 + sizeM [a]⟩ := by
        rw [← hl2]
        by_cases hk23 : a.kind = 2 ∨ a.kind = 3
        · have hbk : ∀ l : List UInt8, brk (a.kind == 2 || a.kind == 3) l = 40 :: (l ++ [41]) := fun l => by unfold brk; rcases hk23 with h | h <;> simp [h]
          rw [hbk] at hL2 ⊢
          rw [piece_brk (ih a (by simp)) (F := F2) (k := k + sizeM [f] + 1) hea hL2 (by omega) (by omega) (by omega)]
          simp
        · have hbk : ∀ l : List UInt8, brk (a.kind == 2 || a.kind == 3) l = l := fun l => by unfold brk; have h2 : a.kind ≠ 2 := fun h => hk23 (Or.inl h); have h3 : a.kind ≠ 3 := fun h => hk23 (Or.inr h); simp [h2, h3]
          rw [hbk] at hL2 ⊢
          obtain ⟨F3, rfl⟩ : ∃ F3, F2 = F3 + 1 := ⟨F2 - 1, by omega⟩
          obtain ⟨g1, g2, _⟩ := piece_leaf (F := F3) (k := k + sizeM [f] + 1) hf hc ⟨fun h => hk23 (Or.inl h), fun h => hk23 (Or.inr h)⟩ hea hL2 hp (by omega) (by omega)
          rw [g1, g2]
      refine ⟨F2, by omega, ?_⟩
      rw [hq1, lrd, if_pos ⟨hb32.1, by rw [hb32.2]; rfl⟩, if_neg (by omega)]
      simp only [step2]
      simp only [ne_eq, not_true_eq_false, if_false, List.length_append, List.length_cons]
      have e1 : pre.length + (brk (f.kind == 2) (ltx fr d f)).length + 1 + (brk (a.kind == 2 || a.kind == 3) (ltx fr d a)).length = pre.length + ((brk (f.kind == 2) (ltx fr d f)).length + ((brk (a.kind == 2 || a.kind == 3) (ltx fr d a)).length + 1)) := by omega
      have e2 : k + sizeM [f] + 1 + sizeM [a] = k + (1 + (sizeM [f] + sizeM [a])) := by omega
      rw [e1, e2]
    · cases e
      exact leaf ⟨by simp, by simp⟩

/-- As long as it has knots. -/
theorem ltx_ge {fr : List ByteArray} (hf : FrOk fr) (t : Lm) : ∀ d : Nat, errM (fr.length + d) 0 [t] = 0 → sizeM [t] ≤ (ltx fr d t).length := by
  induction t using Lm.ind with
  | h kk xx l ih =>
    intro d he
    rcases may_look he with ⟨x, e, h0, h1⟩ | ⟨b, e, hb⟩ | ⟨f, a, e, hef, hea⟩ | ⟨x, e, h0, h1⟩
    · cases e
      rw [ltx_bound]
      have : sizeM [(⟨1, xx, []⟩ : Lm)] = 1 := by simp [sizeM]
      rw [this]
      unfold nmAt
      split
      · rename_i hk
        obtain ⟨m, hm⟩ : ∃ m : Nat, (m : Int) = fr.length + (d - 1 - xx) := ⟨(fr.length + (d - 1 - xx) : Int).toNat, by omega⟩
        have hml : m < fr.length := by omega
        have e1 : ((fr.length : Int) + (d - 1 - xx)).toNat = m := by omega
        rw [e1, List.getElem?_eq_getElem hml, Option.getD_some]
        obtain ⟨b, r, hb⟩ := fr_some (hf.nm _ (List.getElem_mem hml))
        rw [hb]; simp
      · simp
    · cases e
      have := ih b (by simp) (d + 1) (by rw [show ((fr.length : Int) + ((d + 1 : Nat) : Int)) = fr.length + d + 1 by omega]; exact hb)
      have hsz : sizeM [(⟨2, 0, [b]⟩ : Lm)] = 1 + sizeM [b] := by simp [sizeM]
      rw [hsz, ltx_fun]
      simp only [List.length_cons, List.length_append]
      omega
    · cases e
      have h1 := ih f (by simp) d hef
      have h2 := ih a (by simp) d hea
      rw [sizeM_two, ltx_app]
      have h3 := brk_ge (f.kind == 2) (ltx fr d f)
      have h4 := brk_ge (a.kind == 2 || a.kind == 3) (ltx fr d a)
      simp only [List.length_cons, List.length_append]
      omega
    · cases e
      rw [ltx_con]
      simp [sizeM]

/-- The whole text, with a letter for what is bound. -/
theorem lrd_whole {fr : List ByteArray} (hf : FrOk fr) {c : UInt8} (hc : c = 120 ∨ c = 113) (s : ByteArray) (t : Lm) (he : errM fr.length 0 [t] = 0) (hk : sizeM [t] ≤ 200) (hs : s.data.toList = (ltx fr 0 t).map (sw c)) :
    lrd s (3 * s.size + 3) .term fr 0 0 = ⟨0, t, s.size, sizeM [t]⟩ := by
  have hsz : s.size = (ltx fr 0 t).length := by rw [size_listN, hs]; simp
  have he0 : errM ((fr.length : Int) + ((0 : Nat) : Int)) 0 [t] = 0 := by simpa using he
  have hge := ltx_ge hf t 0 he0
  have h := (rdT_all hf hc s t 0 (3 * s.size + 3) 0 [] [] he0 (by rw [hs]; simp) (by omega) (by omega) (by omega)).1 (Or.inl rfl)
  have hn : nmsN c fr 0 = fr := by simp [nmsN]
  rw [hn] at h
  simp only [List.length_nil, Nat.zero_add] at h
  rw [h, hsz]
end Go.Proofs.YtfbligcampbchaaDoor
