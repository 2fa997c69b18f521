/- Several texts in one. -/
import Derived.Test.YtdmaijmglblccaaGreatDoorZClosureMadeOwn
import Derived.Test.YtdmaijmglblccaaGreatDoorZBClosureMadeOwn
import Derived.Test.YtdmaijmglblccaaGreatDoorKl20
import Derived.Test.YtdmaijmglblccaaGreatDoorKl14
import Derived.Deep.RegionHeld3
import Derived.Sort.Grow
import Derived.Maps.RangeRun
import Derived.Test.YtdmaijmglblccaaGreatDoorRows
import Derived.ProofKit
/- Places of terms: what stands there, and what is put there. -/
namespace Go.Proofs.YtdmaijmglblccaaGreatDoor
open Go.RowKit
set_option linter.unusedSimpArgs false
set_option linter.unusedVariables false

end Go.Proofs.YtdmaijmglblccaaGreatDoor

/- A term with what stands for its variables, as the document says. -/
namespace Go.Proofs.YtdmaijmglblccaaGreatDoor
set_option linter.unusedSimpArgs false
set_option linter.unusedVariables false

end Go.Proofs.YtdmaijmglblccaaGreatDoor

/- Plain: rules; what is wrong with them; what a rule puts in the place of a term; what one step makes of a term. -/
namespace Go.Proofs.YtdmaijmglblccaaGreatDoor
open Go.RowKit
set_option linter.unusedSimpArgs false
set_option linter.unusedVariables false

end Go.Proofs.YtdmaijmglblccaaGreatDoor

/- Plain: all that is reached, text by text; texts in their order. -/
namespace Go.Proofs.YtdmaijmglblccaaGreatDoor
open Go.RowKit
set_option linter.unusedSimpArgs false
set_option linter.unusedVariables false
set_option maxRecDepth 8000

theorem inB_mem8 {x : ByteArray} {l : List ByteArray} : inB x l = true ↔ x ∈ l := by
  unfold inB
  rw [List.any_eq_true]
  constructor
  · rintro ⟨y, hy, e⟩
    have e1 : y.toList = x.toList := eq_of_beq e
    have : y = x := by
      rw [ByteArray.toList_eq, ByteArray.toList_eq] at e1
      obtain ⟨⟨a⟩⟩ := y
      obtain ⟨⟨b⟩⟩ := x
      simpa using e1
    rw [← this]; exact hy
  · intro h
    exact ⟨x, h, by simp⟩
/-- The texts in their order, each once. -/
def AscB (l : List ByteArray) : Prop := l.Pairwise fun a b => ltB a b = true
theorem asc_uniq {l k : List ByteArray} (h1 : AscB l) (h2 : AscB k) (h : ∀ s, s ∈ l ↔ s ∈ k) : l = k := by
  induction l generalizing k with
  | nil =>
    cases k with
    | nil => rfl
    | cons b k => exact absurd ((h b).2 (by simp)) (by simp)
  | cons a l ih =>
    cases k with
    | nil => exact absurd ((h a).1 (by simp)) (by simp)
    | cons b k =>
      obtain ⟨h3, h4⟩ := List.pairwise_cons.1 h1
      obtain ⟨h5, h6⟩ := List.pairwise_cons.1 h2
      have e : a = b := by
        rcases List.mem_cons.1 ((h a).1 (by simp)) with e | e
        · exact e
        · rcases List.mem_cons.1 ((h b).2 (by simp)) with e2 | e2
          · exact e2.symm
          · have := ltB_asymm (h5 a e)
            rw [h3 b e2] at this
            cases this
      subst e
      congr 1
      refine ih h4 h6 fun s => ⟨fun hs => ?_, fun hs => ?_⟩
      · rcases List.mem_cons.1 ((h s).1 (by simp [hs])) with e | e
        · subst e
          have := h3 s hs
          rw [ltB_irrefl] at this
          cases this
        · exact e
      · rcases List.mem_cons.1 ((h s).2 (by simp [hs])) with e | e
        · subst e
          have := h5 s hs
          rw [ltB_irrefl] at this
          cases this
        · exact e
/-- One more text where it belongs. -/
theorem asc_ins {a b : List ByteArray} {x : ByteArray} (h : AscB (a ++ b)) (ha : ∀ y ∈ a, ltB y x = true) (hb : ∀ y ∈ b, ltB x y = true) : AscB (a ++ x :: b) := by
  obtain ⟨h1, h2, h3⟩ := List.pairwise_append.1 h
  refine List.pairwise_append.2 ⟨h1, List.pairwise_cons.2 ⟨hb, h2⟩, fun y hy z hz => ?_⟩
  rcases List.mem_cons.1 hz with rfl | hz
  · exact ha y hy
  · exact h3 y hy z hz
/-- What is sorted, and has no text twice. -/
theorem asc_of_perm {l k : List ByteArray} (hp : k.Perm l) (hn : l.Nodup) (hs : k.Pairwise fun a b => ltB b a = false) : AscB k ∧ ∀ s, s ∈ k ↔ s ∈ l := by
  refine ⟨?_, fun s => hp.mem_iff⟩
  have hk : k.Nodup := hp.nodup_iff.2 hn
  clear hp hn
  induction k with
  | nil => exact List.Pairwise.nil
  | cons a k ih =>
    obtain ⟨h1, h2⟩ := List.pairwise_cons.1 hs
    obtain ⟨h3, h4⟩ := List.nodup_cons.1 hk
    refine List.pairwise_cons.2 ⟨fun b hb => ?_, ih h2 h4⟩
    cases h5 : ltB a b with
    | true => rfl
    | false => exact absurd (ltB_conn h5 (h1 b hb)) fun e => h3 (e ▸ hb)
end Go.Proofs.YtdmaijmglblccaaGreatDoor

/- What the texts of the classes are: each class once, in order (a plain text). -/
namespace Go.Proofs.YtdmaijmglblccaaGreatDoor
open Go.RowKit
set_option linter.unusedSimpArgs false
set_option linter.unusedVariables false
set_option maxRecDepth 8000

theorem pig_len : ∀ (n : Nat) (L : List Nat), (∀ i, i < n → i ∈ L) → n ≤ L.length
  | 0, L, _ => Nat.zero_le _
  | n + 1, L, h => by
    have h1 := h n (by omega)
    have h2 := pig_len n (L.erase n) fun i hi => (List.mem_erase_of_ne (by omega)).2 (h i (by omega))
    rw [List.length_erase_of_mem h1] at h2
    have := List.length_pos_of_mem h1
    omega
theorem pig_nodup : ∀ (n : Nat) (L : List Nat), (∀ i, i < n → i ∈ L) → L.length ≤ n → L.Nodup
  | 0, L, _, hl => by
    have : L = [] := List.eq_nil_of_length_eq_zero (by omega)
    rw [this]; exact List.nodup_nil
  | n + 1, L, h, hl => by
    have h1 := h n (by omega)
    have hlen := List.length_erase_of_mem h1
    have hpos := List.length_pos_of_mem h1
    have hmem : ∀ i, i < n → i ∈ L.erase n := fun i hi => (List.mem_erase_of_ne (by omega)).2 (h i (by omega))
    have h2 := pig_nodup n (L.erase n) hmem (by omega)
    have h3 : n ∉ L.erase n := fun hn => by
      have h4 := pig_len n ((L.erase n).erase n) fun i hi => (List.mem_erase_of_ne (by omega)).2 (hmem i hi)
      rw [List.length_erase_of_mem hn] at h4
      have := List.length_pos_of_mem hn
      omega
    exact (List.perm_cons_erase h1).nodup_iff.2 (List.nodup_cons.2 ⟨h3, h2⟩)
theorem flat_len : ∀ L : List (List Nat), L.flatten.length = sumN L
  | [] => rfl
  | a :: r => by
    have := flat_len r
    simp only [List.flatten_cons, List.length_append, this, sumN, List.map_cons, List.sum_cons]
theorem flat_nodup : ∀ {L : List (List Nat)}, L.flatten.Nodup → ∀ l ∈ L, l.Nodup
  | [], _, l, h => by simp at h
  | a :: r, hn, l, h => by
    rw [List.flatten_cons, List.nodup_append] at hn
    rcases List.mem_cons.1 h with e | e
    · rw [e]; exact hn.1
    · exact flat_nodup hn.2.1 l e
theorem JnI.mNodup {E : List Pr} {S : Tm → Prop} {W : Nat} {k : Kl} {td : List (Nat × Nat)} {P : Nat → Prop} (h : JnI E S W k td P) {c : Nat} (hc : c < k.ts.length) : (k.M c).Nodup := by
  have hlm := h.lm
  have h1 : k.mb.flatten.Nodup := pig_nodup k.ts.length _ (fun i hi => by
    have hci := h.clt i hi
    have hm := (h.mem i (k.C i) hi hci).2 rfl
    refine List.mem_flatten.2 ⟨k.M (k.C i), ?_, hm⟩
    exact gd_mem (by omega)) (by rw [flat_len]; exact h.ms)
  exact flat_nodup h1 _ (gd_mem (by omega))
/-- The classes of the terms of S, as their texts: each one ascending; the rows in order, each once. -/
structure ClsR (E : List Pr) (S : Tm → Prop) (rows : List (List ByteArray)) : Prop where
  row : ∀ r ∈ rows, AscB r ∧ ∃ t, S t ∧ ∀ s, s ∈ r ↔ ∃ u, S u ∧ Cg E S t u ∧ s = txB u
  all : ∀ t, S t → ∃ r ∈ rows, txB t ∈ r
  asc : rows.Pairwise lxR
theorem lx_uniq : ∀ {l k : List (List ByteArray)}, l.Pairwise lxR → k.Pairwise lxR → (∀ s, s ∈ l ↔ s ∈ k) → l = k
  | [], [], _, _, _ => rfl
  | [], b :: k, _, _, h => absurd ((h b).2 (by simp)) (by simp)
  | a :: l, [], _, _, h => absurd ((h a).1 (by simp)) (by simp)
  | a :: l, b :: k, h1, h2, h => by
    rw [List.pairwise_cons] at h1 h2
    have e : a = b := by
      rcases List.mem_cons.1 ((h a).1 (by simp)) with e | e
      · exact e
      · rcases List.mem_cons.1 ((h b).2 (by simp)) with e2 | e2
        · exact e2.symm
        · exact absurd (lxR_trans (h2.1 a e) (h1.1 b e2)) (lxR_irrefl _)
    subst e
    rw [lx_uniq h1.2 h2.2 fun s => ⟨fun hs => ?_, fun hs => ?_⟩]
    · rcases List.mem_cons.1 ((h s).1 (by simp [hs])) with e | e
      · exact absurd (h1.1 s hs) (by rw [e]; exact lxR_irrefl _)
      · exact e
    · rcases List.mem_cons.1 ((h s).2 (by simp [hs])) with e | e
      · exact absurd (h2.1 s hs) (by rw [e]; exact lxR_irrefl _)
      · exact e
theorem cls_sub {E : List Pr} {S : Tm → Prop} {l k : List (List ByteArray)} (he : ∀ t, S t → errL [t] = 0) (h1 : ClsR E S l) (h2 : ClsR E S k) : ∀ r ∈ l, r ∈ k := fun r hr => by
  obtain ⟨ha, t, ht, hm⟩ := h1.row r hr
  obtain ⟨q, hq, htq⟩ := h2.all t ht
  obtain ⟨hb, u, hu, hn⟩ := h2.row q hq
  obtain ⟨v, hv, huv, e⟩ := (hn _).1 htq
  have etv : t = v := txt_inj (he t ht) (he v hv) (by
    unfold txB at e
    have := congrArg (fun b : ByteArray => b.data.toList) e
    simpa using this)
  subst etv
  have : r = q := asc_uniq ha hb fun s => by
    rw [hm, hn]
    exact ⟨fun ⟨x, hx, hc, e⟩ => ⟨x, hx, huv.trans hc, e⟩, fun ⟨x, hx, hc, e⟩ => ⟨x, hx, huv.sym.trans hc, e⟩⟩
  rw [this]; exact hq
theorem ClsR.uniq {E : List Pr} {S : Tm → Prop} {l k : List (List ByteArray)} (he : ∀ t, S t → errL [t] = 0) (h1 : ClsR E S l) (h2 : ClsR E S k) : l = k :=
  lx_uniq h1.asc h2.asc fun s => ⟨cls_sub he h1 h2 s, cls_sub he h2 h1 s⟩
/-- A row stands for a class. -/
def RwM (k : Kl) (c : Nat) (r : List ByteArray) : Prop := k.M c ≠ [] ∧ r.Perm ((k.M c).map fun i => txB (k.T i)) ∧ r.Pairwise fun a b => ltB b a = false
theorem TxR.rows {k : Kl} : ∀ {c : Nat} {rows : List (List ByteArray)}, TxR k c rows → (∀ r ∈ rows, ∃ i, i < c ∧ RwM k i r) ∧ (∀ i, i < c → k.M i ≠ [] → ∃ r ∈ rows, RwM k i r) ∧ rows.Pairwise fun a b => ∃ i j, i < j ∧ j < c ∧ RwM k i a ∧ RwM k j b
  | 0, rows, h => by
    rw [show rows = [] from h]
    exact ⟨by simp, fun i hi => absurd hi (Nat.not_lt_zero i), List.Pairwise.nil⟩
  | c + 1, rows, h => by
    rcases h with ⟨h0, h⟩ | ⟨h0, r0, row, rfl, h, hp, hs⟩
    · obtain ⟨a1, a2, a3⟩ := TxR.rows h
      refine ⟨fun r hr => ?_, fun i hi hne => ?_, a3.imp fun ⟨i, j, h1, h2, h3⟩ => ⟨i, j, h1, by omega, h3⟩⟩
      · obtain ⟨i, hi, g⟩ := a1 r hr; exact ⟨i, by omega, g⟩
      · have : i ≠ c := fun e => hne (by rw [e]; exact h0)
        exact a2 i (by omega) hne
    · obtain ⟨a1, a2, a3⟩ := TxR.rows h
      have hrow : RwM k c row := ⟨h0, hp, hs⟩
      refine ⟨fun r hr => ?_, fun i hi hne => ?_, ?_⟩
      · rcases List.mem_append.1 hr with e | e
        · obtain ⟨i, hi, g⟩ := a1 r e; exact ⟨i, by omega, g⟩
        · rw [List.mem_singleton.1 e]; exact ⟨c, by omega, hrow⟩
      · by_cases e : i = c
        · subst e; exact ⟨row, by simp, hrow⟩
        · obtain ⟨r, hr, g⟩ := a2 i (by omega) hne
          exact ⟨r, by simp [hr], g⟩
      · rw [List.pairwise_append]
        refine ⟨a3.imp fun ⟨i, j, h1, h2, h3⟩ => ⟨i, j, h1, by omega, h3⟩, List.pairwise_singleton _ _, fun a ha b hb => ?_⟩
        rw [List.mem_singleton.1 hb]
        obtain ⟨i, hi, g⟩ := a1 a ha
        exact ⟨i, c, hi, by omega, g, hrow⟩
end Go.Proofs.YtdmaijmglblccaaGreatDoor

/- The program's classes are the classes; closure.Classes is walked. -/
namespace Go.Proofs.YtdmaijmglblccaaGreatDoor
open Go.RowKit
set_option linter.unusedSimpArgs false
set_option linter.unusedVariables false
set_option maxRecDepth 8000

theorem txB_inj {a b : Tm} (ha : errL [a] = 0) (hb : errL [b] = 0) (e : txB a = txB b) : a = b := txt_inj ha hb (by
  unfold txB at e
  have := congrArg (fun b : ByteArray => b.data.toList) e
  simpa using this)
theorem cg_C {E : List Pr} {k : Kl} (hn : Num E k.ts k.cl) (hd : Done E k.ts k.cl) {a b : Nat} (ha : a < k.ts.length) (hb : b < k.ts.length) : k.C a = k.C b ↔ Cg E (· ∈ k.ts) (k.T a) (k.T b) := by
  have hlen := hn.len
  have h := num_iff hn hd ha hb (by omega) (by omega)
  unfold Kl.C Kl.T
  rw [gd_get ha, gd_get hb, gd_get (show a < k.cl.length by omega), gd_get (show b < k.cl.length by omega)]
  exact h
theorem kTx_inj {E : List Pr} {k : Kl} (hn : Num E k.ts k.cl) (he : ∀ x ∈ k.ts, errL [x] = 0) {a b : Nat} (ha : a < k.ts.length) (hb : b < k.ts.length) (e : txB (k.T a) = txB (k.T b)) : a = b := by
  have h1 : k.T a ∈ k.ts := gd_mem ha
  have h2 : k.T b ∈ k.ts := gd_mem hb
  have h3 := txB_inj (he _ h1) (he _ h2) e
  unfold Kl.T at h3
  rw [gd_get ha, gd_get hb] at h3
  exact (List.getElem_inj hn.nd).1 h3
theorem cls_of {E : List Pr} {W : Nat} {k : Kl} {td : List (Nat × Nat)} {P : Nat → Prop} (hJ : JnI E (· ∈ k.ts) W k td P) (hn : Num E k.ts k.cl) (hd : Done E k.ts k.cl) (he : ∀ x ∈ k.ts, errL [x] = 0) {rows qs : List (List ByteArray)} (hT : TxR k k.mb.length rows) (hp : qs.Perm rows) (hs : qs.Pairwise fun a b => ¬ cmR b a < 0) : ClsR E (· ∈ k.ts) qs := by
  obtain ⟨a1, a2, a3⟩ := hT.rows
  have hlm := hJ.lm
  have hR : ∀ {i : Nat} {r : List ByteArray}, i < k.ts.length → RwM k i r → AscB r ∧ ∀ s, s ∈ r ↔ ∃ j, j < k.ts.length ∧ k.C j = i ∧ s = txB (k.T j) := fun {i r} hi h => by
    have hnd : ((k.M i).map fun j => txB (k.T j)).Nodup := by
      rw [List.Nodup, List.pairwise_map]
      refine List.Pairwise.imp_of_mem (fun {a b} ha hb hne e => hne ?_) (hJ.mNodup hi)
      exact kTx_inj hn he (hJ.mlt i hi a ha) (hJ.mlt i hi b hb) e
    obtain ⟨b1, b2⟩ := asc_of_perm h.2.1 hnd h.2.2
    refine ⟨b1, fun s => ?_⟩
    rw [b2, List.mem_map]
    constructor
    · rintro ⟨j, hj, rfl⟩
      have hj2 := hJ.mlt i hi j hj
      exact ⟨j, hj2, (hJ.mem j i hj2 hi).1 hj, rfl⟩
    · rintro ⟨j, hj, hc, rfl⟩
      exact ⟨j, (hJ.mem j i hj hi).2 hc, rfl⟩
  refine ⟨fun r hr => ?_, fun t ht => ?_, ?_⟩
  · obtain ⟨i, hi, h⟩ := a1 r (hp.mem_iff.1 hr)
    have hi2 : i < k.ts.length := by omega
    obtain ⟨b1, b2⟩ := hR hi2 h
    obtain ⟨a, ha⟩ := List.exists_mem_of_ne_nil _ h.1
    have ha2 := hJ.mlt i hi2 a ha
    have hac := (hJ.mem a i ha2 hi2).1 ha
    refine ⟨b1, k.T a, gd_mem ha2, fun s => ?_⟩
    rw [b2]
    constructor
    · rintro ⟨j, hj, hc, e⟩
      exact ⟨k.T j, gd_mem hj, (cg_C hn hd ha2 hj).1 (hac.trans hc.symm), e⟩
    · rintro ⟨u, hu, hc, e⟩
      obtain ⟨j, hj, hju⟩ := List.mem_iff_getElem.1 hu
      have hTj : k.T j = u := by unfold Kl.T; rw [gd_get hj]; exact hju
      rw [← hTj] at hc e
      exact ⟨j, hj, ((cg_C hn hd ha2 hj).2 hc).symm.trans hac, e⟩
  · obtain ⟨j, hj, hju⟩ := List.mem_iff_getElem.1 ht
    have hTj : k.T j = t := by unfold Kl.T; rw [gd_get hj]; exact hju
    have hcj := hJ.clt j hj
    have hm := (hJ.mem j (k.C j) hj hcj).2 rfl
    obtain ⟨r, hr, h⟩ := a2 (k.C j) (by omega) (List.ne_nil_of_mem hm)
    exact ⟨r, hp.mem_iff.2 hr, ((hR hcj h).2 _).2 ⟨j, hj, rfl, by rw [hTj]⟩⟩
  · have hnd : rows.Nodup := a3.imp fun {a b} ⟨i, j, hij, hj, h1, h2⟩ e => by
      subst e
      obtain ⟨x, hx⟩ := List.exists_mem_of_ne_nil _ h1.1
      have hx2 := hJ.mlt i (by omega) x hx
      have hxc := (hJ.mem x i hx2 (by omega)).1 hx
      have hin := ((hR (by omega) h1).2 (txB (k.T x))).2 ⟨x, hx2, hxc, rfl⟩
      obtain ⟨y, hy, hyc, e⟩ := ((hR (by omega) h2).2 _).1 hin
      have := kTx_inj hn he hx2 hy e
      subst this
      omega
    have hqn : qs.Nodup := hp.nodup_iff.2 hnd
    refine (List.pairwise_and_iff.2 ⟨hs, hqn⟩).imp fun {a b} ⟨h1, h2⟩ => ?_
    by_cases h3 : lxR a b
    · exact h3
    · exact absurd (lxR_conn h3 fun h4 => h1 (cmR_neg.2 h4)) h2
theorem pre_sizeK (l : List Tm) : ∀ {x : Tm}, x ∈ preL l → sizeL [x] ≤ sizeL l := by
  induction l using Tm.indL with
  | h0 => intro x h; simp [preL] at h
  | h s l r ihl ihr =>
    intro x h
    have e : sizeL ((⟨s, l⟩ : Tm) :: r) = 1 + sizeL l + sizeL r := by simp [sizeL]
    have e2 : sizeL [(⟨s, l⟩ : Tm)] = 1 + sizeL l := by simp [sizeL]
    rw [e]
    have h2 : x = ⟨s, l⟩ ∨ x ∈ preL l ∨ x ∈ preL r := by simpa [preL] using h
    rcases h2 with h | h | h
    · rw [h, e2]; omega
    · have := ihl h; omega
    · have := ihr h; omega
theorem ClsR.iff {E : List Pr} {S T : Tm → Prop} {l : List (List ByteArray)} (h : ∀ t, S t ↔ T t) (g : ClsR E S l) : ClsR E T l := by
  have e : S = T := funext fun t => propext (h t)
  rw [← e]; exact g
/-- What closure.Classes answers. -/
def ClP (ls : List Pr) (w : World) (e : Ending) (w' : World) : Prop :=
  Below w.heap.size w w' ∧ ((grdE ls ≠ 0 ∧ e = .returned (.tuple #[.slice none 0 0, .int .i64 (grdE ls)])) ∨ (grdE ls = 0 ∧ ∃ (a : Option Addr) (c : Nat) (ps : List (Value × List ByteArray)), e = .returned (.tuple #[.slice a ps.length c, .int .i64 0]) ∧ (ps = [] ∨ ∃ g, a = some ⟨g, 0, none⟩ ∧ ∀ j (h : j < ps.length), w'.cell? ⟨g, j, none⟩ = some ps[j].1) ∧ (∀ p ∈ ps, Stx w' p.1 p.2) ∧ ClsR ls (· ∈ preL (prT ls)) (ps.map (·.2))))
set_option maxHeartbeats 4000000 in
theorem kClasses_any (hN0 : SrtN) {BT : Nat} (ls : List Pr) (u : Value) (w : World) (X : Nat → Prop) (hu : QV w X u ls) (hT : Tb BT w) (hBT : BT ≤ w.heap.size) (hz : grdE ls = 0 → sizeL (prT ls) ≤ 900) :
    Calls Tryz.prog 16 #[u] w (ClP ls w) := by
  obtain ⟨ua, uc, rfl, hul, huu⟩ := id hu
  have HU := hide hu
  have HT := hide hT
  have HZ := hide hz
  have HBT := hide hBT
  have HN0 := hide hN0
  clear hu hT hz hBT huu hN0
  go_enter Tryz.func16, Tryz.ntmps16
  go_wp2_with fail
  refine (kcheck_any ls _ w X HU.out).mono ?_
  rintro e w2 ⟨rfl, hb2⟩
  have HB2 := hide hb2
  clear hb2
  by_cases hg : grdE ls = 0
  · have HG := hide hg
    rw [hg]
    clear hg
    have hq : Sl w2 (fun z => X z ∧ z < w2.heap.size) none ([] : List Tm) := ⟨by simp, Or.inl rfl⟩
    have hu2 : QV w2 (fun z => X z ∧ z < w2.heap.size) (.slice ua ls.length uc) ls := (HU.out.later HB2.out).mono fun b h1 h2 => ⟨h1, h2⟩
    have CL := closed_any ls [] (.slice ua ls.length uc) none 0 w2 _ hu2 hq (HT.out.on (HB2.out.mono HBT.out)) (Nat.le_trans HBT.out HB2.out.size) (fun z h => h.2) (by rw [List.append_nil]; exact prT_err (pairsE_all (grd_pairs HG.out))) (by rw [List.append_nil]; exact HZ.out HG.out) (Nat.le_trans (pairsE_len (grd_pairs HG.out)) (by omega))
    have HCL := hide CL
    clear CL hq hu2
    go_wp2_with fail
    refine HCL.out.mono ?_
    rintro e w6 ⟨N, Bk, r, k, m, o, nv, ns, rfl, hBk, hK, hN, hns, hlt, hnum, hdone, hmem, herr, hJ, h9, hb6⟩
    have HB6 := hide (HB2.out.trans (hb6.mono HB2.out.size))
    have TX := texts_any srtR HN0.out w6 hK hJ.lm hJ.mlt (fun c hc => by
      have h1 := sumN_at (l := k.mb) (i := c) (by rw [hJ.lm]; exact hc)
      have h2 := hJ.ms
      show (gd k.mb [] c).length ≤ 900
      omega) h9 fun i hi => by
        have hm : k.T i ∈ k.ts := gd_mem hi
        have he := herr _ hm
        have hs : sizeL [k.T i] ≤ 900 := by
          have h1 := pre_sizeK _ ((hmem _).1 hm)
          have h2 := HZ.out HG.out
          rw [List.append_nil] at h1
          omega
        have := txt_len _ he
        omega
    have HTX := hide TX
    have HC : Hid (∀ {rows qs : List (List ByteArray)}, TxR k k.mb.length rows → qs.Perm rows → (qs.Pairwise fun a b => ¬ cmR b a < 0) → ClsR ls (· ∈ preL (prT ls)) qs) := by
      intro rows qs h1 h2 h3
      refine (cls_of hJ hnum hdone herr h1 h2 h3).iff fun t => ?_
      rw [hmem, List.append_nil]
    obtain ⟨na, nc, rfl⟩ := hN.shape
    clear TX hb6 hK hN hns hlt hnum hdone hmem herr hJ h9
    go_wp2_with fail
    refine HTX.out.mono ?_
    rintro e w7 ⟨hb7, a, c, ps, rows, rfl, h1, h2, h3, h4, h5⟩
    have FIN : Hid (∀ e, e = .returned (.tuple #[.slice a ps.length c, .int .i64 0]) → ClP ls w e w7) := by
      rintro e rfl
      exact ⟨HB6.out.trans (hb7.mono HB6.out.size), Or.inr ⟨HG.out, a, c, ps, rfl, h1, h2, HC.out h4 h3 (by rw [List.pairwise_map]; exact h5.imp fun {a b} h => by omega)⟩⟩
    clear hb7 h1 h2 h3 h4 h5
    go_wp2_with fail
    refine bodyPost_ret (v := .tuple #[.slice a ps.length c, .int .i64 0]) (by simp [results, Tryz.results16, go_sem]) rfl ?_
    exact FIN.out _ rfl
  · have HE : Hid (grdE ls ≠ 0) := hg
    have hne : (grdE ls != 0) = true := by simp [hg]
    obtain ⟨er, her⟩ : ∃ er, er = grdE ls := ⟨_, rfl⟩
    rw [← her] at hne ⊢
    have HER := hide her
    clear her hg
    go_wp2_with fail
    refine bodyPost_ret (v := .tuple #[.slice none 0 0, .int .i64 er]) (by simp [results, Tryz.results16, go_sem]) rfl ?_
    exact ⟨HB2.out, Or.inl ⟨HE.out, by rw [← HER.out]⟩⟩
end Go.Proofs.YtdmaijmglblccaaGreatDoor

/- Memory: terms, their texts, and a map by these, side by side. -/
namespace Go.Proofs.YtdmaijmglblccaaGreatDoor
open Go.RowKit
set_option linter.unusedSimpArgs false
set_option linter.unusedVariables false
set_option maxRecDepth 8000

theorem addH (b i : Nat) : (⟨b, 0, none⟩ : Addr).add i = ⟨b, i, none⟩ := by by_cases h0 : i = 0 <;> simp [Addr.add, h0]
/-- A row of terms of one's own, whose parts lie where Z says. -/
structure RowH (w : World) (N : Nat) (Z : Nat → Prop) (v : Value) (l : List Tm) (xs : List Value) : Prop where
  own : w.ownsRow N 25 2 v l.length xs
  row : RowT w Z l xs
theorem RowH.mono {w : World} {N : Nat} {Z Z' : Nat → Prop} {v : Value} {l : List Tm} {xs : List Value} (h : RowH w N Z v l xs) (hZ : ∀ b, Z b → b < w.heap.size → Z' b) : RowH w N Z' v l xs :=
  ⟨h.own, h.row.imp fun a l hs => hs.mono hZ⟩
theorem RowH.exq {w w' : World} {N : Nat} {Q Z : Nat → Prop} {v : Value} {l : List Tm} {xs : List Value} (h : RowH w N Z v l xs) (he : ExQ Q w w') (hv : ∀ b, v.ownBlock = some b → ¬ Q b) (hZ : ∀ b, Z b → ¬ Q b) : RowH w' N Z v l xs :=
  ⟨ownsRow_at h.own fun g hg => he.block g (h.own.lt g hg).2 (hv g hg), h.row.imp fun a l hs => hs.exq he hZ⟩
theorem RowH.below {w w' : World} {N : Nat} {Z : Nat → Prop} {v : Value} {l : List Tm} {xs : List Value} (h : RowH w N Z v l xs) (hb : Below w.heap.size w w') : RowH w' N Z v l xs :=
  ⟨ownsRow_at h.own fun g hg => hb.block g (h.own.lt g hg).2, h.row.imp fun a l hs => hs.later hb⟩
theorem own_shapeH {w : World} {N T z n : Nat} {v : Value} {xs : List Value} (h : w.ownsRow N T z v n xs) : ∃ a c, v = .slice a n c := by
  rcases h.2 with ⟨h1, h0⟩ | ⟨g, cap, cur, h1, _⟩
  · exact ⟨none, 0, by rw [h1, h0]⟩
  · exact ⟨_, _, h1⟩
/-- One of a row. -/
theorem rowH_at {w : World} {N : Nat} {Z : Nat → Prop} {v : Value} {l : List Tm} {xs : List Value} (h : RowH w N Z v l xs) {i : Nat} (hi : i < l.length) : ∃ g cap ax cx, v = .slice (some ⟨g, 0, none⟩) l.length cap ∧ w.cell? ⟨g, i * 2, none⟩ = some (.string l[i].name) ∧ w.cell? ⟨g, i * 2 + 1, none⟩ = some (.slice ax l[i].args.length cx) ∧ Sl w Z ax l[i].args ∧ g < w.heap.size := by
  rcases h.own.2 with ⟨h1, h0⟩ | ⟨g, cap, cur, h1, _⟩
  · omega
  · have hc := h.own.cells (g := g) (by rw [h1]; rfl)
    have hl := (h.own.lt g (by rw [h1]; rfl)).2
    obtain ⟨x0, ax, cx, x1, hs⟩ := h.row.get i hi
    exact ⟨g, cap, ax, cx, h1, by have := hc _ _ x0; rw [addH] at this; exact this, by have := hc _ _ x1; rw [addH] at this; exact this, hs, hl⟩
theorem cell_termH (w : World) (s : ByteArray) (u : Value) (T : Nat) : ∀ j v, [Value.string s, u][j]? = some v → (w.alloc (.cells #[.string s, u] T)).cell? ((⟨w.heap.size, 0, none⟩ : Addr).add j) = some v :=
  World.news_of_block (cs := #[.string s, u]) (heap_alloc_new w _)
theorem app_termH {w : World} {N : Nat} {Z : Nat → Prop} {u : Value} {L : List Tm} {xs : List Value} {z : Tm} {a1 : Option Addr} {c : Nat} (h : RowH w N Z u L xs) (hN : N ≤ w.heap.size) (hZ : ∀ b, Z b → some b ≠ u.ownBlock) (hl : L.length ≤ 1000000) (hz : Sl w Z a1 z.args) :
    ∃ g cap w3, (Builtin.append_ #[23, 23] 23 #[u, .slice (some ⟨w.heap.size, 0, none⟩) 1 1]).run Tryz.prog (w.alloc (.cells #[.string z.name, .slice a1 z.args.length c] 25)) = .ok (.slice (some ⟨g, 0, none⟩) (L.length + 1) cap) w3 ∧
      RowH w3 N (fun b => Z b ∧ b ≠ g) (.slice (some ⟨g, 0, none⟩) (L.length + 1) cap) (L ++ [z]) (xs ++ [.string z.name, .slice a1 z.args.length c]) ∧ ExQ (fun b => some b = u.ownBlock) w w3 ∧ (u.ownBlock = some g ∨ g = w.heap.size + 1) := by
  obtain ⟨i0, hi, hz0, hz1, hz2⟩ := info_parts Tryz.infoTerm
  obtain ⟨g, cap, w3, hr, ho, hg, hat, _⟩ := run_append_lies (P := Tryz.prog) (w := w.alloc (.cells #[.string z.name, .slice a1 z.args.length c] 25)) 23 23 N 25 i0 _ 2 40 Tryz.underlying23 hi hz0 hz1 hz2 rfl (by decide) u L.length xs (h.own.alloc _) ⟨w.heap.size, 0, none⟩ 1 1 [.string z.name, .slice a1 z.args.length c] rfl (cell_termH _ _ _ _) (fun x hx => by simp at hx; rcases hx with rfl | rfl <;> rfl) (by decide) (by unfold maxLen; omega) (by omega) (by simp; omega) _ rfl
  have he : ExQ (fun b => some b = u.ownBlock) w w3 := ((ExQ.refl _ w).alloc _).grown hg (fun k hk => Or.inr hk.symm)
  have hold : ∀ (a : Option Addr) (l : List Tm), Sl w Z a l → Sl w3 (fun b => Z b ∧ b ≠ g) a l := fun a l hs =>
    ((hs.mono (Y := fun b => Z b ∧ b < w.heap.size) fun b h1 h2 => ⟨h1, h2⟩).exq he (fun b hb e => hZ b hb.1 e)).mono fun b hb _ => ⟨hb.1, fun e => by
      subst e
      rcases hat with e' | e'
      · exact hZ b hb.1 e'.symm
      · simp at e'; omega⟩
  refine ⟨g, cap, w3, hr, ⟨by simpa using ho, RowT.append (h.row.imp hold) ⟨a1, c, [], rfl, hold _ _ hz, rfl⟩⟩, he, by simpa using hat⟩
theorem app_strH {w : World} {N : Nat} {v : Value} {l : List ByteArray} {s : ByteArray} (h : w.ownsRow N 9 1 v l.length (l.map Value.string)) (hN : N ≤ w.heap.size) (hl : l.length ≤ 100000) :
    ∃ g cap w3, (Builtin.append_ #[31, 31] 31 #[v, .slice (some ⟨w.heap.size, 0, none⟩) 1 1]).run Tryz.prog (w.alloc (.cells #[.string s] 9)) = .ok (.slice (some ⟨g, 0, none⟩) (l.length + 1) cap) w3 ∧ w3.ownsRow N 9 1 (.slice (some ⟨g, 0, none⟩) (l.length + 1) cap) (l ++ [s]).length ((l ++ [s]).map Value.string) ∧ ExQ (fun b => some b = v.ownBlock) w w3 ∧ (v.ownBlock = some g ∨ g = w.heap.size + 1) := by
  obtain ⟨i0, hi, hz0, hz1, hz2⟩ := info_parts Tryz.infoStr
  obtain ⟨g, cap, w3, hr, ho, hg, hat, _⟩ := run_append_lies (P := Tryz.prog) (w := w.alloc (.cells #[.string s] 9)) 31 31 N 9 i0 _ 1 16 Tryz.underlying31 hi hz0 hz1 hz2 rfl (by decide) v l.length (l.map Value.string) (h.alloc _) ⟨w.heap.size, 0, none⟩ 1 1 [.string s] rfl (World.news_of_block (cs := #[.string s]) (heap_alloc_new w _)) (fun x hx => by simp at hx; subst hx; rfl) (by decide) (by unfold maxLen; omega) (by omega) (by simp; omega) _ rfl
  exact ⟨g, cap, w3, hr, by simpa using ho, ((ExQ.refl _ w).alloc _).grown hg (fun k hk => Or.inr hk.symm), by simpa using hat⟩
/-- Blocks of neither row, nor the map's. -/
def Zr (ov ev : Value) (M b : Nat) : Prop := some b ≠ ov.ownBlock ∧ some b ≠ ev.ownBlock ∧ b ≠ M
/-- The terms so far, the texts so far, the map's keys so far. -/
structure RcW (D : Value → Prop) (wN : World) (M : Nat) (all : List Tm) (tx ks : List ByteArray) (ov ev : Value) (wr : World) : Prop where
  ex : ∃ xs, RowH wr wN.heap.size (Zr ov ev M) ov all xs
  es : wr.ownsRow wN.heap.size 9 1 ev tx.length (tx.map Value.string)
  mp : ∃ L, MapAt wr M L ∧ L.map (·.1) = ks ∧ ∀ p ∈ L, D p.2
  ne : ∀ b, ov.ownBlock = some b → ev.ownBlock ≠ some b
  nm : ov.ownBlock ≠ some M ∧ ev.ownBlock ≠ some M
  hM : wN.heap.size ≤ M
  bl : Below wN.heap.size wN wr
theorem RcW.later {D : Value → Prop} {wN : World} {M : Nat} {all : List Tm} {tx ks : List ByteArray} {ov ev : Value} {wr w' : World} (h : RcW D wN M all tx ks ov ev wr) (hb : Below wr.heap.size wr w') : RcW D wN M all tx ks ov ev w' := by
  obtain ⟨xs, h1⟩ := h.ex
  obtain ⟨L, h2, h3, h4⟩ := h.mp
  exact ⟨⟨xs, h1.below hb⟩, ownsRow_at h.es fun g hg => hb.block g (h.es.lt g hg).2, ⟨L, h2.below hb h2.lt, h3, h4⟩, h.ne, h.nm, h.hM, h.bl.trans (hb.mono h.bl.size)⟩
/-- A text more. -/
theorem RcW.pushS {D : Value → Prop} {wN : World} {M : Nat} {all : List Tm} {tx ks : List ByteArray} {ov ev : Value} {w : World} {s : ByteArray} (h : RcW D wN M all tx ks ov ev w) (hl : tx.length ≤ 100000) :
    ∃ g cap w3, (Builtin.append_ #[31, 31] 31 #[ev, .slice (some ⟨w.heap.size, 0, none⟩) 1 1]).run Tryz.prog (w.alloc (.cells #[.string s] 9)) = .ok (.slice (some ⟨g, 0, none⟩) (tx.length + 1) cap) w3 ∧
      RcW D wN M all (tx ++ [s]) ks ov (.slice (some ⟨g, 0, none⟩) (tx.length + 1) cap) w3 ∧ ExQ (fun b => some b = ev.ownBlock) w w3 ∧ (ev.ownBlock = some g ∨ w.heap.size ≤ g) := by
  obtain ⟨xs, hR⟩ := h.ex
  have hN := h.bl.size
  have holt := hR.own.lt
  have helt := h.es.lt
  obtain ⟨L, hm1, hm2, hm3⟩ := h.mp
  have hMl := hm1.lt
  obtain ⟨g, cap, w3, hr, hS3, he, hat⟩ := app_strH (s := s) h.es hN hl
  have hge : ov.ownBlock ≠ some g := fun e => by
    rcases hat with e2 | e2
    · exact h.ne g e e2
    · have := (holt g e).2; omega
  have hgM : g ≠ M := fun e => by
    rcases hat with e2 | e2
    · exact h.nm.2 (by rw [e2, e])
    · omega
  have hR2 := (hR.mono (Z' := fun b => Zr ov ev M b ∧ b < w.heap.size) fun b h1 h2 => ⟨h1, h2⟩).exq he (fun b e1 e2 => h.ne b e1 e2.symm) fun b hb e => hb.1.2.1 e
  refine ⟨g, cap, w3, hr, ⟨⟨_, hR2.mono fun b hb _ => ⟨hb.1.1, fun e => ?_, hb.1.2.2⟩⟩, hS3, ⟨L, hm1.kept (he.block M hMl fun e => h.nm.2 e.symm), hm2, hm3⟩, fun b hb e => ?_, ⟨h.nm.1, fun e => hgM (by simpa [Value.ownBlock] using e)⟩, h.hM, h.bl.trans (he.below hN fun b e => (helt b e.symm).1)⟩, he, hat.imp id fun e => by omega⟩
  · have : b = g := by simpa [Value.ownBlock] using e
    subst this
    rcases hat with e2 | e2
    · exact hb.1.2.1 e2.symm
    · have := hb.2; omega
  · have : g = b := by simpa [Value.ownBlock] using e
    subst this
    exact hge hb
/-- What stood fast stands fast. -/
def Fsh (S : Nat) (o0 o : Value) : Prop := o.ownBlock = o0.ownBlock ∨ ∃ g, o.ownBlock = some g ∧ S ≤ g
theorem Fsh.next {S : Nat} {o0 o : Value} {w : World} {g n cap : Nat} (h : Fsh S o0 o) (hS : S ≤ w.heap.size) (hg : o.ownBlock = some g ∨ w.heap.size ≤ g) : Fsh S o0 (.slice (some ⟨g, 0, none⟩) n cap) := by
  rcases hg with e | e
  · rcases h with h | ⟨k, h1, h2⟩
    · exact Or.inl (by rw [← h, e]; rfl)
    · exact Or.inr ⟨g, rfl, by rw [e] at h1; cases h1; exact h2⟩
  · exact Or.inr ⟨g, rfl, by omega⟩
end Go.Proofs.YtdmaijmglblccaaGreatDoor

/- The document's ClosureOf: plain, and memory. -/
namespace Go.Proofs.YtdmaijmglblccaaGreatDoor
open Go.RowKit
set_option linter.unusedSimpArgs false
set_option linter.unusedVariables false
set_option maxRecDepth 8000

/-- The place of each text. -/
def ixK (ks : List ByteArray) : List (ByteArray × Value) := ks.zipIdx.map fun p => (p.1, .int .i64 (p.2 : Int))
theorem ixK_snoc (ks : List ByteArray) (s : ByteArray) : ixK (ks ++ [s]) = ixK ks ++ [(s, .int .i64 (ks.length : Int))] := by simp [ixK, List.zipIdx_append]
theorem mapGet_appK (L K : List (ByteArray × Value)) (n : ByteArray) : mapGet (L ++ K) n = (mapGet L n).or (mapGet K n) := by
  induction L with
  | nil => simp [mapGet]
  | cons p L ih =>
    by_cases h : p.1 = n
    · simp [mapGet, h]
    · simp [mapGet, h, ih]
theorem snocK {α : Type} {P : List α → Prop} (h0 : P []) (h1 : ∀ l a, P l → P (l ++ [a])) (l : List α) : P l := by
  have h : ∀ r : List α, P r.reverse := by
    intro r
    induction r with
    | nil => simpa using h0
    | cons a r ih => rw [List.reverse_cons]; exact h1 _ _ ih
  have := h l.reverse
  rwa [List.reverse_reverse] at this
theorem ixK_none {s : ByteArray} (ks : List ByteArray) : s ∉ ks → mapGet (ixK ks) s = none := by
  refine snocK (P := fun ks => s ∉ ks → mapGet (ixK ks) s = none) (fun _ => rfl) (fun ks k ih h => ?_) ks
  have h1 : s ∉ ks := fun e => h (by simp [e])
  have h2 : ¬ k = s := fun e => h (by simp [e])
  rw [ixK_snoc, mapGet_appK, ih h1]
  simp [mapGet, h2]
theorem ixK_get (ks : List ByteArray) : ks.Nodup → ∀ (i : Nat) (hi : i < ks.length), mapGet (ixK ks) ks[i] = some (.int .i64 (i : Int)) := by
  refine snocK (P := fun ks => ks.Nodup → ∀ (i : Nat) (hi : i < ks.length), mapGet (ixK ks) ks[i] = some (.int .i64 (i : Int))) (fun _ i hi => by simp at hi) (fun ks k ih hn i hi => ?_) ks
  rw [List.nodup_append] at hn
  rw [ixK_snoc, mapGet_appK]
  by_cases h : i < ks.length
  · rw [List.getElem_append_left h, ih hn.1 i h]
    rfl
  · have e : i = ks.length := by simp at hi; omega
    subst e
    rw [List.getElem_append_right (by omega)]
    simp only [Nat.sub_self, List.getElem_cons_zero]
    rw [ixK_none ks fun hk => hn.2.2 k hk k (by simp) rfl]
    simp [mapGet]
theorem pre_errK (l : List Tm) : ∀ {u : Tm}, errL l = 0 → u ∈ preL l → errL [u] = 0 := by
  induction l using Tm.indL with
  | h0 => intro u _ h; simp [preL] at h
  | h s a r iha ihr =>
    intro u he hu
    have e : preL ((⟨s, a⟩ : Tm) :: r) = ⟨s, a⟩ :: (preL a ++ preL r) := by simp [preL]
    rw [errL_cons] at he
    split at he
    · rename_i h0
      rw [e] at hu
      rcases List.mem_cons.1 hu with rfl | hu
      · exact h0
      · rcases List.mem_append.1 hu with hu | hu
        · exact iha (errL_parts0 h0) hu
        · exact ihr he hu
    · exact absurd he (by assumption)
/-- So many are taken in. -/
structure AdP (ys L : List Tm) : Prop where
  nd : L.Nodup
  mem : ∀ x, x ∈ L ↔ x ∈ ys
  le : L.length ≤ ys.length
theorem AdP.nil : AdP [] [] := ⟨List.nodup_nil, fun x => Iff.rfl, Nat.le_refl _⟩
theorem AdP.old {ys L : List Tm} {y : Tm} (h : AdP ys L) (he : ∀ x ∈ ys, errL [x] = 0) (hy : errL [y] = 0) (hi : inB (txB y) (L.map txB) = true) : AdP (ys ++ [y]) L := by
  refine ⟨h.nd, fun x => ⟨fun hx => by simp [(h.mem x).1 hx], fun hx => ?_⟩, by have := h.le; simp; omega⟩
  rcases List.mem_append.1 hx with hx | hx
  · exact (h.mem x).2 hx
  · simp at hx
    obtain ⟨z, hz, e⟩ := List.mem_map.1 (inB_mem8.1 hi)
    have := txB_inj (he z ((h.mem z).1 hz)) hy e
    rw [hx, ← this]; exact hz
theorem AdP.new {ys L : List Tm} {y : Tm} (h : AdP ys L) (hi : inB (txB y) (L.map txB) = false) : AdP (ys ++ [y]) (L ++ [y]) := by
  refine ⟨List.nodup_append.2 ⟨h.nd, by simp, fun a ha b hb e => ?_⟩, fun x => by simp [h.mem x], by have := h.le; simp; omega⟩
  simp at hb
  have h1 : inB (txB y) (L.map txB) = true := inB_mem8.2 (List.mem_map.2 ⟨a, ha, by rw [e, hb]⟩)
  rw [hi] at h1; cases h1
theorem AdP.txnd {ys L : List Tm} (h : AdP ys L) (he : ∀ x ∈ ys, errL [x] = 0) : (L.map txB).Nodup := by
  rw [List.nodup_iff_pairwise_ne, List.pairwise_map]
  refine List.Pairwise.imp_of_mem (fun {a b} ha hb hne e => hne (txB_inj (he a ((h.mem a).1 ha)) (he b ((h.mem b).1 hb)) e)) (List.nodup_iff_pairwise_ne.1 h.nd)
/-- A term's place. -/
def plK (L : List Tm) (t : Tm) : Nat := (L.map fun u => txtL [u]).idxOf (txtL [t])
theorem plK_lt {L : List Tm} {t : Tm} (h : t ∈ L) : plK L t < L.length := by
  have := List.idxOf_lt_length_iff.2 (List.mem_map.2 ⟨t, h, rfl⟩ : txtL [t] ∈ L.map fun u => txtL [u])
  simpa [plK] using this
theorem plK_tx {L : List Tm} {t : Tm} (h : t ∈ L) (hm : plK L t < (L.map txB).length) : (L.map txB)[plK L t] = txB t := by
  have hm2 : plK L t < (L.map fun u => txtL [u]).length := by simpa using hm
  have h1 : (L.map fun u => txtL [u])[plK L t] = txtL [t] := List.getElem_idxOf hm2
  rw [List.getElem_map] at h1 ⊢
  unfold txB
  rw [h1]
theorem plK_at {L : List Tm} {t : Tm} (h : t ∈ L) (he : ∀ x ∈ L, errL [x] = 0) : gd L noK (plK L t) = t := by
  have hl := plK_lt h
  have hm : plK L t < (L.map txB).length := by simpa using hl
  have h1 := plK_tx h hm
  rw [List.getElem_map] at h1
  rw [gd_get hl]
  exact txB_inj (he _ (List.getElem_mem hl)) (he _ h) h1
/-- The parts by their places. -/
def blK (L : List Tm) : List (List Nat) := L.map fun t => t.args.map (plK L)
theorem blK_ok {L : List Tm} (he : ∀ x ∈ L, errL [x] = 0) (hc : ∀ t ∈ L, ∀ x ∈ t.args, x ∈ L) : BlK L (blK L) := by
  intro i hi
  have e : gd (blK L) [] i = (gd L noK i).args.map (plK L) := by
    unfold blK
    rw [gd_map (e := []) (f := fun t : Tm => t.args.map (plK L)) (d := noK) hi]
  have hm : gd L noK i ∈ L := gd_mem hi
  rw [e]
  refine ⟨?_, fun b hb => ?_⟩
  · rw [List.map_map]
    have : List.map (gd L noK ∘ plK L) (gd L noK i).args = List.map id (gd L noK i).args := List.map_congr_left fun x hx => plK_at (hc _ hm x hx) he
    rw [this, List.map_id]
  · obtain ⟨x, hx, rfl⟩ := List.mem_map.1 hb
    exact plK_lt (hc _ hm x hx)
theorem look_plK {w : World} {r : Nat} {L : List Tm} (h : MapAt w r (ixK (L.map txB))) (hn : (L.map txB).Nodup) {x : Tm} (hx : x ∈ L) : (Instr.lookup 63 (.map (some r)) (.string (txB x)) false).run Tryz.prog w = .ok (.int .i64 ((plK L x : Nat) : Int)) w := by
  have hl := plK_lt hx
  have hm : plK L x < (L.map txB).length := by simpa using hl
  have h1 := plK_tx hx hm
  have h2 := ixK_get (L.map txB) hn _ hm
  rw [h1] at h2
  rw [run_look1 (P := Tryz.prog) Tryz.underlying63 Tryz.underlying9 (Tryz.zeroValue3 w) h, h2]
  rfl
/-- All terms, and their texts, in two boxes. -/
structure AdI (N A T : Nat) (L : List Tm) (tx : List ByteArray) (ov ev : Value) (w : World) : Prop where
  ra : ∃ xs, RowH w N (fun b => b < N) ov L xs
  rt : w.ownsRow N 9 1 ev tx.length (tx.map Value.string)
  ba : Blk w A #[ov] 23
  bt : Blk w T #[ev] 31
  ne : ∀ b, ov.ownBlock = some b → ev.ownBlock ≠ some b
  oa : ov.ownBlock ≠ some A
  ot : ov.ownBlock ≠ some T
  ea : ev.ownBlock ≠ some A
  et : ev.ownBlock ≠ some T
  nAT : A ≠ T
  hA : N ≤ A
  hT : N ≤ T
theorem AdI.later {N A T : Nat} {L : List Tm} {tx : List ByteArray} {ov ev : Value} {w w' : World} (h : AdI N A T L tx ov ev w) (hb : Below w.heap.size w w') : AdI N A T L tx ov ev w' := by
  obtain ⟨xs, h1⟩ := h.ra
  exact ⟨⟨xs, h1.below hb⟩, ownsRow_at h.rt fun g hg => hb.block g (h.rt.lt g hg).2, h.ba.below hb h.ba.lt, h.bt.below hb h.bt.lt, h.ne, h.oa, h.ot, h.ea, h.et, h.nAT, h.hA, h.hT⟩
/-- What may have changed. -/
def ChK (A T : Nat) (ov ev : Value) (b : Nat) : Prop := some b = ov.ownBlock ∨ some b = ev.ownBlock ∨ b = A ∨ b = T
/-- A text more. -/
theorem AdI.pushS {N A T : Nat} {L : List Tm} {tx : List ByteArray} {ov ev : Value} {w : World} (h : AdI N A T L tx ov ev w) (hN : N ≤ w.heap.size) (hl : tx.length ≤ 100000) (s : ByteArray) :
    ∃ g cap w3, (Builtin.append_ #[31, 31] 31 #[ev, .slice (some ⟨w.heap.size, 0, none⟩) 1 1]).run Tryz.prog (w.alloc (.cells #[.string s] 9)) = .ok (.slice (some ⟨g, 0, none⟩) (tx.length + 1) cap) w3 ∧ Blk w3 T #[ev] 31 ∧
      AdI N A T L (tx ++ [s]) ov (.slice (some ⟨g, 0, none⟩) (tx.length + 1) cap) (w3.setCell ⟨T, 0, none⟩ (.slice (some ⟨g, 0, none⟩) (tx.length + 1) cap)) ∧ ExQ (ChK A T ov ev) w (w3.setCell ⟨T, 0, none⟩ (.slice (some ⟨g, 0, none⟩) (tx.length + 1) cap)) ∧ (ev.ownBlock = some g ∨ w.heap.size ≤ g) := by
  obtain ⟨xs, hR⟩ := h.ra
  have holt := hR.own.lt
  have helt := h.rt.lt
  have hAl := h.ba.lt
  have hTl := h.bt.lt
  obtain ⟨g, cap, w3, hr, hS3, he, hat⟩ := app_strH (s := s) h.rt hN hl
  have hge : ov.ownBlock ≠ some g := fun e => by
    rcases hat with e2 | e2
    · exact h.ne g e e2
    · have := (holt g e).2; omega
  have hgA : g ≠ A := fun e => by
    rcases hat with e2 | e2
    · exact h.ea (by rw [e2, e])
    · omega
  have hgT : g ≠ T := fun e => by
    rcases hat with e2 | e2
    · exact h.et (by rw [e2, e])
    · omega
  have hT3 : Blk w3 T #[ev] 31 := h.bt.exq he fun e => h.et e.symm
  have he2 : ExQ (fun b => b = T) w3 (w3.setCell ⟨T, 0, none⟩ (.slice (some ⟨g, 0, none⟩) (tx.length + 1) cap)) := (ExQ.refl (fun b => b = T) _).set (B := T) rfl _ _
  have hx : ExQ (ChK A T ov ev) w (w3.setCell ⟨T, 0, none⟩ (.slice (some ⟨g, 0, none⟩) (tx.length + 1) cap)) := (he.mono fun b e _ => Or.inr (Or.inl e)).transN he2 fun b e _ => Or.inr (Or.inr (Or.inr e))
  refine ⟨g, cap, w3, hr, hT3, ⟨⟨xs, ?_⟩, ?_, ?_, ?_, fun b hb e => ?_, h.oa, h.ot, fun e => hgA (by simpa [Value.ownBlock] using e), fun e => hgT (by simpa [Value.ownBlock] using e), h.nAT, h.hA, h.hT⟩, hx, hat.imp id fun e => by omega⟩
  · refine (hR.exq he (fun b e1 e2 => h.ne b e1 e2.symm) fun b hb e => ?_).exq he2 (fun b e1 e2 => h.ot (by rw [e1, e2])) fun b hb e => ?_
    · have := (helt b e.symm).1; have : b < N := hb; omega
    · have := h.hT; have : b < N := hb; omega
  · exact ownsRow_at hS3 fun b hb => he2.block b (hS3.lt b hb).2 fun e => hgT (by have e3 : g = b := by simpa [Value.ownBlock] using hb
                                                                                  rw [e3, e])
  · exact (h.ba.exq he fun e => h.ea e.symm).exq he2 fun e => h.nAT e
  · have := hT3.set 0 (.slice (some ⟨g, 0, none⟩) (tx.length + 1) cap)
    simpa using this
  · have e3 : g = b := by simpa [Value.ownBlock] using e
    subst e3
    exact hge hb
theorem setCell_commK (w : World) {a b : Addr} (h : a.block ≠ b.block) (u v : Value) : (w.setCell a u).setCell b v = (w.setCell b v).setCell a u := by
  unfold World.setCell
  congr 1
  apply Array.ext
  · simp
  · intro i h1 h2
    simp only [Array.getElem_modify]
    by_cases e1 : a.block = i
    · by_cases e2 : b.block = i
      · exact absurd (e1.trans e2.symm) h
      · simp [e1, e2]
    · simp [e1]
/-- A term more: by a term of nothing, which is then stored into. -/
theorem AdI.pushZ {N A T : Nat} {L : List Tm} {tx : List ByteArray} {ov ev : Value} {w : World} (h : AdI N A T L tx ov ev w) (hN : N ≤ w.heap.size) (hl : L.length ≤ 100000) {y : Tm} {a1 : Option Addr} {c : Nat} (hy : Sl w (fun b => b < N) a1 y.args) :
    ∃ g cap w3, (Builtin.append_ #[23, 23] 23 #[ov, .slice (some ⟨w.heap.size, 0, none⟩) 1 1]).run Tryz.prog (w.alloc (.cells #[.string ⟨#[]⟩, .slice none 0 0] 25)) = .ok (.slice (some ⟨g, 0, none⟩) (L.length + 1) cap) w3 ∧ Blk w3 A #[ov] 23 ∧ g ≠ A ∧ (ov.ownBlock = some g ∨ w.heap.size ≤ g) ∧ g < w3.heap.size ∧ (∀ i, w3.frozen? ⟨g, i, none⟩ = false) ∧ w3.cell? ⟨g, L.length * 2, none⟩ = some (.string ⟨#[]⟩) ∧ w3.cell? ⟨g, L.length * 2 + 1, none⟩ = some (.slice none 0 0) ∧ ExQ (fun b => some b = ov.ownBlock) w w3 ∧
      AdI N A T (L ++ [y]) tx (.slice (some ⟨g, 0, none⟩) (L.length + 1) cap) ev (((w3.setCell ⟨A, 0, none⟩ (.slice (some ⟨g, 0, none⟩) (L.length + 1) cap)).setCell ⟨g, L.length * 2, none⟩ (.string y.name)).setCell ⟨g, L.length * 2 + 1, none⟩ (.slice a1 y.args.length c)) ∧
      ExQ (ChK A T ov ev) w (((w3.setCell ⟨A, 0, none⟩ (.slice (some ⟨g, 0, none⟩) (L.length + 1) cap)).setCell ⟨g, L.length * 2, none⟩ (.string y.name)).setCell ⟨g, L.length * 2 + 1, none⟩ (.slice a1 y.args.length c)) := by
  obtain ⟨xs, hR⟩ := h.ra
  have holt := hR.own.lt
  have helt := h.rt.lt
  have hAl := h.ba.lt
  have hTl := h.bt.lt
  have hlen0 := hR.own.1
  obtain ⟨g, cap, w3, hr, hR3, he, hat⟩ := app_termH (z := ⟨⟨#[]⟩, []⟩) (a1 := none) (c := 0) hR hN (fun b hb e => by have := (holt b e.symm).1; have : b < N := hb; omega) (by omega) ⟨by simp, Or.inl rfl⟩
  have hown := hR3.own
  rw [show (L ++ [(⟨⟨#[]⟩, []⟩ : Tm)]).length = L.length + 1 by simp] at hown
  have hg3 := (hown.lt g rfl)
  have hgN : N ≤ g := hg3.1
  have hge : ev.ownBlock ≠ some g := fun e => by
    rcases hat with e2 | e2
    · exact h.ne g e2 e
    · have := (helt g e).2; omega
  have hgA : g ≠ A := fun e => by
    rcases hat with e2 | e2
    · exact h.oa (by rw [e2, e])
    · omega
  have hgT : g ≠ T := fun e => by
    rcases hat with e2 | e2
    · exact h.ot (by rw [e2, e])
    · omega
  have hA3 : Blk w3 A #[ov] 23 := h.ba.exq he fun e => h.oa e.symm
  have k0 : w3.cell? ⟨g, L.length * 2, none⟩ = some (.string ⟨#[]⟩) := by rw [hown.cellAt (L.length * 2) (by omega), List.getElem?_append_right (by omega), hlen0, Nat.sub_self]; rfl
  have k1 : w3.cell? ⟨g, L.length * 2 + 1, none⟩ = some (.slice none 0 0) := by rw [hown.cellAt (L.length * 2 + 1) (by omega), List.getElem?_append_right (by omega), hlen0, show L.length * 2 + 1 - L.length * 2 = 1 by omega]; rfl
  have he2 : ExQ (fun b => b = A ∨ b = g) w3 (((w3.setCell ⟨A, 0, none⟩ (.slice (some ⟨g, 0, none⟩) (L.length + 1) cap)).setCell ⟨g, L.length * 2, none⟩ (.string y.name)).setCell ⟨g, L.length * 2 + 1, none⟩ (.slice a1 y.args.length c)) := (((ExQ.refl _ _).set (Or.inl rfl) _ _).set (Or.inr rfl) _ _).set (Or.inr rfl) _ _
  have hx : ExQ (ChK A T ov ev) w (((w3.setCell ⟨A, 0, none⟩ (.slice (some ⟨g, 0, none⟩) (L.length + 1) cap)).setCell ⟨g, L.length * 2, none⟩ (.string y.name)).setCell ⟨g, L.length * 2 + 1, none⟩ (.slice a1 y.args.length c)) := (he.mono fun b e _ => Or.inl e).transN he2 fun b e hb => by
    rcases e with e | e
    · exact Or.inr (Or.inr (Or.inl e))
    · rcases hat with e2 | e2
      · exact Or.inl (by rw [e2, e])
      · omega
  have hbN : Below N w (((w3.setCell ⟨A, 0, none⟩ (.slice (some ⟨g, 0, none⟩) (L.length + 1) cap)).setCell ⟨g, L.length * 2, none⟩ (.string y.name)).setCell ⟨g, L.length * 2 + 1, none⟩ (.slice a1 y.args.length c)) := hx.below hN fun b e => by
    rcases e with e | e | e | e
    · exact (holt b e.symm).1
    · exact (helt b e.symm).1
    · rw [e]; exact h.hA
    · rw [e]; exact h.hT
  have hlen : (L ++ [y]).length = L.length + 1 := by simp
  have hownF : (((w3.setCell ⟨A, 0, none⟩ (.slice (some ⟨g, 0, none⟩) (L.length + 1) cap)).setCell ⟨g, L.length * 2, none⟩ (.string y.name)).setCell ⟨g, L.length * 2 + 1, none⟩ (.slice a1 y.args.length c)).ownsRow N 25 2 (.slice (some ⟨g, 0, none⟩) (L.length + 1) cap) (L.length + 1) (xs ++ [.string y.name, .slice a1 y.args.length c]) := by
    have h0 : (w3.setCell ⟨A, 0, none⟩ (.slice (some ⟨g, 0, none⟩) (L.length + 1) cap)).ownsRow N 25 2 (.slice (some ⟨g, 0, none⟩) (L.length + 1) cap) (L.length + 1) (xs ++ [.string ⟨#[]⟩, .slice none 0 0]) := ownsRow_at hown fun b hb => Below.heap_setCell _ _ _ _ (fun e => by
      have e3 : g = b := by simpa [Value.ownBlock] using hb
      have e4 : b = A := by simpa using e
      exact hgA (by rw [e3, e4]))
    have h2 := ((h0.stored (L.length * 2) (.string y.name)).1.stored (L.length * 2 + 1) (.slice a1 y.args.length c)).1
    have e : ((xs ++ [Value.string ⟨#[]⟩, Value.slice none 0 0]).set (L.length * 2) (Value.string y.name)).set (L.length * 2 + 1) (.slice a1 y.args.length c) = xs ++ [.string y.name, .slice a1 y.args.length c] := by
      rw [List.set_append_right _ _ (by omega), List.set_append_right _ _ (by omega), hlen0, Nat.sub_self, show L.length * 2 + 1 - L.length * 2 = 1 by omega]; rfl
    rw [e] at h2
    exact h2
  refine ⟨g, cap, w3, hr, hA3, hgA, hat.imp id fun e => by omega, hg3.2, fun i => hown.frozenAt i, k0, k1, he, ⟨⟨_, ⟨by rw [hlen]; exact hownF, ?_⟩⟩, ?_, ?_, ?_, fun b hb e => ?_, fun e => hgA (by simpa [Value.ownBlock] using e), fun e => hgT (by simpa [Value.ownBlock] using e), h.ea, h.et, h.nAT, h.hA, h.hT⟩, hx⟩
  · exact RowT.append (hR.row.imp fun a l hs => hs.kept fun b hb => hbN.block b hb) ⟨a1, c, [], rfl, hy.kept fun b hb => hbN.block b hb, rfl⟩
  · exact ownsRow_at h.rt fun b hb => ((he.mono (R := fun b => some b = ov.ownBlock ∨ b = A ∨ b = g) fun b e _ => Or.inl e).transN he2 fun b e _ => Or.inr e).block b (helt b hb).2 fun e => by
      rcases e with e | e | e
      · exact h.ne b e.symm hb
      · exact h.ea (by rw [hb, e])
      · exact hge (by rw [hb, e])
  · have := ((hA3.set 0 (.slice (some ⟨g, 0, none⟩) (L.length + 1) cap)).setOther (L.length * 2) (.string y.name) (b' := g) hgA.symm).setOther (L.length * 2 + 1) (.slice a1 y.args.length c) (b' := g) hgA.symm
    simpa using this
  · exact (h.bt.exq he fun e => h.ot e.symm).exq he2 fun e => by
      rcases e with e | e
      · exact h.nAT e.symm
      · exact hgT e.symm
  · have e3 : g = b := by simpa [Value.ownBlock] using hb
    subst e3
    exact hge e
theorem AdI.start {w : World} {A T : Nat} (hA : w.heap.size ≤ A) (hT : w.heap.size ≤ T) (hne : A ≠ T) {w1 : World} (ba : Blk w1 A #[.slice none 0 0] 23) (bt : Blk w1 T #[.slice none 0 0] 31) : AdI w.heap.size A T [] [] (.slice none 0 0) (.slice none 0 0) w1 :=
  ⟨⟨[], World.ownsRow_nil _ _ _ _, rfl⟩, World.ownsRow_nil _ _ _ _, ba, bt, fun b hb => by simp [Value.ownBlock] at hb, by simp [Value.ownBlock], by simp [Value.ownBlock], by simp [Value.ownBlock], by simp [Value.ownBlock], hne, hA, hT⟩
end Go.Proofs.YtdmaijmglblccaaGreatDoor

/- Walks: one kind becomes another one's (ClosureOf's join). -/
namespace Go.Proofs.YtdmaijmglblccaaGreatDoor
open Go.RowKit
set_option linter.unusedSimpArgs false
set_option linter.unusedVariables false
set_option maxRecDepth 8000

/-- The kinds in memory. -/
structure KdA (B G n : Nat) (K : List Nat) (w : World) : Prop where
  bx : Blk w B #[.slice (some ⟨G, 0, none⟩) n n] 45
  rw_ : Blk w G (iL K).toArray 3
  len : K.length = n
  ne : B ≠ G
theorem KdA.later {B G n : Nat} {K : List Nat} {w w' : World} (h : KdA B G n K w) (hb : Below w.heap.size w w') : KdA B G n K w' := ⟨h.bx.below hb h.bx.lt, h.rw_.below hb h.rw_.lt, h.len, h.ne⟩
theorem iL_get {K : List Nat} {i : Nat} (h : i < K.length) : (iL K)[i]? = some (.int .i64 ((gd K 0 i : Nat) : Int)) := by
  unfold iL
  rw [List.getElem?_map, List.getElem?_eq_getElem h, gd_get h]
  rfl
theorem KdA.cell {B G n : Nat} {K : List Nat} {w : World} (h : KdA B G n K w) {i : Nat} (hi : i < n) : w.cell? ⟨G, i, none⟩ = some (.int .i64 ((gd K 0 i : Nat) : Int)) := by
  rw [h.rw_.cell i, List.getElem?_toArray, iL_get (by rw [h.len]; exact hi)]
theorem KdA.box {B G n : Nat} {K : List Nat} {w : World} (h : KdA B G n K w) : w.cell? ⟨B, 0, none⟩ = some (.slice (some ⟨G, 0, none⟩) n n) := h.bx.cell 0
theorem iL_set (K : List Nat) (i x : Nat) : iL (K.set i x) = (iL K).set i (.int .i64 (x : Int)) := by
  unfold iL
  rw [List.map_set]
theorem KdA.put {B G n : Nat} {K : List Nat} {w : World} (h : KdA B G n K w) (i x : Nat) : KdA B G n (K.set i x) (w.setCell ⟨G, i, none⟩ (.int .i64 (x : Int))) :=
  ⟨h.bx.setOther _ _ h.ne, by
    have := h.rw_.set i (.int .i64 (x : Int))
    rw [iL_set]
    simpa using this, by rw [List.length_set, h.len], h.ne⟩
/-- The first ones are changed. -/
def jnP (f : Nat → Nat) (K : List Nat) (i : Nat) : List Nat := (K.take i).map f ++ K.drop i
theorem jnP_at {f : Nat → Nat} {K : List Nat} {i : Nat} (h : i < K.length) : gd (jnP f K i) 0 i = gd K 0 i := by
  unfold jnP gd
  rw [List.getElem?_append_right (by simp; omega)]
  simp
  congr 2
  omega
theorem jnP_set {f : Nat → Nat} {K : List Nat} {i : Nat} (h : i < K.length) : (jnP f K i).set i (f (gd K 0 i)) = jnP f K (i + 1) := by
  unfold jnP
  rw [List.take_succ_eq_append_getElem h, List.map_append, List.map_singleton, List.append_assoc, List.singleton_append, List.set_append_right _ _ (by simp; omega)]
  have e : i - ((K.take i).map f).length = 0 := by simp; omega
  rw [e, List.drop_eq_getElem_cons h, List.set_cons_zero, gd_get h]
theorem jnP_skip {f : Nat → Nat} {K : List Nat} {i : Nat} (h : i < K.length) (hf : f (gd K 0 i) = gd K 0 i) : jnP f K (i + 1) = jnP f K i := by
  unfold jnP
  rw [List.take_succ_eq_append_getElem h, List.map_append, List.map_singleton, List.append_assoc, List.singleton_append]
  rw [gd_get h] at hf
  rw [hf, ← List.drop_eq_getElem_cons h]
theorem jnP_zero (f : Nat → Nat) (K : List Nat) : jnP f K 0 = K := by simp [jnP]
theorem jnP_end (f : Nat → Nat) (K : List Nat) : jnP f K K.length = K.map f := by simp [jnP]
def JkP (B G n : Nat) (K : List Nat) (a b : Nat) (w : World) (e : Ending) (w' : World) : Prop :=
  e = .returned (.bool (decide (gd K 0 a ≠ gd K 0 b))) ∧ KdA B G n (joK K a b) w' ∧ ExQ (fun q => q = G) w w'
set_option maxHeartbeats 4000000 in
theorem joinK_any {B G n : Nat} {K : List Nat} {w : World} (h : KdA B G n K w) {a b : Nat} (ha : a < n) (hb : b < n) (hn : n ≤ 1000000) :
    Calls Tryz.prog 44 #[.int .i64 (a : Int), .int .i64 (b : Int), .pointer (some ⟨B, 0, none⟩)] w (JkP B G n K a b w) := by
  have c0 := h.box
  have c1 := h.cell ha
  have c2 := h.cell hb
  have hai : (a : Int) < (n : Int) := by omega
  have hbi : (b : Int) < (n : Int) := by omega
  have HH := hide h
  have HL := hide h.len
  obtain ⟨x, hx⟩ : ∃ x, x = gd K 0 a := ⟨_, rfl⟩
  obtain ⟨y, hy⟩ : ∃ y, y = gd K 0 b := ⟨_, rfl⟩
  have HX := hide hx
  have HY := hide hy
  rw [← hx] at c1
  rw [← hy] at c2
  clear h hx hy
  go_enter Tryz.func44, Tryz.ntmps44
  by_cases hxy : x = y
  · have hxi : (x : Int) = (y : Int) := by omega
    have HQ : Hid (JkP B G n K a b w (.returned (.bool false)) w) := by
      have e : gd K 0 a = gd K 0 b := by rw [← HX.out, ← HY.out]; exact hxy
      refine ⟨by rw [e]; simp, ?_, ExQ.refl _ _⟩
      unfold joK
      rw [if_pos e]
      exact HH.out
    clear hxy
    go_wp2_with fail
    go_ret
    exact HQ.out
  · have hxi : ¬ (x : Int) = (y : Int) := by omega
    have HNE : Hid (¬ gd K 0 a = gd K 0 b) := by unfold Hid; rw [← HX.out, ← HY.out]; exact hxy
    have HF : Hid (joK K a b = K.map fun c => if c = x then y else c) := by
      unfold Hid joK
      rw [if_neg HNE.out, ← HX.out, ← HY.out]
    clear hxy
    obtain ⟨f, hf⟩ : ∃ f : Nat → Nat, f = fun c => if c = x then y else c := ⟨_, rfl⟩
    rw [← hf] at HF
    have HFF := hide hf
    clear hf
    go_wp2_with fail
    clear c0 c1 c2
    go_loopw [8] (fun o wr => ∃ i : Nat, o = .int .i64 (i : Int) ∧ i ≤ n ∧ KdA B G n (jnP f K i) wr ∧ ExQ (fun q => q = G) w wr) (fun o wr => n - (intOf o).toNat)
    case atStart => exact ⟨0, rfl, Nat.zero_le _, by rw [jnP_zero]; exact HH.out, ExQ.refl _ _⟩
    case round =>
      obtain ⟨i, rfl, hi, hk, hex⟩ := hrel
      have HK := hide hk
      have HEX := hide hex
      have c0 := hk.box
      clear hk hex
      by_cases hlt : i < n
      · have hii : (i : Int) < (n : Int) := by omega
        have c1 := HK.out.cell hlt
        have hil : i < K.length := by rw [HL.out]; exact hlt
        rw [jnP_at hil] at c1
        have HSE := hide (jnP_set (f := f) hil)
        have HSK := hide (jnP_skip (f := f) hil)
        clear hil
        obtain ⟨z, hz⟩ : ∃ z, z = gd K 0 i := ⟨_, rfl⟩
        rw [← hz] at c1 HSE HSK
        clear hz
        by_cases hzx : z = x
        · have hzi : (z : Int) = (x : Int) := by omega
          have HFZ : Hid (f z = y) := by unfold Hid; rw [HFF.out]; exact if_pos hzx
          rw [HFZ.out] at HSE
          have HKN : Hid (KdA B G n (jnP f K (i + 1)) (wr.setCell ⟨G, i, none⟩ (.int .i64 (y : Int)))) := by unfold Hid; rw [← HSE.out]; exact HK.out.put i y
          have HEN : Hid (ExQ (fun q => q = G) w (wr.setCell ⟨G, i, none⟩ (.int .i64 (y : Int)))) := HEX.out.set rfl _ _
          have tf := HK.out.rw_.frozen i
          have tl := HK.out.rw_.lt
          clear hzx
          go_wp2_with fail
          go_roundw
          case rel => exact ⟨i + 1, by go_num, by omega, HKN.out, HEN.out⟩
          case measure => simp [intOf]; omega
        · have hzi : ¬ (z : Int) = (x : Int) := by omega
          have HFZ : Hid (f z = z) := by unfold Hid; rw [HFF.out]; exact if_neg hzx
          have HKN : Hid (KdA B G n (jnP f K (i + 1)) wr) := by unfold Hid; rw [HSK.out HFZ.out]; exact HK.out
          clear hzx
          go_wp2_with fail
          go_roundw
          case rel => exact ⟨i + 1, by go_num, by omega, HKN.out, HEX.out⟩
          case measure => simp [intOf]; omega
      · have hii : ¬ (i : Int) < (n : Int) := by omega
        have HKE : Hid (KdA B G n (joK K a b) wr) := by
          have h1 := HK.out
          rw [show i = K.length by rw [HL.out]; omega, jnP_end] at h1
          unfold Hid
          rw [HF.out]
          exact h1
        go_wp2_with fail
        go_ret
        exact ⟨by rw [decide_eq_true HNE.out]; rfl, HKE.out, HEX.out⟩
end Go.Proofs.YtdmaijmglblccaaGreatDoor

/- Walks: the text of a term, as the document says. -/
namespace Go.Proofs.YtdmaijmglblccaaGreatDoor
open Go.RowKit
set_option linter.unusedSimpArgs false
set_option linter.unusedVariables false

theorem ret_str {a b : ByteArray} (h : a.data.toList = b.data.toList) : Ending.returned (.string a) = .returned (.string b) := by
  have : a = b := by cases a; cases b; simp at h; simp [h]
  rw [this]

set_option maxHeartbeats 1000000 in
theorem show_any (t : Tm) : ∀ (v : Value) (w : World) (X : Nat → Prop), TV w X v t → (txtL [t]).length ≤ 1000000 →
    Calls Tryz.prog 23 #[v] w fun e w' => e = .returned (.string ⟨(txtL [t]).toArray⟩) ∧ Below w.heap.size w w' := by
  induction t using Tm.ind with
  | h s l ih =>
    intro v w X hv hsm
    obtain ⟨a, c, rfl, hs⟩ := hv
    have IH := hide ih
    clear ih
    have hl := hs.1
    go_enter Tryz.func23, Tryz.ntmps23
    go_wp2_with fail
    go_loopw [3, 4] (fun q i wr => ∃ (k : Nat) (acc : ByteArray), k ≤ l.length ∧ i = .int .i64 k ∧ q = .string acc ∧ acc.data.toList = txtTo s l k ∧ Below (w.heap.size + 1) (w.alloc (Obj.cells #[Value.string s, Value.slice a l.length c] 25)) wr) (fun q i wr => l.length - (intOf i).toNat)
    case atStart => exact ⟨0, s, Nat.zero_le _, rfl, rfl, by simp [txtTo], Below.refl _ _⟩
    case round =>
      obtain ⟨k, acc, hk, rfl, rfl, hacc, hb⟩ := hrel
      have HACC := hide hacc
      have hasz : acc.size ≤ 1000000 := by
        have h1 := txtTo_len s l k hk
        rw [← hacc] at h1
        have h2 : acc.data.toList.length = acc.size := by rw [Array.length_toList]; rfl
        omega
      clear hacc
      have hc := bcell hb
      have c1 : wr.cell? ⟨w.heap.size, 1, none⟩ = some (.slice a l.length c) := by rw [hc.1 _ _ (by omega)]; simp
      clear hc
      have hsz : w.heap.size + 1 ≤ wr.heap.size := by have := hb.size; simpa using this
      by_cases hlt : k < l.length
      · obtain ⟨b, o, a', c', rfl, d0, d1, hx⟩ := hs.get (below_box hb) (fun _ _ h => h) k hlt
        have hlen := txtTo_len s l (k + 1) (by omega)
        by_cases hk0 : k = 0
        · subst hk0
          simp only [Nat.zero_mul, Nat.add_zero] at d0 d1
          have HT := hide (txtTo_zero s l hlt)
          have hln : (txtL [l[0]]).length ≤ 1000000 := by rw [HT.out] at hlen; simp at hlen; omega
          clear hlen
          go_wp2_with fail
          refine (IH.out _ (List.getElem_mem hlt) _ _ X hx hln).mono ?_
          rintro e w1 ⟨rfl, hb1⟩
          go_wp2_with fail
          go_roundw
          case rel => exact ⟨0 + 1, _, by omega, by go_num, rfl, by rw [HT.out, ← HACC.out]; simp, hb.trans (hb1.mono hsz)⟩
          case measure => simp [intOf]; omega
        · have hk0' : ((k : Int) == 0) = false := by simp; omega
          have HT := hide (txtTo_succ s l k (by omega) hlt)
          have hln : (txtL [l[k]]).length ≤ 1000000 := by rw [HT.out] at hlen; simp at hlen; omega
          clear hlen
          go_wp2_with fail
          refine (IH.out _ (List.getElem_mem hlt) _ _ X hx hln).mono ?_
          rintro e w1 ⟨rfl, hb1⟩
          go_wp2_with fail
          go_roundw
          case rel => exact ⟨k + 1, _, by omega, by go_num, rfl, by rw [HT.out, ← HACC.out]; simp, hb.trans (hb1.mono hsz)⟩
          case measure => simp [intOf]; omega
      · have hke : k = l.length := by omega
        by_cases hn : l = []
        · subst hn
          have HE : Hid (acc.data.toList = txtL [(⟨s, []⟩ : Tm)]) := by unfold Hid; rw [HACC.out, txt_nil]; simp at hke; subst hke; simp [txtTo]
          go_wp2_with fail
          go_ret
          exact ⟨ret_str (by rw [HE.out]), below_box hb⟩
        · have hlp : 0 < l.length := List.length_pos_iff.2 hn
          have HE : Hid (acc.data.toList ++ [41] = txtL [(⟨s, l⟩ : Tm)]) := by unfold Hid; rw [HACC.out, txtTo_end s l hn, hke]
          clear hn hke
          go_wp2_with fail
          go_ret
          exact ⟨ret_str (by rw [← HE.out]; simp), below_box hb⟩
end Go.Proofs.YtdmaijmglblccaaGreatDoor

/- Which term is above another one, by paths and by weights: plain. -/
namespace Go.Proofs.YtdmaijmglblccaaGreatDoor
open Go.RowKit
set_option linter.unusedSimpArgs false
set_option linter.unusedVariables false

end Go.Proofs.YtdmaijmglblccaaGreatDoor

/- Which term is above another one by weights: plain. -/
namespace Go.Proofs.YtdmaijmglblccaaGreatDoor
open Go.RowKit
set_option linter.unusedSimpArgs false
set_option linter.unusedVariables false

end Go.Proofs.YtdmaijmglblccaaGreatDoor

/- Where those below a knot stand among all knots: plain. -/
namespace Go.Proofs.YtdmaijmglblccaaGreatDoor
open Go.RowKit
set_option linter.unusedSimpArgs false
set_option linter.unusedVariables false

end Go.Proofs.YtdmaijmglblccaaGreatDoor

/- Terms that are told by numbers: plain. -/
namespace Go.Proofs.YtdmaijmglblccaaGreatDoor
open Go.RowKit
set_option linter.unusedSimpArgs false
set_option linter.unusedVariables false

theorem eqL_all : ∀ l k : List Tm, l.length = k.length → eqL l k = true → l = k := by
  intro l
  induction l using Tm.indL with
  | h0 => intro k h _; cases k with
    | nil => rfl
    | cons _ _ => simp at h
  | h s a r iha ihr =>
    intro k h he
    cases k with
    | nil => simp at h
    | cons u q =>
      obtain ⟨s', b⟩ := u
      rw [eqL_cons] at he
      simp only [Bool.and_eq_true] at he
      obtain ⟨h1, h2⟩ := he
      unfold sameB at h1
      simp only [Bool.and_eq_true, beq_iff_eq] at h1
      obtain ⟨h3, h4, h5⟩ := h1
      rw [ihr q (by simpa using h) h2, iha b h4 h5, bytes_inj h3]
theorem eqL_self : ∀ l : List Tm, eqL l l = true := by
  intro l
  induction l using Tm.indL with
  | h0 => simp [eqL]
  | h s a r iha ihr =>
    rw [eqL_cons, ihr]
    simp [sameB, iha]
theorem sameB_iff {a b : Tm} : sameB a b = true ↔ a = b := by
  constructor
  · intro h
    obtain ⟨s, l⟩ := a
    obtain ⟨s', k⟩ := b
    unfold sameB at h
    simp only [Bool.and_eq_true, beq_iff_eq] at h
    rw [bytes_inj h.1, eqL_all l k h.2.1 h.2.2]
  · rintro rfl
    unfold sameB
    simp [eqL_self]
end Go.Proofs.YtdmaijmglblccaaGreatDoor

/- The classes part all terms: a plain text. -/
namespace Go.Proofs.YtdmaijmglblccaaGreatDoor
open Go.RowKit
set_option linter.unusedSimpArgs false
set_option linter.unusedVariables false
set_option maxRecDepth 8000

theorem ClsR.ne {E : List Pr} {S : Tm → Prop} {rows : List (List ByteArray)} (h : ClsR E S rows) : ∀ r ∈ rows, r ≠ [] := fun r hr e => by
  obtain ⟨_, t, ht, hm⟩ := h.row r hr
  have h1 : txB t ∈ r := (hm _).2 ⟨t, ht, .refl _, rfl⟩
  rw [e] at h1
  cases h1
/-- Of one row just if the same. -/
theorem ClsR.same {E : List Pr} {S : Tm → Prop} {rows : List (List ByteArray)} (he : ∀ t, S t → errL [t] = 0) (h : ClsR E S rows) {i k : Nat} (hi : i < rows.length) (hk : k < rows.length) {a b : Tm} (sa : S a) (sb : S b) (ha : txB a ∈ rows[i]) (hb : txB b ∈ rows[k]) : Cg E S a b ↔ i = k := by
  obtain ⟨g1, t, ht, m1⟩ := h.row _ (List.getElem_mem hi)
  obtain ⟨g2, u, hu, m2⟩ := h.row _ (List.getElem_mem hk)
  obtain ⟨a', sa', ca, ea⟩ := (m1 _).1 ha
  obtain ⟨b', sb', cb, eb⟩ := (m2 _).1 hb
  have ea := txB_inj (he _ sa) (he _ sa') ea
  have eb := txB_inj (he _ sb) (he _ sb') eb
  subst ea
  subst eb
  constructor
  · intro hc
    have htu : Cg E S t u := (ca.trans hc).trans cb.sym
    have e : rows[i] = rows[k] := asc_uniq g1 g2 fun s => by
      rw [m1, m2]
      constructor
      · rintro ⟨v, hv, cv, e⟩; exact ⟨v, hv, htu.sym.trans cv, e⟩
      · rintro ⟨v, hv, cv, e⟩; exact ⟨v, hv, htu.trans cv, e⟩
    rcases Nat.lt_trichotomy i k with g | g | g
    · have := List.pairwise_iff_getElem.1 h.asc i k hi hk g
      rw [e] at this
      exact absurd this (lxR_irrefl _)
    · exact g
    · have := List.pairwise_iff_getElem.1 h.asc k i hk hi g
      rw [e] at this
      exact absurd this (lxR_irrefl _)
  · rintro rfl
    have hb2 := (m1 _).1 hb
    obtain ⟨b2, sb2, cb2, e2⟩ := hb2
    have e2 := txB_inj (he _ sb) (he _ sb2) e2
    subst e2
    exact ca.sym.trans cb2
end Go.Proofs.YtdmaijmglblccaaGreatDoor

/- Walks: the document's GroundMay. -/
namespace Go.Proofs.YtdmaijmglblccaaGreatDoor
open Go.RowKit
set_option linter.unusedSimpArgs false
set_option linter.unusedVariables false
set_option maxRecDepth 8000

theorem mayE_size {t : Tm} (ht : mayE t = 0) : sizeL [t] ≤ 200 := by
  unfold mayE at ht
  split at ht
  · cases ht
  · omega
set_option maxHeartbeats 4000000 in
theorem groundMay_any (ls : List Pr) (u : Value) (w : World) (X : Nat → Prop) (hu : QV w X u ls) :
    Calls Tryz.prog 8 #[u] w fun e w' => e = .returned (.int .i64 (grdE ls)) ∧ Below w.heap.size w w' := by
  obtain ⟨ua, uc, rfl, hul, huu⟩ := id hu
  have HUX := hide hu
  clear hu huu
  go_enter Tryz.func8, Tryz.ntmps8
  go_wp2_with fail
  refine (pairsMay_any ls _ w X HUX.out).mono ?_
  rintro e w1 ⟨rfl, hb1⟩
  have HB1 := hide hb1
  clear hb1
  by_cases hp : pairsE ls = 0
  · have HE : Hid (grdE ls = if ls.any opP = true then 15 else 0) := by unfold Hid grdE; rw [if_pos hp]
    have HALL := hide (pairsE_all hp)
    rw [hp]
    clear hp
    go_wp2_with fail
    go_loopw [4] (fun i wr => ∃ k : Nat, k ≤ ls.length ∧ i = .int .i64 (k : Int) ∧ (ls.take k).any opP = false ∧ Below w.heap.size w wr) (fun i wr => ls.length - (intOf i).toNat)
    case atStart => exact ⟨0, Nat.zero_le _, rfl, by simp, HB1.out⟩
    case round =>
      obtain ⟨k, hk, rfl, hno, hbr⟩ := hrel
      have HNO := hide hno
      have HBR := hide hbr
      by_cases hlt : k < ls.length
      · have hki : (k : Int) < (ls.length : Int) := by omega
        obtain ⟨b, o, a1, c1, a2, c2, hva, d0, d1, d2, d3, s1, s2⟩ := (HUX.out.later hbr).get k hlt
        subst hva
        have HS1 := hide s1
        have HS2 := hide s2
        have HAT : Hid (opP ls[k] = true → grdE ls = 15) := fun h => by rw [HE.out, if_pos (anyP_at hlt h)]
        have HAN : Hid (opP ls[k] = false → (ls.take (k + 1)).any opP = false) := fun h => anyPK_take hlt HNO.out h
        have hz := HALL.out _ (List.getElem_mem hlt)
        have HZ1 := hide (mayE_size hz.1)
        have HZ2 := hide (mayE_size hz.2)
        clear s1 s2 hno hbr hz
        generalize ls[k] = d at *
        go_wp2_with fail
        have VL : Hid (∀ w', Below wr.heap.size wr w' → Calls Tryz.prog 10 #[.agg #[.string d.l.name, .slice a1 d.l.args.length c1]] w' fun e w'' => (∃ va vc, e = .returned (.slice va (varsP [] (preL [d.l])).length vc)) ∧ Below wr.heap.size wr w'' ∧ (w''.cell? ⟨b, o + k * 4, none⟩ = some (.string d.l.name) ∧ w''.cell? ⟨b, o + k * 4 + 1, none⟩ = some (.slice a1 d.l.args.length c1) ∧ w''.cell? ⟨b, o + k * 4 + 2, none⟩ = some (.string d.r.name) ∧ w''.cell? ⟨b, o + k * 4 + 3, none⟩ = some (.slice a2 d.r.args.length c2))) := fun w' hb => by
          refine (varsOf_any d.l _ w' _ ⟨_, _, rfl, HS1.out.later hb⟩ (by have := HZ1.out; omega)).mono ?_
          rintro e w'' ⟨v', rfl, hl, hb2⟩
          obtain ⟨va, vc, rfl, _⟩ := hl
          have hb3 := hb.trans (hb2.mono hb.size)
          exact ⟨⟨va, vc, rfl⟩, hb3, cell_later hb3 d0, cell_later hb3 d1, cell_later hb3 d2, cell_later hb3 d3⟩
        have VR : Hid (∀ w', Below wr.heap.size wr w' → Calls Tryz.prog 10 #[.agg #[.string d.r.name, .slice a2 d.r.args.length c2]] w' fun e w'' => (∃ va vc, e = .returned (.slice va (varsP [] (preL [d.r])).length vc)) ∧ Below wr.heap.size wr w'' ∧ (w''.cell? ⟨b, o + k * 4, none⟩ = some (.string d.l.name) ∧ w''.cell? ⟨b, o + k * 4 + 1, none⟩ = some (.slice a1 d.l.args.length c1) ∧ w''.cell? ⟨b, o + k * 4 + 2, none⟩ = some (.string d.r.name) ∧ w''.cell? ⟨b, o + k * 4 + 3, none⟩ = some (.slice a2 d.r.args.length c2))) := fun w' hb => by
          refine (varsOf_any d.r _ w' _ ⟨_, _, rfl, HS2.out.later hb⟩ (by have := HZ2.out; omega)).mono ?_
          rintro e w'' ⟨v', rfl, hl, hb2⟩
          obtain ⟨va, vc, rfl, _⟩ := hl
          have hb3 := hb.trans (hb2.mono hb.size)
          exact ⟨⟨va, vc, rfl⟩, hb3, cell_later hb3 d0, cell_later hb3 d1, cell_later hb3 d2, cell_later hb3 d3⟩
        refine (VL.out wr (Below.refl _ _)).mono ?_
        rintro e w5 ⟨⟨va5, vc5, rfl⟩, hb5, e0, e1, e2, e3⟩
        have HB5 := hide hb5
        have HW5 := hide (HBR.out.trans (hb5.mono HBR.out.size))
        clear hb5 d0 d1 d2 d3 VL
        by_cases ho : opnB d.l = true
        · have HA := hide (HAT.out (by unfold opP; rw [ho]; rfl))
          have hpos := (opn_vars d.l).2 ho
          generalize (varsP [] (preL [d.l])).length = nl at *
          have hdec : (0 : Int) < (nl : Int) := by omega
          clear ho
          go_wp2_with fail
          go_ret
          exact ⟨by rw [HA.out]; rfl, HW5.out⟩
        · have ho' : opnB d.l = false := by simpa using ho
          have hzero : ¬ 0 < (varsP [] (preL [d.l])).length := fun h => ho ((opn_vars d.l).1 h)
          generalize (varsP [] (preL [d.l])).length = nl at *
          have hdec : ¬ (0 : Int) < (nl : Int) := by omega
          have hnl : nl = 0 := by omega
          subst hnl
          clear ho hzero
          have HO := hide ho'
          clear ho'
          go_wp2_with fail
          refine (VR.out w5 HB5.out).mono ?_
          rintro e w6 ⟨⟨va6, vc6, rfl⟩, hb6, -, -, -, -⟩
          have HW6 := hide (HBR.out.trans (hb6.mono HBR.out.size))
          clear hb6 VR e0 e1 e2 e3
          by_cases ho2 : opnB d.r = true
          · have HA := hide (HAT.out (by unfold opP; rw [HO.out, ho2]; rfl))
            have hpos := (opn_vars d.r).2 ho2
            generalize (varsP [] (preL [d.r])).length = nr at *
            have hdec2 : (0 : Int) < (nr : Int) := by omega
            clear ho2
            go_wp2_with fail
            go_ret
            exact ⟨by rw [HA.out]; rfl, HW6.out⟩
          · have ho2' : opnB d.r = false := by simpa using ho2
            have hzero : ¬ 0 < (varsP [] (preL [d.r])).length := fun h => ho2 ((opn_vars d.r).1 h)
            have HA := hide (HAN.out (by unfold opP; rw [HO.out, ho2']; rfl))
            generalize (varsP [] (preL [d.r])).length = nr at *
            have hnr : nr = 0 := by omega
            subst hnr
            clear ho2 ho2' hzero
            go_wp2_with fail
            go_roundw
            case rel => exact ⟨k + 1, by omega, by go_num, HA.out, HW6.out⟩
            case measure => simp [intOf]; omega
      · have hki : ¬ (k : Int) < (ls.length : Int) := by omega
        have HA : Hid (grdE ls = 0) := by
          have h := HNO.out
          rw [List.take_of_length_le (by omega)] at h
          unfold Hid
          rw [HE.out, if_neg (by rw [h]; simp)]
        clear hno hbr
        go_wp2_with fail
        go_ret
        exact ⟨by rw [HA.out]; rfl, HBR.out⟩
  · have HE : Hid (grdE ls = pairsE ls) := by unfold Hid grdE; rw [if_neg hp]
    have hne : (pairsE ls != 0) = true := by simp [hp]
    generalize pairsE ls = er at *
    clear hp
    go_wp2_with fail
    go_ret
    exact ⟨by rw [HE.out]; rfl, HB1.out⟩
end Go.Proofs.YtdmaijmglblccaaGreatDoor

/- Walks: numbers out of raw numbers. -/
namespace Go.Proofs.YtdmaijmglblccaaGreatDoor
open Go.RowKit
set_option linter.unusedSimpArgs false
set_option linter.unusedVariables false
set_option maxRecDepth 8000

theorem mod_nat {x : Int} (hx : 0 ≤ x) {n : Nat} (hn : 0 < n) : ∃ k : Nat, x % (n : Int) = k ∧ k < n := by
  have h1 := Int.emod_nonneg x (b := (n : Int)) (by omega)
  have h2 := Int.emod_lt_of_pos x (b := (n : Int)) (by omega)
  exact ⟨(x % (n : Int)).toNat, by omega, by omega⟩

theorem pick_any (c : Int) (n : Nat) (hn : 0 < n) (hn2 : n ≤ 2000000) (hc : -9223372036854775808 ≤ c ∧ c ≤ 9223372036854775807) (w : World) :
    Calls Tryz.prog 19 #[.int .i64 c, .int .i64 (n : Int)] w fun e w' => ∃ k : Nat, e = .returned (.int .i64 (k : Int)) ∧ k < n ∧ w' = w := by
  go_enter Tryz.func19, Tryz.ntmps19
  by_cases h : c < 0
  · go_wp2_with fail
    go_ret
    obtain ⟨k, hk, hkn⟩ := mod_nat (x := -(c + 1)) (by omega) hn
    refine ⟨k, ?_, hkn, rfl⟩
    have h1 : -(c + 1).tmod (n : Int) = k := by rw [← Int.neg_tmod, Int.tmod_eq_emod_of_nonneg (by omega)]; exact hk
    simp [h1]
  · go_wp2_with fail
    go_ret
    obtain ⟨k, hk, hkn⟩ := mod_nat (x := c) (by omega) hn
    exact ⟨k, by simp [hk], hkn, rfl⟩

def pickN (c : Int) (n : Nat) : Nat := if c < 0 then (-(c + 1) % (n : Int)).toNat else (c % (n : Int)).toNat
theorem pickN_lt (c : Int) (n : Nat) (hn : 0 < n) : pickN c n < n := by
  unfold pickN
  split
  · obtain ⟨k, hk, hkn⟩ := mod_nat (x := -(c + 1)) (by omega) hn
    rw [hk]; simpa using hkn
  · obtain ⟨k, hk, hkn⟩ := mod_nat (x := c) (by omega) hn
    rw [hk]; simpa using hkn

theorem pick_eq (c : Int) (n : Nat) (hn : 0 < n) (hn2 : n ≤ 2000000) (hc : -9223372036854775808 ≤ c ∧ c ≤ 9223372036854775807) (w : World) :
    Calls Tryz.prog 19 #[.int .i64 c, .int .i64 (n : Int)] w fun e w' => e = .returned (.int .i64 (pickN c n : Int)) ∧ w' = w := by
  go_enter Tryz.func19, Tryz.ntmps19
  by_cases h : c < 0
  · have HK : Hid (((pickN c n : Nat) : Int) = -(c + 1).tmod (n : Int)) := by
      obtain ⟨k, hk, hkn⟩ := mod_nat (x := -(c + 1)) (by omega) hn
      have h1 : -(c + 1).tmod (n : Int) = k := by rw [← Int.neg_tmod, Int.tmod_eq_emod_of_nonneg (by omega)]; exact hk
      unfold Hid pickN
      rw [h1, if_pos h, hk]; simp
    go_wp2_with fail
    go_ret
    exact ⟨by simp [HK.out], rfl⟩
  · have HK : Hid (((pickN c n : Nat) : Int) = c % (n : Int)) := by
      obtain ⟨k, hk, hkn⟩ := mod_nat (x := c) (by omega) hn
      unfold Hid pickN
      rw [if_neg h, hk]; simp
    go_wp2_with fail
    go_ret
    exact ⟨by simp [HK.out], rfl⟩

theorem wrapI (x : Int) (h : -9223372036854775808 ≤ x ∧ x ≤ 9223372036854775807) : IntKind.i64.wrap x = x := by
  rw [IntKind.wrap_i64]; omega

def Rng (z : Int) : Prop := -9223372036854775808 ≤ z ∧ z ≤ 9223372036854775807

set_option maxHeartbeats 1000000 in
theorem raw_any (zs : List Int) (u : Value) (w : World) (X : Nat → Prop) (hu : PV w X u zs) (hr : ∀ z ∈ zs, Rng z) (i : Nat) (hi : i ≤ 1000000) (hzl : zs.length ≤ 1000000) :
    Calls Tryz.prog 35 #[u, .int .i64 (i : Int)] w fun e w' => ∃ k : Nat, e = .returned (.int .i64 (k : Int)) ∧ k ≤ 100000000000 ∧ Below w.heap.size w w' := by
  obtain ⟨a, c, rfl, hl, h⟩ := hu
  by_cases h0 : zs.length = 0
  · go_enter Tryz.func35, Tryz.ntmps35
    go_wp2_with fail
    go_ret
    exact ⟨i * 31, by simp, by omega, Below.refl _ _⟩
  · rcases h with h | ⟨b, o, rfl, hX, hc⟩
    · subst h; simp at h0
    · have hpos : 0 < zs.length := by omega
      obtain ⟨m, hm, hlt⟩ := mod_nat (x := (i : Int)) (by omega) hpos
      obtain ⟨d, hd, hdl⟩ : ∃ d : Nat, (i : Int) / (zs.length : Int) = d ∧ d ≤ i := ⟨i / zs.length, by simp, Nat.div_le_self _ _⟩
      have hm2 : (i : Int).tmod (zs.length : Int) = m := by rw [Int.tmod_eq_emod_of_nonneg (by omega)]; exact hm
      have hd2 : (i : Int).tdiv (zs.length : Int) = d := by rw [Int.tdiv_eq_ediv_of_nonneg (by omega)]; exact hd
      have hcc := hc m hlt
      have hrg := hr _ (List.getElem_mem hlt)
      generalize zs[m] = z at *
      have hm0 : (0 : Int) ≤ (m : Int) := by omega
      have hm1 : (m : Int) < (zs.length : Int) := by omega
      clear hc hr
      go_enter Tryz.func35, Tryz.ntmps35
      go_wp2_with fail
      go_region_held3 (fun w' => w'.cell? ⟨b, o + m, none⟩ = some (.int .i64 z)) (first | exact hcc | go_keep)
        ((go_at_call 19; refine (pick_any z 1000003 (by decide) (by decide) hrg _).mono ?_; rintro e w1 ⟨k, rfl, hk, rfl⟩))
      go_wp2_with fail
      go_ret
      refine ⟨k + d * 7919, by simp [wrapI (d : Int) (by omega), wrapI ((d : Int) * 7919) (by omega), wrapI ((k : Int) + (d : Int) * 7919) (by omega)], by omega, ?_⟩
      exact (Below.refl _ _).drew
end Go.Proofs.YtdmaijmglblccaaGreatDoor


/- Walks: terms out of raw numbers. -/
namespace Go.Proofs.YtdmaijmglblccaaGreatDoor
open Go.RowKit
set_option linter.unusedSimpArgs false
set_option linter.unusedVariables false
set_option maxRecDepth 8000

theorem leaf_any (s : ByteArray) (w : World) :
    Calls Tryz.prog 36 #[.string s] w fun e w' => e = .returned (.agg #[.string s, .slice none 0 0]) ∧ Below w.heap.size w w' := by
  go_enter Tryz.func36, Tryz.ntmps36
  go_wp2_with fail
  have hb := Blk.new w #[.string s, .slice none 0 0] 25
  have c0 := hb.cell 0
  have c1 := hb.cell 1
  refine bodyPost_ret (v := .agg #[.string s, .slice none 0 0]) (by simp [results, Tryz.results36, go_sem, c0, c1]) rfl ⟨rfl, (Below.refl _ _).alloc (Nat.le_refl _) _⟩

/-- How many knots at the most. -/
def top (m : Nat) : Nat := if m < 3 then 1 else 2 * m - 1

theorem top_pos (m : Nat) : 1 ≤ top m := by unfold top; split <;> omega

theorem top_step {m : Nat} (h : 3 ≤ m + 1) : top m + 1 ≤ top (m + 1) := by unfold top; split <;> split <;> omega

theorem top_half {m h : Nat} (hm : 3 ≤ m + 1) (hh : h = (m + 1) / 2) : 2 * top h + 1 ≤ top (m + 1) := by unfold top; split <;> split <;> omega

theorem err_leaf {s : ByteArray} (h : nameB s = true) : errL [(⟨s, []⟩ : Tm)] = 0 := by simp [errL, h]
theorem err_node {s : ByteArray} {l : List Tm} (h : nameB s = true) (hv : varB s = false) (hl : errL l = 0) : errL [(⟨s, l⟩ : Tm)] = 0 := by simp [errL, h, hv, hl]

theorem preL_cons2 (t : Tm) (r : List Tm) : preL (t :: r) = preL [t] ++ preL r := by
  obtain ⟨s, l⟩ := t
  simp [preL]
theorem sl_one {w : World} {X Z : Nat → Prop} {B : Nat} {t : Tm} {a : Option Addr} {c T : Nat} (hb : w.heap[B]? = some (.cells #[.string t.name, .slice a t.args.length c] T (0, 0))) (hB : X B) (hs : Sl w Z a t.args) (hZ : ∀ b, Z b → b < w.heap.size → X b) : Sl w X (some ⟨B, 0, none⟩) [t] := by
  refine ⟨by simp, Or.inr ⟨B, 0, rfl, lies_mk _ _ _ fun i hi => ?_⟩⟩
  simp at hi
  subst hi
  exact ⟨hB, by simp [World.cell?, hb], a, c, by simp [World.cell?, hb], hs.mono hZ⟩

section
variable {P : Program} {ops : Array Oper} {Q : Exit → Act → World → Prop} {md : Region.Mode}
end

def TwoS (w5 w6 : World) (t5 t6 : Tm) (a5 a6 : Option Addr) (c5 c6 : Nat) (w' : World) : Prop :=
  Blk w' w5.heap.size #[.string t5.name, .slice a5 t5.args.length c5] 25 ∧ Blk w' w6.heap.size #[.string t6.name, .slice a6 t6.args.length c6] 25
def TwoF (w5 w6 : World) (t5 t6 : Tm) (a5 a6 : Option Addr) (c5 c6 : Nat) (b : Nat) (w' : World) : Prop :=
  TwoS w5 w6 t5 t6 a5 a6 c5 c6 w' ∧ Blk w' b #[.string ⟨#[102]⟩, .string ⟨#[103]⟩] 9
theorem TwoS.alloc {w5 w6 : World} {t5 t6 : Tm} {a5 a6 : Option Addr} {c5 c6 : Nat} {w' : World} (h : TwoS w5 w6 t5 t6 a5 a6 c5 c6 w') (o : Obj) : TwoS w5 w6 t5 t6 a5 a6 c5 c6 (w'.alloc o) := ⟨h.1.alloc o, h.2.alloc o⟩
theorem TwoF.alloc {w5 w6 : World} {t5 t6 : Tm} {a5 a6 : Option Addr} {c5 c6 b : Nat} {w' : World} (h : TwoF w5 w6 t5 t6 a5 a6 c5 c6 b w') (o : Obj) : TwoF w5 w6 t5 t6 a5 a6 c5 c6 b (w'.alloc o) := ⟨h.1.alloc o, h.2.alloc o⟩

theorem sl_two {w : World} {X Z5 Z6 : Nat → Prop} {B : Nat} {t5 t6 : Tm} {a5 a6 : Option Addr} {c5 c6 T : Nat} (hb : Blk w B #[.string t5.name, .slice a5 t5.args.length c5, .string t6.name, .slice a6 t6.args.length c6] T) (hB : X B) (h5 : Sl w Z5 a5 t5.args) (h6 : Sl w Z6 a6 t6.args) (hZ5 : ∀ b, Z5 b → b < w.heap.size → X b) (hZ6 : ∀ b, Z6 b → b < w.heap.size → X b) : Sl w X (some ⟨B, 0, none⟩) [t5, t6] := by
  refine ⟨by simp, Or.inr ⟨B, 0, rfl, lies_mk _ _ _ fun i hi => ?_⟩⟩
  have h01 : i = 0 ∨ i = 1 := by simp at hi; omega
  rcases h01 with rfl | rfl
  · exact ⟨hB, hb.cell 0, a5, c5, hb.cell 1, h5.mono hZ5⟩
  · exact ⟨hB, hb.cell 2, a6, c6, hb.cell 3, h6.mono hZ6⟩

end Go.Proofs.YtdmaijmglblccaaGreatDoor

/- The order by paths is a strict order, with all below below, kept by bindings and by what is around, and total without variables: plain. -/
namespace Go.Proofs.YtdmaijmglblccaaGreatDoor
open Go.RowKit
set_option linter.unusedSimpArgs false
set_option linter.unusedVariables false

theorem size_one {s : ByteArray} {l : List Tm} : sizeL [(⟨s, l⟩ : Tm)] = 1 + sizeL l := by simp [sizeL]

/-- No variable anywhere. -/
def grd (t : Tm) : Prop := ∀ k ∈ preL [t], varB k.name = false
end Go.Proofs.YtdmaijmglblccaaGreatDoor


/- Walks: two bindings by their names. -/
namespace Go.Proofs.YtdmaijmglblccaaGreatDoor
open Go.RowKit
set_option linter.unusedSimpArgs false
set_option linter.unusedVariables false
set_option maxRecDepth 8000

end Go.Proofs.YtdmaijmglblccaaGreatDoor

/- Maps by texts: a loop over one, and what is struck in it. -/
namespace Go.Proofs.YtdmaijmglblccaaGreatDoor
open Go.RowKit
open Go.ChangeMaps (setBlock)
set_option linter.unusedSimpArgs false
set_option linter.unusedVariables false

/-- A loop over the map at b, its iterator at r: the map's entries, and those that are still to come. -/
def RangeAt (w : World) (b r : Nat) (L rem : List (ByteArray × Value)) : Prop :=
  ∃ es clk since seen c0, w.heap[b]? = some (.map es clk) ∧ es.toList.map (fun e => (e.key, e.val)) = L.map (fun p => (Value.string p.1, p.2)) ∧ Stamps es clk ∧
    w.heap[r]? = some (.mapIter (some b) since seen c0) ∧ (∀ x ∈ es.toList, x.born < since) ∧ since ≤ c0 ∧ since ≤ clk ∧
    (leftOf es seen).toList.map (fun e => (e.key, e.val)) = rem.map (fun p => (Value.string p.1, p.2))

/-- How many are still to come. -/
def leftAt (w : World) (b r : Nat) : Nat :=
  match w.heap[b]?, w.heap[r]? with
  | some (.map es _), some (.mapIter _ _ seen _) => (leftOf es seen).size
  | _, _ => 0

theorem RangeAt.left {w : World} {b r : Nat} {L rem : List (ByteArray × Value)} (h : RangeAt w b r L rem) : leftAt w b r = rem.length := by
  obtain ⟨es, clk, since, seen, c0, hb, _, _, hr, _, _, _, hl⟩ := h
  have := congrArg List.length hl
  simp only [List.length_map, Array.length_toList] at this
  simp only [leftAt, hb, hr]
  exact this
theorem RangeAt.map {w : World} {b r : Nat} {L rem : List (ByteArray × Value)} (h : RangeAt w b r L rem) : MapAt w b L := by
  obtain ⟨es, clk, since, seen, c0, hb, he, hs, _⟩ := h
  exact ⟨es, clk, hb, he, hs⟩
theorem RangeAt.ne {w : World} {b r : Nat} {L rem : List (ByteArray × Value)} (h : RangeAt w b r L rem) : r ≠ b := by
  obtain ⟨es, clk, since, seen, c0, hb, he, hs, hr, _⟩ := h
  intro e
  rw [e, hb] at hr
  cases hr
theorem RangeAt.lt {w : World} {b r : Nat} {L rem : List (ByteArray × Value)} (h : RangeAt w b r L rem) : r < w.heap.size := by
  obtain ⟨es, clk, since, seen, c0, hb, he, hs, hr, _⟩ := h
  exact (Array.getElem?_eq_some_iff.1 hr).1
theorem RangeAt.kept {w w' : World} {b r : Nat} {L rem : List (ByteArray × Value)} (h : RangeAt w b r L rem) (hb' : w'.heap[b]? = w.heap[b]?) (hr' : w'.heap[r]? = w.heap[r]?) : RangeAt w' b r L rem := by
  obtain ⟨es, clk, since, seen, c0, hb, he, hs, hr, rest⟩ := h
  exact ⟨es, clk, since, seen, c0, hb'.trans hb, he, hs, hr'.trans hr, rest⟩
theorem RangeAt.below {w w' : World} {b r B : Nat} {L rem : List (ByteArray × Value)} (h : RangeAt w b r L rem) (hb : Below B w w') (h1 : b < B) (h2 : r < B) : RangeAt w' b r L rem := h.kept (hb.block b h1) (hb.block r h2)

theorem MapAt.range {P : Program} {w : World} {T kt et : TypeId} {b : Nat} {L : List (ByteArray × Value)} (h : MapAt w b L) (hm : P.underlying T = some (.map kt et)) :
    ∃ o, (Instr.range T (.map (some b))).run P w = .ok (.pointer (some ⟨w.heap.size, 0, none⟩)) (w.alloc o) ∧ RangeAt (w.alloc o) b w.heap.size L L := by
  have hlt := h.lt
  obtain ⟨es, clk, hb, he, hs⟩ := h
  refine ⟨_, run_range_map w T kt et b es clk hm hb, es, clk, clk, #[], clk, (Below.heap_alloc _ _ _ hlt).trans hb, he, hs, heap_alloc_new w _, hs.1, Nat.le_refl _, Nat.le_refl _, ?_⟩
  rw [← he]
  congr 1
  simp [leftOf]

theorem kv_inj {l : List MapEntry} {L : List (ByteArray × Value)} (h : l.map (fun e => (e.key, e.val)) = L.map (fun p => (Value.string p.1, p.2))) {e : MapEntry} (he : e ∈ l) : ∃ p ∈ L, e.key = .string p.1 ∧ e.val = p.2 := by
  have : (e.key, e.val) ∈ L.map (fun p => (Value.string p.1, p.2)) := by rw [← h]; exact List.mem_map.2 ⟨e, he, rfl⟩
  obtain ⟨p, hp, e2⟩ := List.mem_map.1 this
  simp only [Prod.mk.injEq] at e2
  exact ⟨p, hp, e2.1.symm, e2.2.symm⟩

/-- One goes out of those that were left. -/
theorem left_out (seen : Array Nat) (e : MapEntry) : ∀ (l : List MapEntry) (R : List (ByteArray × Value)), (l.map (·.born)).Nodup → e ∈ l → seen.contains e.born = false → (l.filter fun x => !seen.contains x.born).map (fun e => (e.key, e.val)) = R.map (fun p => (Value.string p.1, p.2)) →
    ∃ p R', e.key = .string p.1 ∧ e.val = p.2 ∧ R.Perm (p :: R') ∧ (l.filter fun x => !(seen.push e.born).contains x.born).map (fun e => (e.key, e.val)) = R'.map (fun p => (Value.string p.1, p.2))
  | [], R, _, he, _, _ => by cases he
  | a :: l, R, hn, he, hs, hR => by
    simp only [List.map_cons, List.nodup_cons] at hn
    obtain ⟨hn1, hn2⟩ := hn
    by_cases ha : a.born = e.born
    · have hae : e = a := by
        rcases List.mem_cons.1 he with h | h
        · exact h
        · exact absurd (List.mem_map.2 ⟨e, h, ha.symm⟩) hn1
      subst hae
      have hs' : (!seen.contains e.born) = true := by rw [hs]; rfl
      rw [List.filter_cons_of_pos (by simpa using hs')] at hR
      match R, hR with
      | p :: R', hR =>
        simp only [List.map_cons, List.cons.injEq, Prod.mk.injEq] at hR
        refine ⟨p, R', hR.1.1, hR.1.2, List.Perm.refl _, ?_⟩
        rw [List.filter_cons_of_neg (by simp), ← hR.2]
        congr 1
        refine List.filter_congr fun x hx => ?_
        have hne : x.born ≠ e.born := fun h => hn1 (List.mem_map.2 ⟨x, hx, h⟩)
        simp [hne]
    · have he' : e ∈ l := by
        rcases List.mem_cons.1 he with h | h
        · exact absurd (by rw [h]) ha
        · exact h
      by_cases hsa : seen.contains a.born = true
      · rw [List.filter_cons_of_neg (by simpa using hsa)] at hR
        obtain ⟨p, R', h1, h2, h3, h4⟩ := left_out seen e l R hn2 he' hs hR
        refine ⟨p, R', h1, h2, h3, ?_⟩
        rw [List.filter_cons_of_neg (by simp at hsa ⊢; exact fun h => absurd hsa h), h4]
      · have hsa' : seen.contains a.born = false := by simpa using hsa
        rw [List.filter_cons_of_pos (by simpa using hsa')] at hR
        match R, hR with
        | q :: R0, hR =>
          simp only [List.map_cons, List.cons.injEq] at hR
          obtain ⟨p, R', h1, h2, h3, h4⟩ := left_out seen e l R0 hn2 he' hs hR.2
          refine ⟨p, q :: R', h1, h2, (List.Perm.cons q h3).trans (List.Perm.swap p q R'), ?_⟩
          rw [List.filter_cons_of_pos (by simp at hsa' ⊢; exact ⟨hsa', ha⟩), List.map_cons, List.map_cons, h4, hR.1]

theorem RangeAt.next {P : Program} {w : World} {b r : Nat} {L rem : List (ByteArray × Value)} (h : RangeAt w b r L rem) (ty : TypeId) :
    (rem = [] ∧ (Instr.next (.pointer (some ⟨r, 0, none⟩)) false ty).run P w = .ok (.tuple #[.bool false]) w) ∨
    ∃ p rem' w', rem.Perm (p :: rem') ∧ (Instr.next (.pointer (some ⟨r, 0, none⟩)) false ty).run P w = .ok (.tuple #[.bool true, .string p.1, p.2]) w' ∧ RangeAt w' b r L rem' ∧
      w'.heap.size = w.heap.size ∧ w'.os = w.os ∧ w'.tape = w.tape ∧ w'.output = w.output ∧ (∀ j, j ≠ r → w'.heap[j]? = w.heap[j]?) ∧ (Instr.entry (.pointer (some ⟨r, 0, none⟩))).run P w' = .ok (.tuple #[.string p.1, p.2]) w' := by
  have hne := h.ne
  obtain ⟨es, clk, since, seen, c0, hb, he, hs, hr, hold, hsc, hsk, hl⟩ := h
  rcases run_next_at (P := P) w ty r b since c0 seen es clk hr hb hold hsc with ⟨h0, hrun⟩ | ⟨e, hem, w1, hal, hrun⟩
  · refine Or.inl ⟨?_, hrun⟩
    have := congrArg List.length hl
    simp only [List.length_map, Array.length_toList, h0] at this
    exact List.length_eq_zero_iff.1 this.symm
  · obtain ⟨hm1, hm2⟩ := mem_left hem
    have hl' : (es.toList.filter fun x => !seen.contains x.born).map (fun e => (e.key, e.val)) = rem.map (fun p => (Value.string p.1, p.2)) := by
      rw [← hl]; unfold leftOf; rw [Array.toList_filter]
    obtain ⟨p, rem', hk, hv, hperm, hrem⟩ := left_out seen e es.toList rem hs.2 hm1 hm2 hl'
    have hr1 : w1.heap[r]? = some (.mapIter (some b) since seen c0) := by rcases hal with rfl | rfl <;> exact hr
    have hb1 : w1.heap[b]? = some (.map es clk) := by rcases hal with rfl | rfl <;> exact hb
    have hset := MapKept.heap_set (o' := .mapIter (some b) since (seen.push e.born) clk) hr1
    have hb' : (setBlock w1 r (.mapIter (some b) since (seen.push e.born) clk)).heap[b]? = some (.map es clk) := (hset.2 b (fun e1 => hne e1.symm)).trans hb1
    rw [hk, hv] at hrun
    refine Or.inr ⟨p, rem', _, hperm, hrun, ⟨es, clk, since, seen.push e.born, clk, hb', he, hs, hset.1, hold, hsk, hsk, ?_⟩, ?_, ?_, ?_, ?_, ?_, ?_⟩
    · rw [← hrem]; unfold leftOf; rw [Array.toList_filter]
    · rcases hal with rfl | rfl <;> simp [setBlock]
    · rcases hal with rfl | rfl <;> rfl
    · rcases hal with rfl | rfl <;> rfl
    · rcases hal with rfl | rfl <;> rfl
    · intro j hj
      have := hset.2 j hj
      rcases hal with rfl | rfl <;> exact this
    · have := run_entry_at (P := P) _ r b since seen es clk e hset.1 hb' hm1 hs.2
      rw [hk, hv] at this
      exact this

/-- What is left when a key is struck. -/
def delP : List (ByteArray × Value) → ByteArray → List (ByteArray × Value)
  | [], _ => []
  | p :: r, n => if p.1 = n then r else p :: delP r n
theorem findNow_del (n : ByteArray) (q : MapEntry → Bool) : ∀ (l : List MapEntry) (L : List (ByteArray × Value)) (i : Nat), l.map (fun e => (e.key, e.val)) = L.map (fun p => (Value.string p.1, p.2)) → (∀ e ∈ l, e.key = .string n → q e = false) →
    (mapGet L n = none → delP L n = L) ∧ (∀ v, mapGet L n = some v → ∃ j, Instr.findNow .string (.string n) l i = some (some (i + j, v)) ∧ j < l.length ∧ (l.eraseIdx j).map (fun e => (e.key, e.val)) = (delP L n).map (fun p => (Value.string p.1, p.2)) ∧ (l.eraseIdx j).filter q = l.filter q)
  | [], [], i, h, _ => ⟨fun _ => rfl, fun v hv => by simp [mapGet] at hv⟩
  | [], p :: L, i, h, _ => by simp at h
  | e :: l, [], i, h, _ => by simp at h
  | e :: l, p :: L, i, h, hq => by
    simp only [List.map_cons, List.cons.injEq, Prod.mk.injEq] at h
    obtain ⟨⟨hk, he⟩, ht⟩ := h
    obtain ⟨ih1, ih2⟩ := findNow_del n q l L (i + 1) ht fun e he => hq e (by simp [he])
    by_cases hn : p.1 = n
    · have hs : Instr.sameNow .string (.string n) e.key = some true := by
        rw [hk, hn]
        show some (n == n) = some true
        rw [show (n == n) = true from (MapKept.bytes_beq _ _).2 rfl]
      refine ⟨fun h => by simp [mapGet, hn] at h, fun v hv => ?_⟩
      simp only [mapGet, hn, if_true, Option.some.injEq] at hv
      refine ⟨0, by simp [Instr.findNow, hs, he, hv], by simp, ?_, ?_⟩
      · simp [delP, hn, ht]
      · rw [List.eraseIdx_cons_zero, List.filter_cons_of_neg (by rw [hq e (by simp) (by rw [hk, hn])]; simp)]
    · have hs : Instr.sameNow .string (.string n) e.key = some false := by
        rw [hk]
        show some (n == p.1) = some false
        have hb : (n == p.1) = false := by
          cases hh : (n == p.1) with
          | false => rfl
          | true => exact absurd ((MapKept.bytes_beq _ _).1 hh).symm hn
        rw [hb]
      refine ⟨fun h => ?_, fun v hv => ?_⟩
      · rw [mapGet, if_neg hn] at h
        rw [delP, if_neg hn, ih1 h]
      · rw [mapGet, if_neg hn] at hv
        obtain ⟨j, h1, h2, h3, h4⟩ := ih2 v hv
        refine ⟨j + 1, by simp [Instr.findNow, hs, h1]; omega, by simpa using h2, ?_, ?_⟩
        · rw [delP, if_neg hn]; simp [h3, hk, he]
        · rw [List.eraseIdx_cons_succ]
          cases hqe : q e with
          | true => rw [List.filter_cons_of_pos hqe, List.filter_cons_of_pos hqe, h4]
          | false => rw [List.filter_cons_of_neg (by simp [hqe]), List.filter_cons_of_neg (by simp [hqe]), h4]

theorem RangeAt.drop {P : Program} {w : World} {T kt et ty : TypeId} {b r : Nat} {L rem : List (ByteArray × Value)} (h : RangeAt w b r L rem) (hm : P.underlying T = some (.map kt et)) (hk : P.underlying kt = some .string) (n : ByteArray) (hr0 : ∀ p ∈ rem, p.1 ≠ n) (v : Value) (hv : mapGet L n = some v) :
    ∃ w', (Builtin.delete_ #[T, kt] ty #[.map (some b), .string n]).run P w = .ok (.tuple #[]) w' ∧ RangeAt w' b r (delP L n) rem ∧ w'.heap.size = w.heap.size ∧ w'.os = w.os ∧ w'.tape = w.tape ∧ w'.output = w.output ∧ (∀ j, j ≠ b → w'.heap[j]? = w.heap[j]?) := by
  have hne := h.ne
  obtain ⟨es, clk, since, seen, c0, hb, he, hs, hr, hold, hsc, hsk, hl⟩ := h
  have hl' : (es.toList.filter fun x => !seen.contains x.born).map (fun e => (e.key, e.val)) = rem.map (fun p => (Value.string p.1, p.2)) := by
    rw [← hl]; unfold leftOf; rw [Array.toList_filter]
  have hq : ∀ e ∈ es.toList, e.key = .string n → (!seen.contains e.born) = false := fun e hee hke => by
    cases hc : seen.contains e.born with
    | true => rfl
    | false =>
      obtain ⟨p, hp, h1, _⟩ := kv_inj hl' (List.mem_filter.2 ⟨hee, by rw [hc]; rfl⟩)
      rw [hke] at h1
      exact absurd (Value.string.inj h1).symm (hr0 p hp)
  obtain ⟨j, h1, h2, h3, h4⟩ := (findNow_del n (fun x => !seen.contains x.born) es.toList L 0 he hq).2 v hv
  rw [Nat.zero_add] at h1
  have hc : ∀ b, (Instr.checkKey b 10000 kt (.string n)).run P w = .ok () w := fun b => MapKept.run_checkKey (k := .string n) hk (by simp [MapKept.IsKey]) b 9999
  have hsub : (es.eraseIdxIfInBounds j).toList = es.toList.eraseIdx j := by
    unfold Array.eraseIdxIfInBounds
    rw [dif_pos (by simpa using h2)]
    simp
  have hmem : ∀ x ∈ (es.eraseIdxIfInBounds j).toList, x ∈ es.toList := fun x hx => by rw [hsub] at hx; exact (List.eraseIdx_sublist _ _).subset hx
  refine ⟨setBlock w b (.map (es.eraseIdxIfInBounds j) clk), ?_, ⟨es.eraseIdxIfInBounds j, clk, since, seen, c0, (MapKept.heap_set hb).1, by rw [hsub]; exact h3, ⟨fun x hx => hs.1 x (hmem x hx), ?_⟩, ((MapKept.heap_set hb).2 r hne).trans hr, fun x hx => hold x (hmem x hx), hsc, hsk, ?_⟩, by simp [setBlock], rfl, rfl, rfl, fun i hi => (MapKept.heap_set hb).2 i hi⟩
  · simp [Builtin.delete_, run_underlying hm, MapKept.run_getObj_map hb, hc, MapKept.run_findKey hk h1, MapKept.run_setObj_map _ hb, Result.andThen, setBlock]
  · rw [hsub]
    exact hs.2.sublist ((List.eraseIdx_sublist _ _).map _)
  · unfold leftOf
    rw [Array.toList_filter, hsub, h4]
    exact hl'
end Go.Proofs.YtdmaijmglblccaaGreatDoor


/- Walks: bindings out of a map, in order. -/
namespace Go.Proofs.YtdmaijmglblccaaGreatDoor
open Go.RowKit
set_option linter.unusedSimpArgs false
set_option linter.unusedVariables false
set_option maxRecDepth 8000

end Go.Proofs.YtdmaijmglblccaaGreatDoor

/- Rows of pairs that a call makes. -/
namespace Go.Proofs.YtdmaijmglblccaaGreatDoor
open Go.RowKit
set_option linter.unusedSimpArgs false
set_option linter.unusedVariables false

/-- A pair, and where those below its terms' first knots lie. -/
abbrev Pc := Pr × (Option Addr × Nat) × (Option Addr × Nat)
instance : Inhabited Pc := ⟨(⟨⟨⟨#[]⟩, []⟩, ⟨⟨#[]⟩, []⟩⟩, (none, 0), (none, 0))⟩
def enc4 (x : Pc) : List Value := [.string x.1.l.name, .slice x.2.1.1 x.1.l.args.length x.2.1.2, .string x.1.r.name, .slice x.2.2.1 x.1.r.args.length x.2.2.2]
def flat4 : List Pc → List Value
  | [] => []
  | x :: r => enc4 x ++ flat4 r
theorem flat4_append (b : List Pc) : ∀ a, flat4 (a ++ b) = flat4 a ++ flat4 b
  | [] => rfl
  | x :: r => by rw [List.cons_append, flat4, flat4, flat4_append b r, List.append_assoc]
theorem flat4_get : ∀ (a : List Pc) (i : Nat) (h : i < a.length) (j : Nat), j < 4 → (flat4 a)[i * 4 + j]? = (enc4 a[i])[j]?
  | [], i, h, j, hj => by simp at h
  | x :: r, 0, h, j, hj => by
    rw [flat4, List.getElem?_append_left (by simp [enc4]; omega)]; simp
  | x :: r, i + 1, h, j, hj => by
    rw [flat4, List.getElem?_append_right (by simp [enc4]; omega)]
    have e : (i + 1) * 4 + j - (enc4 x).length = i * 4 + j := by simp [enc4]; omega
    rw [e, flat4_get r i (by simpa using h) j hj]
    simp

/-- The row so far, apart from what its terms are made of: old memory that Y lets, and new memory. -/
structure QRow (w : World) (N : Nat) (Y : Nat → Prop) (v : Value) (cs : List Pc) : Prop where
  own : w.ownsRow N 35 4 v cs.length (flat4 cs)
  row : ∀ x ∈ cs, Sl w (fun b => Y b ∨ (N ≤ b ∧ some b ≠ v.ownBlock)) x.2.1.1 x.1.l.args ∧ Sl w (fun b => Y b ∨ (N ≤ b ∧ some b ≠ v.ownBlock)) x.2.2.1 x.1.r.args

theorem QRow.start (w : World) (N : Nat) (Y : Nat → Prop) : QRow w N Y (.slice none 0 0) [] := ⟨World.ownsRow_nil w N _ 4, by simp⟩
theorem QRow.below {w w' : World} {N : Nat} {Y : Nat → Prop} {v : Value} {cs : List Pc} (h : QRow w N Y v cs) (hb : Below w.heap.size w w') : QRow w' N Y v cs :=
  ⟨h.own.kept (w' := w') (row := none) ⟨hb.os, hb.tape, hb.output, hb.size, fun j hj _ => hb.block j hj⟩ (by rcases Option.eq_none_or_eq_some (Value.ownBlock v) with h | ⟨x, h⟩; exact Or.inl h; exact Or.inr (by rw [h]; simp)),
   fun x hx => ⟨(h.row x hx).1.later hb, (h.row x hx).2.later hb⟩⟩
theorem QRow.ne {w : World} {N : Nat} {Y : Nat → Prop} {v : Value} {cs : List Pc} (h : QRow w N Y v cs) {b : Nat} (hb : b < N) : some b ≠ v.ownBlock := fun e => by
  have := (h.own.lt b e.symm).1; omega
/-- One more: the pair's cells have been laid into a block of their own, and appended. -/
theorem QRow.push {w w1 w2 w3 : World} {N : Nat} {Y : Nat → Prop} {v : Value} {cs : List Pc} (h : QRow w N Y v cs) (hN : N ≤ w.heap.size) (hY : ∀ b, Y b → b < N) (hb : Below w.heap.size w w1) {x : Pc}
    (ht : Sl w1 (fun b => Y b ∨ w.heap.size ≤ b) x.2.1.1 x.1.l.args ∧ Sl w1 (fun b => Y b ∨ w.heap.size ≤ b) x.2.2.1 x.1.r.args) (o : Obj) (hw2 : w2 = w1.alloc o) {g cap : Nat}
    (hown : w3.ownsRow N 35 4 (.slice (some ⟨g, 0, none⟩) (cs.length + 1) cap) (cs.length + 1) (flat4 cs ++ enc4 x)) (hg : w2.grownBy w3 v.ownBlock) (hg1 : v.ownBlock = some g ∨ g = w2.heap.size) :
    QRow w3 N Y (.slice (some ⟨g, 0, none⟩) (cs.length + 1) cap) (cs ++ [x]) := by
  subst hw2
  have hlt := h.own.lt
  have hsz : w1.heap.size ≤ (w1.alloc o).heap.size := by simp
  have hbs := hb.size
  have hgN : N ≤ g := by
    rcases hg1 with e | e
    · exact (hlt g e).1
    · simp at e; omega
  have old : ∀ (a : Option Addr) (l : List Tm), Sl w (fun b => Y b ∨ (N ≤ b ∧ some b ≠ v.ownBlock)) a l → Sl w3 (fun b => Y b ∨ (N ≤ b ∧ some b ≠ (Value.slice (some ⟨g, 0, none⟩) (cs.length + 1) cap).ownBlock)) a l := fun a l h0 => by
    have h1 : Sl w (fun b => (Y b ∨ (N ≤ b ∧ some b ≠ v.ownBlock)) ∧ b < w.heap.size) a l := h0.mono fun b h1 h2 => ⟨h1, h2⟩
    have h2 : Sl w3 (fun b => (Y b ∨ (N ≤ b ∧ some b ≠ v.ownBlock)) ∧ b < w.heap.size) a l := h1.kept fun b hx => by
      have hne : some b ≠ v.ownBlock := by
        rcases hx.1 with hy | hy
        · exact h.ne (hY b hy)
        · exact hy.2
      rw [hg.block b (by simp; omega) hne, Below.heap_alloc _ _ _ (by omega), hb.block b hx.2]
    refine h2.mono fun b hx _ => ?_
    rcases hx.1 with hy | hy
    · exact Or.inl hy
    · refine Or.inr ⟨hy.1, fun e => ?_⟩
      simp [Value.ownBlock] at e
      rcases hg1 with e' | e'
      · exact hy.2 (by rw [e', e])
      · simp at e'; omega
  have new : ∀ (a : Option Addr) (l : List Tm), Sl w1 (fun b => Y b ∨ w.heap.size ≤ b) a l → Sl w3 (fun b => Y b ∨ (N ≤ b ∧ some b ≠ (Value.slice (some ⟨g, 0, none⟩) (cs.length + 1) cap).ownBlock)) a l := fun a l h0 => by
    have h1 : Sl w1 (fun b => (Y b ∨ w.heap.size ≤ b) ∧ b < w1.heap.size) a l := h0.mono fun b h1 h2 => ⟨h1, h2⟩
    have h2 : Sl w3 (fun b => (Y b ∨ w.heap.size ≤ b) ∧ b < w1.heap.size) a l := h1.kept fun b hx => by
      have hne : some b ≠ v.ownBlock := by
        rcases hx.1 with hy | hy
        · exact h.ne (hY b hy)
        · intro e; have := (hlt b e.symm).2; omega
      rw [hg.block b (by simp; omega) hne, Below.heap_alloc _ _ _ hx.2]
    refine h2.mono fun b hx _ => ?_
    rcases hx.1 with hy | hy
    · exact Or.inl hy
    · refine Or.inr ⟨by omega, fun e => ?_⟩
      simp [Value.ownBlock] at e
      rcases hg1 with e' | e'
      · have := (hlt g e').2; omega
      · simp at e'; omega
  refine ⟨by rw [flat4_append]; simpa [flat4] using hown, fun y hy => ?_⟩
  rcases List.mem_append.1 hy with hy | hy
  · exact ⟨old _ _ (h.row y hy).1, old _ _ (h.row y hy).2⟩
  · have e : y = x := by simpa using hy
    subst e
    exact ⟨new _ _ ht.1, new _ _ ht.2⟩

/-- As a list of pairs. -/
theorem QRow.qv {w : World} {N : Nat} {Y : Nat → Prop} {v : Value} {cs : List Pc} (h : QRow w N Y v cs) : QV w (fun b => Y b ∨ N ≤ b) v (cs.map (·.1)) := by
  have hml : cs.length ≤ 9223372036854775807 := by
    rcases h.own.2 with ⟨_, h0⟩ | ⟨g, cap, cur, _, _, _, h1, h2, _⟩
    · omega
    · unfold maxLen at h2; omega
  by_cases h0 : 0 < cs.length
  · obtain ⟨g, cap, rfl, hg, hlt, hc⟩ := owned_val h.own h0
    have hcap : cs.length ≤ cap := by
      rcases h.own.2 with ⟨e, _⟩ | ⟨g', cap', cur, e, _, _, h1, _⟩
      · cases e
      · simp at e; omega
    refine ⟨_, cap, by simp, ⟨by simpa using hml, by simpa using hcap⟩, Or.inr ⟨g, 0, rfl, Or.inr hg, fun i hi => ?_⟩⟩
    have hi' : i < cs.length := by simpa using hi
    have g0 := hc (i * 4 + 0) (.string cs[i].1.l.name) (by rw [flat4_get cs i hi' 0 (by decide)]; rfl)
    have g1 := hc (i * 4 + 1) (.slice cs[i].2.1.1 cs[i].1.l.args.length cs[i].2.1.2) (by rw [flat4_get cs i hi' 1 (by decide)]; rfl)
    have g2 := hc (i * 4 + 2) (.string cs[i].1.r.name) (by rw [flat4_get cs i hi' 2 (by decide)]; rfl)
    have g3 := hc (i * 4 + 3) (.slice cs[i].2.2.1 cs[i].1.r.args.length cs[i].2.2.2) (by rw [flat4_get cs i hi' 3 (by decide)]; rfl)
    simp only [List.getElem_map, Nat.zero_add]
    obtain ⟨r1, r2⟩ := h.row cs[i] (List.getElem_mem hi')
    exact ⟨_, _, _, _, g0, g1, g2, g3, r1.mono fun b hb _ => hb.imp id (fun h => h.1), r2.mono fun b hb _ => hb.imp id (fun h => h.1)⟩
  · have e : cs = [] := List.length_eq_zero_iff.1 (by omega)
    subst e
    rcases h.own.2 with ⟨hv, _⟩ | ⟨g, cap, cur, hv, _⟩
    · exact ⟨none, 0, hv, by simp, Or.inl rfl⟩
    · exact ⟨_, _, hv, by simp, Or.inl rfl⟩

theorem Tryz.infoPair : (Tryz.prog.info? 35).map (fun i => (i.zero, i.size, i.bytes)) = some (some (.agg #[.string ByteArray.empty, .slice none 0 0, .string ByteArray.empty, .slice none 0 0]), 4, 80) := by kernel_rfl
theorem cell_four_new (w : World) (c0 c1 c2 c3 : Value) (T : Nat) : ∀ j u, [c0, c1, c2, c3][j]? = some u → (w.alloc (.cells #[c0, c1, c2, c3] T)).cell? ((⟨w.heap.size, 0, none⟩ : Addr).add j) = some u :=
  World.news_of_block (cs := #[c0, c1, c2, c3]) (heap_alloc_new w _)
/-- A pair appended to a row of them, and where the row is. -/
theorem pairs_append {w w1 : World} {N : Nat} {Y : Nat → Prop} {v : Value} {cs : List Pc} (h : QRow w N Y v cs) (hN : N ≤ w.heap.size) (hY : ∀ b, Y b → b < N) (hb : Below w.heap.size w w1) (x : Pc) (ht : Sl w1 (fun b => Y b ∨ w.heap.size ≤ b) x.2.1.1 x.1.l.args ∧ Sl w1 (fun b => Y b ∨ w.heap.size ≤ b) x.2.2.1 x.1.r.args) (hn : cs.length ≤ 1000000) (A : Nat) (hA : w1.heap.size = A) :
    ∃ v2 w3, (Builtin.append_ #[22, 22] 22 #[v, .slice (some ⟨A, 0, none⟩) 1 1]).run Tryz.prog (w1.alloc (.cells #[.string x.1.l.name, .slice x.2.1.1 x.1.l.args.length x.2.1.2, .string x.1.r.name, .slice x.2.2.1 x.1.r.args.length x.2.2.2] 35)) = .ok v2 w3 ∧ QRow w3 N Y v2 (cs ++ [x]) ∧
      (w1.alloc (.cells #[.string x.1.l.name, .slice x.2.1.1 x.1.l.args.length x.2.1.2, .string x.1.r.name, .slice x.2.2.1 x.1.r.args.length x.2.2.2] 35)).grownBy w3 v.ownBlock ∧ ∀ k, v2.ownBlock = some k → v.ownBlock = some k ∨ w1.heap.size ≤ k := by
  subst hA
  obtain ⟨i0, hi, hz0, hz1, hz2⟩ := info_parts Tryz.infoPair
  have hbs := hb.size
  obtain ⟨g, cap, w3, hr, ho, hg, hat, hlt⟩ := run_append_lies (P := Tryz.prog) (w := w1.alloc (.cells #[.string x.1.l.name, .slice x.2.1.1 x.1.l.args.length x.2.1.2, .string x.1.r.name, .slice x.2.2.1 x.1.r.args.length x.2.2.2] 35)) 22 22 N 35 i0 _ 4 80 Tryz.underlying22 hi hz0 hz1 hz2 rfl (by decide) v cs.length (flat4 cs) ((h.below hb).own.alloc _)
    ⟨w1.heap.size, 0, none⟩ 1 1 (enc4 x) rfl (cell_four_new _ _ _ _ _ _) (fun y hy => by simp [enc4] at hy; rcases hy with rfl | rfl | rfl | rfl <;> rfl) (by decide) (by unfold maxLen; omega) (by omega) (by simp; omega) _ rfl
  refine ⟨_, w3, hr, h.push hN hY hb ht _ rfl ho hg hat, hg, fun k hk => ?_⟩
  have e : g = k := by simpa [Value.ownBlock] using hk
  rcases hat with h1 | h1
  · exact Or.inl (by rw [h1, e])
  · right; simp at h1; omega
end Go.Proofs.YtdmaijmglblccaaGreatDoor

/- Terms and lists of numbers as they are read before the call. -/
namespace Go.Proofs.YtdmaijmglblccaaGreatDoor
open Go.ChangeShapes Go.WideShapes Go.ChangeAt Go.RowKit
set_option linter.unusedSimpArgs false
set_option linter.unusedVariables false
set_option maxRecDepth 8000

theorem Tryz.cellsInt : Tryz.prog.cellsOf 3 = 1 := by kernel_rfl

theorem cells1 {w : World} {a : Addr} {cs : List Value} (h : w.cells? 0 a 1 = some cs) : ∃ c0, cs = [c0] ∧ w.cell? a = some c0 := by
  have e : (List.range 1) = [0] := rfl
  simp only [World.cells?, Nat.zero_le, if_true, e] at h
  simp only [List.mapM_cons, List.mapM_nil, Option.bind_eq_bind, Option.bind_eq_some_iff, Option.pure_def] at h
  obtain ⟨c0, h0, r, h1, h2⟩ := h
  simp only [Option.some.injEq] at h1 h2
  subst h1; subst h2
  exact ⟨c0, rfl, by simpa [Addr.add] using h0⟩

end Go.Proofs.YtdmaijmglblccaaGreatDoor
