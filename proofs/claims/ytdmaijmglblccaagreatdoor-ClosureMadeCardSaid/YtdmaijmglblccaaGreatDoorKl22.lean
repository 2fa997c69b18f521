/- The program's classes are the classes; closure.Classes is walked. -/
import Derived.Test.YtdmaijmglblccaaGreatDoorKl21
namespace Go.Proofs.YtdmaijmglblccaaGreatDoor
open Go.RowKit
set_option linter.unusedSimpArgs false
set_option linter.unusedVariables false
set_option maxRecDepth 8000

theorem txB_inj {a b : Tm} (ha : errL [a] = 0) (hb : errL [b] = 0) (e : txB a = txB b) : a = b := txt_inj ha hb (by
  unfold txB at e
  have := congrArg (fun b : ByteArray => b.data.toList) e
  simpa using this)
theorem cg_C {E : List Pr} {k : Kl} (hn : Num E k.ts k.cl) (hd : Done E k.ts k.cl) {a b : Nat} (ha : a < k.ts.length) (hb : b < k.ts.length) : k.C a = k.C b ↔ Cg E (· ∈ k.ts) (k.T a) (k.T b) := by
  have hlen := hn.len
  have h := num_iff hn hd ha hb (by omega) (by omega)
  unfold Kl.C Kl.T
  rw [gd_get ha, gd_get hb, gd_get (show a < k.cl.length by omega), gd_get (show b < k.cl.length by omega)]
  exact h
theorem kTx_inj {E : List Pr} {k : Kl} (hn : Num E k.ts k.cl) (he : ∀ x ∈ k.ts, errL [x] = 0) {a b : Nat} (ha : a < k.ts.length) (hb : b < k.ts.length) (e : txB (k.T a) = txB (k.T b)) : a = b := by
  have h1 : k.T a ∈ k.ts := gd_mem ha
  have h2 : k.T b ∈ k.ts := gd_mem hb
  have h3 := txB_inj (he _ h1) (he _ h2) e
  unfold Kl.T at h3
  rw [gd_get ha, gd_get hb] at h3
  exact (List.getElem_inj hn.nd).1 h3
theorem cls_of {E : List Pr} {W : Nat} {k : Kl} {td : List (Nat × Nat)} {P : Nat → Prop} (hJ : JnI E (· ∈ k.ts) W k td P) (hn : Num E k.ts k.cl) (hd : Done E k.ts k.cl) (he : ∀ x ∈ k.ts, errL [x] = 0) {rows qs : List (List ByteArray)} (hT : TxR k k.mb.length rows) (hp : qs.Perm rows) (hs : qs.Pairwise fun a b => ¬ cmR b a < 0) : ClsR E (· ∈ k.ts) qs := by
  obtain ⟨a1, a2, a3⟩ := hT.rows
  have hlm := hJ.lm
  have hR : ∀ {i : Nat} {r : List ByteArray}, i < k.ts.length → RwM k i r → AscB r ∧ ∀ s, s ∈ r ↔ ∃ j, j < k.ts.length ∧ k.C j = i ∧ s = txB (k.T j) := fun {i r} hi h => by
    have hnd : ((k.M i).map fun j => txB (k.T j)).Nodup := by
      rw [List.Nodup, List.pairwise_map]
      refine List.Pairwise.imp_of_mem (fun {a b} ha hb hne e => hne ?_) (hJ.mNodup hi)
      exact kTx_inj hn he (hJ.mlt i hi a ha) (hJ.mlt i hi b hb) e
    obtain ⟨b1, b2⟩ := asc_of_perm h.2.1 hnd h.2.2
    refine ⟨b1, fun s => ?_⟩
    rw [b2, List.mem_map]
    constructor
    · rintro ⟨j, hj, rfl⟩
      have hj2 := hJ.mlt i hi j hj
      exact ⟨j, hj2, (hJ.mem j i hj2 hi).1 hj, rfl⟩
    · rintro ⟨j, hj, hc, rfl⟩
      exact ⟨j, (hJ.mem j i hj hi).2 hc, rfl⟩
  refine ⟨fun r hr => ?_, fun t ht => ?_, ?_⟩
  · obtain ⟨i, hi, h⟩ := a1 r (hp.mem_iff.1 hr)
    have hi2 : i < k.ts.length := by omega
    obtain ⟨b1, b2⟩ := hR hi2 h
    obtain ⟨a, ha⟩ := List.exists_mem_of_ne_nil _ h.1
    have ha2 := hJ.mlt i hi2 a ha
    have hac := (hJ.mem a i ha2 hi2).1 ha
    refine ⟨b1, k.T a, gd_mem ha2, fun s => ?_⟩
    rw [b2]
    constructor
    · rintro ⟨j, hj, hc, e⟩
      exact ⟨k.T j, gd_mem hj, (cg_C hn hd ha2 hj).1 (hac.trans hc.symm), e⟩
    · rintro ⟨u, hu, hc, e⟩
      obtain ⟨j, hj, hju⟩ := List.mem_iff_getElem.1 hu
      have hTj : k.T j = u := by unfold Kl.T; rw [gd_get hj]; exact hju
      rw [← hTj] at hc e
      exact ⟨j, hj, ((cg_C hn hd ha2 hj).2 hc).symm.trans hac, e⟩
  · obtain ⟨j, hj, hju⟩ := List.mem_iff_getElem.1 ht
    have hTj : k.T j = t := by unfold Kl.T; rw [gd_get hj]; exact hju
    have hcj := hJ.clt j hj
    have hm := (hJ.mem j (k.C j) hj hcj).2 rfl
    obtain ⟨r, hr, h⟩ := a2 (k.C j) (by omega) (List.ne_nil_of_mem hm)
    exact ⟨r, hp.mem_iff.2 hr, ((hR hcj h).2 _).2 ⟨j, hj, rfl, by rw [hTj]⟩⟩
  · have hnd : rows.Nodup := a3.imp fun {a b} ⟨i, j, hij, hj, h1, h2⟩ e => by
      subst e
      obtain ⟨x, hx⟩ := List.exists_mem_of_ne_nil _ h1.1
      have hx2 := hJ.mlt i (by omega) x hx
      have hxc := (hJ.mem x i hx2 (by omega)).1 hx
      have hin := ((hR (by omega) h1).2 (txB (k.T x))).2 ⟨x, hx2, hxc, rfl⟩
      obtain ⟨y, hy, hyc, e⟩ := ((hR (by omega) h2).2 _).1 hin
      have := kTx_inj hn he hx2 hy e
      subst this
      omega
    have hqn : qs.Nodup := hp.nodup_iff.2 hnd
    refine (List.pairwise_and_iff.2 ⟨hs, hqn⟩).imp fun {a b} ⟨h1, h2⟩ => ?_
    by_cases h3 : lxR a b
    · exact h3
    · exact absurd (lxR_conn h3 fun h4 => h1 (cmR_neg.2 h4)) h2
theorem pre_sizeK (l : List Tm) : ∀ {x : Tm}, x ∈ preL l → sizeL [x] ≤ sizeL l := by
  induction l using Tm.indL with
  | h0 => intro x h; simp [preL] at h
  | h s l r ihl ihr =>
    intro x h
    have e : sizeL ((⟨s, l⟩ : Tm) :: r) = 1 + sizeL l + sizeL r := by simp [sizeL]
    have e2 : sizeL [(⟨s, l⟩ : Tm)] = 1 + sizeL l := by simp [sizeL]
    rw [e]
    have h2 : x = ⟨s, l⟩ ∨ x ∈ preL l ∨ x ∈ preL r := by simpa [preL] using h
    rcases h2 with h | h | h
    · rw [h, e2]; omega
    · have := ihl h; omega
    · have := ihr h; omega
theorem ClsR.iff {E : List Pr} {S T : Tm → Prop} {l : List (List ByteArray)} (h : ∀ t, S t ↔ T t) (g : ClsR E S l) : ClsR E T l := by
  have e : S = T := funext fun t => propext (h t)
  rw [← e]; exact g
/-- What closure.Classes answers. -/
def ClP (ls : List Pr) (w : World) (e : Ending) (w' : World) : Prop :=
  Below w.heap.size w w' ∧ ((grdE ls ≠ 0 ∧ e = .returned (.tuple #[.slice none 0 0, .int .i64 (grdE ls)])) ∨ (grdE ls = 0 ∧ ∃ (a : Option Addr) (c : Nat) (ps : List (Value × List ByteArray)), e = .returned (.tuple #[.slice a ps.length c, .int .i64 0]) ∧ (ps = [] ∨ ∃ g, a = some ⟨g, 0, none⟩ ∧ ∀ j (h : j < ps.length), w'.cell? ⟨g, j, none⟩ = some ps[j].1) ∧ (∀ p ∈ ps, Stx w' p.1 p.2) ∧ ClsR ls (· ∈ preL (prT ls)) (ps.map (·.2))))
set_option maxHeartbeats 4000000 in
theorem kClasses_any (hN0 : SrtN) {BT : Nat} (ls : List Pr) (u : Value) (w : World) (X : Nat → Prop) (hu : QV w X u ls) (hT : Tb BT w) (hBT : BT ≤ w.heap.size) (hz : grdE ls = 0 → sizeL (prT ls) ≤ 900) :
    Calls Tryz.prog 16 #[u] w (ClP ls w) := by
  obtain ⟨ua, uc, rfl, hul, huu⟩ := id hu
  have HU := hide hu
  have HT := hide hT
  have HZ := hide hz
  have HBT := hide hBT
  have HN0 := hide hN0
  clear hu hT hz hBT huu hN0
  go_enter Tryz.func16, Tryz.ntmps16
  go_wp2_with fail
  refine (kcheck_any ls _ w X HU.out).mono ?_
  rintro e w2 ⟨rfl, hb2⟩
  have HB2 := hide hb2
  clear hb2
  by_cases hg : grdE ls = 0
  · have HG := hide hg
    rw [hg]
    clear hg
    have hq : Sl w2 (fun z => X z ∧ z < w2.heap.size) none ([] : List Tm) := ⟨by simp, Or.inl rfl⟩
    have hu2 : QV w2 (fun z => X z ∧ z < w2.heap.size) (.slice ua ls.length uc) ls := (HU.out.later HB2.out).mono fun b h1 h2 => ⟨h1, h2⟩
    have CL := closed_any ls [] (.slice ua ls.length uc) none 0 w2 _ hu2 hq (HT.out.on (HB2.out.mono HBT.out)) (Nat.le_trans HBT.out HB2.out.size) (fun z h => h.2) (by rw [List.append_nil]; exact prT_err (pairsE_all (grd_pairs HG.out))) (by rw [List.append_nil]; exact HZ.out HG.out) (Nat.le_trans (pairsE_len (grd_pairs HG.out)) (by omega))
    have HCL := hide CL
    clear CL hq hu2
    go_wp2_with fail
    refine HCL.out.mono ?_
    rintro e w6 ⟨N, Bk, r, k, m, o, nv, ns, rfl, hBk, hK, hN, hns, hlt, hnum, hdone, hmem, herr, hJ, h9, hb6⟩
    have HB6 := hide (HB2.out.trans (hb6.mono HB2.out.size))
    have TX := texts_any srtR HN0.out w6 hK hJ.lm hJ.mlt (fun c hc => by
      have h1 := sumN_at (l := k.mb) (i := c) (by rw [hJ.lm]; exact hc)
      have h2 := hJ.ms
      show (gd k.mb [] c).length ≤ 900
      omega) h9 fun i hi => by
        have hm : k.T i ∈ k.ts := gd_mem hi
        have he := herr _ hm
        have hs : sizeL [k.T i] ≤ 900 := by
          have h1 := pre_sizeK _ ((hmem _).1 hm)
          have h2 := HZ.out HG.out
          rw [List.append_nil] at h1
          omega
        have := txt_len _ he
        omega
    have HTX := hide TX
    have HC : Hid (∀ {rows qs : List (List ByteArray)}, TxR k k.mb.length rows → qs.Perm rows → (qs.Pairwise fun a b => ¬ cmR b a < 0) → ClsR ls (· ∈ preL (prT ls)) qs) := by
      intro rows qs h1 h2 h3
      refine (cls_of hJ hnum hdone herr h1 h2 h3).iff fun t => ?_
      rw [hmem, List.append_nil]
    obtain ⟨na, nc, rfl⟩ := hN.shape
    clear TX hb6 hK hN hns hlt hnum hdone hmem herr hJ h9
    go_wp2_with fail
    refine HTX.out.mono ?_
    rintro e w7 ⟨hb7, a, c, ps, rows, rfl, h1, h2, h3, h4, h5⟩
    have FIN : Hid (∀ e, e = .returned (.tuple #[.slice a ps.length c, .int .i64 0]) → ClP ls w e w7) := by
      rintro e rfl
      exact ⟨HB6.out.trans (hb7.mono HB6.out.size), Or.inr ⟨HG.out, a, c, ps, rfl, h1, h2, HC.out h4 h3 (by rw [List.pairwise_map]; exact h5.imp fun {a b} h => by omega)⟩⟩
    clear hb7 h1 h2 h3 h4 h5
    go_wp2_with fail
    refine bodyPost_ret (v := .tuple #[.slice a ps.length c, .int .i64 0]) (by simp [results, Tryz.results16, go_sem]) rfl ?_
    exact FIN.out _ rfl
  · have HE : Hid (grdE ls ≠ 0) := hg
    have hne : (grdE ls != 0) = true := by simp [hg]
    obtain ⟨er, her⟩ : ∃ er, er = grdE ls := ⟨_, rfl⟩
    rw [← her] at hne ⊢
    have HER := hide her
    clear her hg
    go_wp2_with fail
    refine bodyPost_ret (v := .tuple #[.slice none 0 0, .int .i64 er]) (by simp [results, Tryz.results16, go_sem]) rfl ?_
    exact ⟨HB2.out, Or.inl ⟨HE.out, by rw [← HER.out]⟩⟩
end Go.Proofs.YtdmaijmglblccaaGreatDoor
