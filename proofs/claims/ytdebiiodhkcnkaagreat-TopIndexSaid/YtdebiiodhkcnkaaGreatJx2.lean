import Derived.Test.YtdebiiodhkcnkaaGreatIx15a
import Derived.Test.YtdebiiodhkcnkaaGreatNn4
import Derived.Test.YtdebiiodhkcnkaaGreatW29n
namespace Go.Proofs.YtdebiiodhkcnkaaGreat
open Go.RowKit
set_option linter.unusedSimpArgs false
set_option linter.unusedVariables false
set_option maxRecDepth 8000
theorem un_sub {x t : Tm} (hx : mayE x = 0) (ht : mayE t = 0) (h : UnOk x t) : ∃ σ : List Bd, (∀ d ∈ σ, varB d.nm = true) ∧ onT σ x = onT σ t := by
 obtain ⟨g, R, hR, h0⟩ := h
 have hp := pairsE1 hx ht
 obtain ⟨g', Rf, Rt, hRf, hRt, h8, hs⟩ := two_runs hp
 have e := uRun_det _ _ _ _ _ _ hR hRt
 subst e
 have hg : grtB Rf.2 = false := by
  cases hb : grtB Rf.2 with
  | false => rfl
  | true => have h9 := h8 hb; rw [h0] at h9; cases h9
 have e2 := hs hg
 subst e2
 obtain ⟨_, _, hU, _⟩ := pairs_start hp
 obtain ⟨h', e, gg, _, kk, _⟩ := run_agr g' [] _ R hU hRf
 have ok : OkS R.2 := by rw [e]; exact gg.all
 have hself : Agr R.2 R.2 := fun d hd => by
  rw [onT_some (forT_of ok.1 hd), onT_id (fun e he => ok.2.2 d hd e he)]
 exact ⟨R.2, ok.vars, ((kk h0 R.2 ok.vars).1 hself).2 ⟨x, t⟩ (by simp)⟩
theorem mayE_sm2 {t : Tm} (he : errL [t] = 0) (hs : sizeL [t] ≤ 200) : mayE t = 0 := by
 unfold mayE
 rw [if_neg (by omega)]
 exact he
def Sm2 (t : Tm) : Prop := okA 2 [t] ∧ sizeL [t] ≤ 17
theorem Sm2.may {t : Tm} (h : Sm2 t) : mayE t = 0 := mayE_sm2 h.1.1.1 (by have := h.2; omega)
theorem un_turn {p q : Tm} (hp : Sm2 p) (hq : Sm2 q) (h : UnOk p q) : UnOk q p := by
 obtain ⟨σ, hv, hσ⟩ := un_sub hp.may hq.may h
 obtain ⟨g, Rf, Rt, hRf, hRt, h8, hs⟩ := two_runs (pairsE1 hq.may hp.may)
 have okb := okA_two hq.1 hp.1
 obtain ⟨k1, k2⟩ := none_pure (p := q) (q := p) (fun y hy ho => by
  obtain ⟨k, hk, rfl⟩ := ho
  have h1 := okb.1.2 k hk hy
  have h2 : k.name = ⟨#[88]⟩ ∨ k.name = ⟨#[89]⟩ := by simpa using h1
  rcases h2 with h2 | h2 <;> rw [h2] <;> simp) okb.2 okb.1.1 hq.2 hp.2 hRf
 have e := hs k1
 rcases k2 with h0 | ⟨_, hno⟩
 ·exact ⟨g, Rt, hRt, by rw [e]; exact h0⟩
 ·exact absurd (by rw [hσ]) (hno σ σ hv hv)
theorem un_swap {p q : Tm} (hp : Sm2 p) (hq : Sm2 q) : UnOk p q ↔ UnOk q p := ⟨un_turn hp hq, un_turn hq hp⟩
def leafW : Tm := ⟨⟨#[87]⟩, []⟩
theorem mt_leafW (x : Tm) : mtB leafW x = true := by
 have h : varB leafW.name = true := by decide
 unfold mtB mtT
 rw [if_pos h]
 simp [forT]
theorem may_leafW : mayE leafW = 0 := mayE_sm2 (by
 have h1 : nameB ⟨#[87]⟩ = true := by decide
 simp [leafW, errL, h1]) (by simp [leafW, sizeL])
theorem flI_all {k : Nat} {ts : List Tm} {t : Tm} (h : ∀ x ∈ ts, MetP k x t) : flI k ts t ts.length = List.range ts.length := by
 unfold flI
 rw [List.filter_eq_self]
 intro n hn
 have hn' : n < ts.length := by simpa using hn
 exact (metF_iff hn').2 (h _ (List.getElem_mem hn'))
theorem tld_leafW (ts : List Tm) : (tldI 1 ts leafW).length = ts.length := by
 unfold tldI
 rw [if_pos may_leafW, flI_all fun x _ => by show (if 1 = 0 then _ else _); rw [if_neg (by decide), if_pos rfl]; exact mt_leafW x]
 simp
theorem mem_flI {k n m : Nat} {ts : List Tm} {t : Tm} (h : n < m) : n ∈ flI k ts t m ↔ metF k ts t n = true := by
 unfold flI; simp [h]
theorem mem_tld {k n : Nat} {ts : List Tm} {t : Tm} (h0 : mayE t = 0) (h : n < ts.length) : ((n : Int) ∈ (tldI k ts t).map fun n : Nat => (n : Int)) ↔ MetP k ts[n] t := by
 rw [← metF_iff h, ← mem_flI (k := k) (ts := ts) (t := t) h]
 unfold tldI
 rw [if_pos h0, List.mem_map]
 constructor
 ·rintro ⟨m, hm, e⟩
  have : m = n := by omega
  rw [← this]; exact hm
 ·exact fun h => ⟨n, h, rfl⟩
end Go.Proofs.YtdebiiodhkcnkaaGreat
