/- Several texts in one. -/
import Derived.Test.YtkfppicbningaaaZBTopNoneOwn
import Derived.Test.YtkfppicbningaaaZTopNoneOwn
import Derived.Laws.EntriesVeiled
import Derived.Sort.Grow
import Derived.Maps.RangeRun
/- The run on two small terms: nothing becomes great: plain. -/
namespace Go.Proofs.Ytkfppicbningaaa
open Go.RowKit
set_option linter.unusedSimpArgs false
set_option linter.unusedVariables false

/-- Each side is one of these, with the bindings put in, and each binding stands for one. -/
def NI (P : List Tm) (s : List Bd) (l : List Pr) : Prop := (∀ e ∈ l, (∃ v ∈ P, onT s e.l = onT s v) ∧ ∃ v ∈ P, onT s e.r = onT s v) ∧ NClo P s
/-- These may be, and those below them are among them. -/
def NP (P : List Tm) : Prop := ∀ v ∈ P, errL [v] = 0 ∧ ∀ k ∈ v.args, k ∈ P
theorem np_pre {l : List Tm} (he : errL l = 0) : NP (preL l) := fun v hv => ⟨pre_err _ _ he hv, fun k hk => pre_pre l v k hv (by
  obtain ⟨n, a⟩ := v
  rw [preL_node]
  have : ∀ (a : List Tm), k ∈ a → k ∈ preL a := by
    intro a hk
    induction a with
    | nil => cases hk
    | cons x a ih =>
      obtain ⟨m, b⟩ := x
      rw [preL_node]
      rcases List.mem_cons.1 hk with rfl | hk
      · simp
      · simp [ih hk]
  simp [this a hk])⟩
theorem on_single {s : List Bd} {k : Tm} {r : List Tm} (h : onL s [k] = r) : [onT s k] = r := by
  rw [onL_cons] at h
  simpa [onL] using h
theorem onT_idem {s : List Bd} (ok : OkS s) {k : Tm} (he : errL [k] = 0) : onT s (onT s k) = onT s k := onT_id (ok.goneT he)
theorem onL_mem {s : List Bd} {k : Tm} : ∀ {l : List Tm}, k ∈ onL s l → ∃ k' ∈ l, k = onT s k'
  | [], h => by simp [onL] at h
  | x :: l, h => by
    rw [onL_cons] at h
    rcases List.mem_cons.1 h with rfl | h
    · exact ⟨x, by simp, rfl⟩
    · obtain ⟨k', h1, h2⟩ := onL_mem h
      exact ⟨k', by simp [h1], h2⟩
theorem nflat_err : ∀ {l : List Pr}, errL (flatP l) = 0 → ∀ e ∈ l, errL [e.l] = 0 ∧ errL [e.r] = 0
  | [], _, e, h => by cases h
  | p :: l, he, e, h => by
    rw [flatP] at he
    have h1 := err_two.1 he
    have h2 := err_two.1 h1.2
    rcases List.mem_cons.1 h with rfl | h
    · exact ⟨h1.1, h2.1⟩
    · exact nflat_err h2.2 e h
theorem ni_settle {P : List Tm} {s : List Bd} (hP : NP P) (ok : OkS s) (hc : NClo P s) {v : Tm} (hv : v ∈ P) : ∃ u ∈ P, onT s u = onT s v ∧ ∀ e ∈ s, e.nm ≠ u.name := by
  by_cases h : ∃ e ∈ s, e.nm = v.name
  · obtain ⟨e, he, hn⟩ := h
    obtain ⟨u, hu, h1, h2⟩ := hc e he
    refine ⟨u, hu, ?_, h2⟩
    rw [← h1, var_leaf (hP v hv).1 (by rw [← hn]; exact ok.vars e he), ← hn, onT_some (forT_of ok.1 he)]
  · exact ⟨v, hv, rfl, fun e he hn => h ⟨e, he, hn⟩⟩
theorem unbound_on {s : List Bd} {u : Tm} (he : errL [u] = 0) (hv : varB u.name = true) (h : ∀ e ∈ s, e.nm ≠ u.name) : onT s u = u := by
  rw [var_leaf he hv]
  rw [var_leaf he hv] at h
  refine onT_id fun e he2 ho => ?_
  rcases occL_node.1 ho with h1 | h1 | h1
  · exact h e he2 h1.symm
  · obtain ⟨k, hk, _⟩ := h1; simp [preL] at hk
  · obtain ⟨k, hk, _⟩ := h1; simp [preL] at hk
theorem ni_bind {P : List Tm} {s : List Bd} {l : List Pr} (hP : NP P) (ok : OkS s) (hl : ∀ e ∈ l, errL [e.l] = 0 ∧ errL [e.r] = 0) (n : NI P s l) {x : ByteArray} {t : Tm} (m : MayAdd s x t) {v : Tm} (hv : v ∈ P) (ht : t = onT s v) : NI P (addS s x t) l := by
  obtain ⟨m1, m2, m3, m4, m5⟩ := m
  have ok' := ok.add m1 m2 m3 m4 m5
  have step : ∀ {k : Tm}, errL [k] = 0 → onT (addS s x t) k = onT [⟨x, t⟩] (onT s k) := fun {k} he => by
    have h := add_on ok m1 m2 ok' [k] he
    rw [onL_cons, onL_cons, onL_cons] at h
    simpa [onL] using h
  have carry : ∀ {a b : Tm}, errL [a] = 0 → errL [b] = 0 → onT s a = onT s b → onT (addS s x t) a = onT (addS s x t) b := fun ha hb h => by rw [step ha, step hb, h]
  have hm : ∀ d, d ∈ addS s x t ↔ d ∈ s.map (putB x t) ++ [⟨x, t⟩] := fun d => (srtB_perm _).mem_iff
  have hnm : ∀ {y : ByteArray}, (∀ e ∈ s, e.nm ≠ y) → x ≠ y → ∀ e ∈ addS s x t, e.nm ≠ y := fun h1 h2 e he => by
    rcases List.mem_append.1 ((hm e).1 he) with he | he
    · obtain ⟨d, hd, rfl⟩ := List.mem_map.1 he
      exact h1 d hd
    · have e2 : e = ⟨x, t⟩ := by simpa using he
      subst e2
      exact h2
  obtain ⟨n1, n2⟩ := n
  obtain ⟨u, hu, e1, e2⟩ := ni_settle hP ok n2 hv
  have eu := (hP u hu).1
  have hxu : x ≠ u.name := fun h => by
    have h3 := unbound_on eu (by rw [← h]; exact m1) e2
    rw [e1, ← ht] at h3
    refine m5 ?_
    rw [h3, h]
    exact occ_self u
  have ht' : t = onT (addS s x t) u := by
    rw [step eu, e1, ← ht]
    refine (onT_id fun e he ho => m5 ?_).symm
    have e3 : e = ⟨x, t⟩ := by simpa using he
    subst e3
    exact ho
  refine ⟨fun e he => ?_, fun d hd => ?_⟩
  · obtain ⟨⟨a, ha, h1⟩, b, hb, h2⟩ := n1 e he
    exact ⟨⟨a, ha, carry (hl e he).1 (hP a ha).1 h1⟩, b, hb, carry (hl e he).2 (hP b hb).1 h2⟩
  · rcases List.mem_append.1 ((hm d).1 hd) with hd1 | hd1
    · obtain ⟨d0, h0, rfl⟩ := List.mem_map.1 hd1
      obtain ⟨w, hw, f1, f2⟩ := n2 d0 h0
      by_cases hxw : x = w.name
      · refine ⟨u, hu, ?_, hnm e2 hxu⟩
        have ew := (hP w hw).1
        have h3 := unbound_on ew (by rw [← hxw]; exact m1) f2
        rw [← ht']
        simp only [putB]
        rw [f1, h3, var_leaf ew (by rw [← hxw]; exact m1), ← hxw]
        exact onT_some (by simp [forT])
      · refine ⟨w, hw, ?_, hnm f2 hxw⟩
        rw [step (hP w hw).1, ← f1]
        rfl
    · have e3 : d = ⟨x, t⟩ := by simpa using hd1
      subst e3
      exact ⟨u, hu, ht', hnm e2 hxu⟩
theorem ni_below {P : List Tm} {s : List Bd} (hP : NP P) (ok : OkS s) (hc : NClo P s) {a v : Tm} (hv : v ∈ P) (ha : a = onT s v) (hs : varB a.name = false) : ∀ k ∈ a.args, ∃ w ∈ P, onT s k = onT s w := by
  intro k hk
  obtain ⟨u, hu, e1, e2⟩ := ni_settle hP ok hc hv
  obtain ⟨eu, bu⟩ := hP u hu
  have hsu : varB u.name = false := by
    cases h : varB u.name with
    | false => rfl
    | true =>
      have h3 := unbound_on eu h e2
      rw [ha, ← e1, h3, h] at hs
      cases hs
  have hau : a.args = onL s u.args := by
    rw [ha, ← e1]
    obtain ⟨n, b⟩ := u
    rw [onT_sym2 ok.vars hsu]
  rw [hau] at hk
  obtain ⟨w, hw, rfl⟩ := onL_mem hk
  exact ⟨w, bu w hw, onT_idem ok (hP w (bu w hw)).1⟩
theorem ni_step {P : List Tm} (hP : NP P) {V : List ByteArray} {h : List (ByteArray × Tm)} {p : Pr} {l : List Pr} (u : UI V h (p :: l)) (n : NI P (sAt h) (p :: l)) (hs : ∀ v ∈ P, sizeL [onT (sAt h) v] ≤ 2000) :
    (∀ e s', uPair false (sAt h) l (onT (sAt h) p.l) (onT (sAt h) p.r) = .stop e s' → e ≠ 8) ∧ ∀ s' l', uPair false (sAt h) l (onT (sAt h) p.l) (onT (sAt h) p.r) = .go s' l' → NI P s' l' := by
  have ok := u.good.all
  have hl := nflat_err u.drop.err
  obtain ⟨n1, n2⟩ := n
  have nl : NI P (sAt h) l := ⟨fun e he => n1 e (by simp [he]), n2⟩
  obtain ⟨⟨a, ha, ea⟩, b, hb, eb⟩ := n1 p (by simp)
  have sa := hs a ha
  have sb := hs b hb
  rw [← ea] at sa
  rw [← eb] at sb
  have hbv := fun x y => u.bindV (x := x) (t := y)
  generalize onT (sAt h) p.l = A at *
  generalize onT (sAt h) p.r = B at *
  have hbind : ∀ (x : ByteArray) (y w : Tm), varB x = true → ((x = A.name ∧ y = B) ∨ (x = B.name ∧ y = A)) → w ∈ P → y = onT (sAt h) w → (∀ e s', uBind false (sAt h) l x y = .stop e s' → e ≠ 8) ∧ ∀ s' l', uBind false (sAt h) l x y = .go s' l' → NI P s' l' := fun x y w hx hor hw hy => by
    unfold uBind
    by_cases ho : inB x (varsP [] (preL [y])) = true
    · rw [if_pos ho]
      exact ⟨fun e s' hh => (by cases hh; decide), fun s' l' hh => (by cases hh)⟩
    · rw [if_neg ho, if_neg (by simp)]
      refine ⟨fun e s' hh => (by cases hh), fun s' l' hh => ?_⟩
      cases hh
      exact ni_bind hP ok hl nl (hbv x y hx hor ho).1 hw hy
  unfold uPair
  rw [if_neg (by omega)]
  by_cases hva : varB A.name = true
  · rw [if_pos hva]
    by_cases hn : A.name = B.name
    · rw [if_pos hn]
      exact ⟨fun e s' hh => (by cases hh), fun s' l' hh => (by cases hh; exact nl)⟩
    · rw [if_neg hn]
      exact hbind _ _ b hva (Or.inl ⟨rfl, rfl⟩) hb eb
  rw [if_neg hva]
  by_cases hvb : varB B.name = true
  · rw [if_pos hvb]
    exact hbind _ _ a hvb (Or.inr ⟨rfl, rfl⟩) ha ea
  rw [if_neg hvb]
  by_cases hnl : A.name = B.name ∧ A.args.length = B.args.length
  · rw [if_pos hnl]
    refine ⟨fun e s' hh => (by cases hh), fun s' l' hh => ?_⟩
    cases hh
    refine ⟨fun e he => ?_, n2⟩
    rcases List.mem_append.1 he with he | he
    · obtain ⟨z1, z2⟩ := zip_mem he
      exact ⟨ni_below hP ok n2 ha ea (by simpa using hva) _ z1, ni_below hP ok n2 hb eb (by simpa using hvb) _ z2⟩
    · exact nl.1 e he
  · rw [if_neg hnl]
    exact ⟨fun e s' hh => (by cases hh; decide), fun s' l' hh => (by cases hh)⟩
theorem sAt_length (h : List (ByteArray × Tm)) : (sAt h).length = h.length := by
  have : ∀ (h : List (ByteArray × Tm)) (s : List Bd), (h.foldl (fun s p => addS s p.1 p.2) s).length = s.length + h.length := by
    intro h
    induction h with
    | nil => intro s; simp
    | cons p h ih =>
      intro s
      rw [List.foldl_cons, ih]
      have : (addS s p.1 p.2).length = s.length + 1 := by
        unfold addS
        rw [(srtB_perm _).length_eq]
        simp
      rw [this]
      simp only [List.length_cons]
      omega
  have h1 := this h []
  simpa [sAt] using h1
/-- Nothing becomes great. -/
theorem run_small {p q : Tm} (h2 : Ar2 [p, q]) (he : errL [p, q] = 0) (hp : sizeL [p] ≤ 17) (hq : sizeL [q] ≤ 17) {V : List ByteArray} (hV : V.length ≤ 3) : ∀ (n : Nat) (h : List (ByteArray × Tm)) (l : List Pr) (R : Int × List Bd), UI V h l → NI (preL [p, q]) (sAt h) l → uRun false n (sAt h) l = some R → R.1 ≠ 8 ∧ grtB R.2 = false
  | 0, h, l, R, u, ni, hr => by cases hr
  | n + 1, h, l, R, u, ni, hr => by
    have ok := u.good.all
    have hlen : (sAt h).length ≤ 3 := by rw [sAt_length]; have := u.hlen; omega
    have sm := clo_small h2 he hp hq ok hlen ni.2
    have hg : grtB (sAt h) = false := by
      unfold grtB
      rw [List.any_eq_false]
      intro d hd hc
      have hc : 2000 < sizeL [d.t] := of_decide_eq_true hc
      obtain ⟨w, hw, e1, _⟩ := ni.2 d hd
      have := sm w hw
      rw [← e1] at this
      omega
    cases l with
    | nil =>
      simp [uRun, uNext] at hr
      subst hr
      exact ⟨(by decide : (0 : Int) ≠ 8), hg⟩
    | cons e l =>
      rw [uRun, uNext_cons] at hr
      have st := ni_step (np_pre he) u ni sm
      cases hx : uPair false (sAt h) l (onT (sAt h) e.l) (onT (sAt h) e.r) with
      | stop c s' =>
        rw [hx] at hr
        have e2 : s' = sAt h := uNext_stop (lim := false) (l := e :: l) (e := c) (by rw [uNext_cons]; exact hx)
        simp at hr
        subst hr
        exact ⟨st.1 c s' hx, by rw [e2]; exact hg⟩
      | go s' l' =>
        rw [hx] at hr
        obtain ⟨h', rfl, u', _⟩ := (step_agr (t := []) (by simp) u).2 s' l' hx
        exact run_small h2 he hp hq hV n h' l' R u' (st.2 _ _ hx) hr
#print axioms run_small
end Go.Proofs.Ytkfppicbningaaa

/- Walks: what lies below a knot is filled by such a function. -/
namespace Go.Proofs.Ytkfppicbningaaa
open Go.RowKit
set_option linter.unusedSimpArgs false
set_option linter.unusedVariables false
set_option maxRecDepth 8000

/-- What stands beside the row. -/
def KlSet (Mt : Nat → Prop) (w : World) (F O : Nat) (s : ByteArray) (u : Value) (cF : Array Value) (wr : World) : Prop :=
  ExQ (fun b => b = F ∨ Mt b) w wr ∧ Blk wr (w.heap.size + 1) #[.string ⟨#[]⟩, .slice none 0 0] 28 ∧ Blk wr O #[.string s, u] 28 ∧ Blk wr F cF 102 ∧ O < wr.heap.size

theorem kl_set {Mt : Nat → Prop} {w wr w1 w3 : World} {F O : Nat} {s : ByteArray} {u v : Value} {cF cF' : Array Value} {o2 : Obj} (hFw : F < w.heap.size) (hM : ∀ b, Mt b → b < w.heap.size) (hO : w.heap.size + 2 ≤ O) (h : KlSet Mt w F O s u cF wr) (hu : ∀ k, u.ownBlock = some k → O + 1 ≤ k)
    (he1 : ExQ (fun b => b = F ∨ Mt b) wr w1) (hF1 : Blk w1 F cF' 102) (hg : (w1.alloc o2).grownBy w3 u.ownBlock) : KlSet Mt w F O s v cF' (w3.setCell ⟨O, 1, none⟩ v) := by
  obtain ⟨h1, h2, h3, h4, h5⟩ := h
  have hne : ∀ b, b < O + 1 → some b ≠ u.ownBlock := fun b hb e => by have := hu b e.symm; omega
  have hQ : ∀ b, w.heap.size ≤ b → ¬ (b = F ∨ Mt b) := fun b hb h => by
    rcases h with h | h
    · omega
    · have := hM b h; omega
  have hs1 := he1.size
  have hs3 := hg.size
  simp at hs3
  refine ⟨(((h1.trans he1).alloc o2).grown hg (fun k hk => Or.inl (by have := hu k hk; omega))).setNew (by omega) _ _, ?_, ?_, ?_, by simp [World.setCell]; omega⟩
  · exact (((h2.exq he1 (hQ _ (by omega))).alloc o2).grown hg (hne _ (by omega))).setOther _ _ (by omega)
  · exact (((h3.exq he1 (hQ _ (by omega))).alloc o2).grown hg (hne _ (by omega))).set 1 _
  · exact ((hF1.alloc o2).grown hg (hne _ (by omega))).setOther _ _ (by omega)

theorem kl_row {Q : Nat → Prop} {wr w1 w3 : World} {O : Nat} {u : Value} {L : List Tm} {xs : List Value} {o2 : Obj} {s' : ByteArray} {a1 : Option Addr} {n1 c1 g cap : Nat} {t : Tm} (hQ : ∀ b, Q b → b < O) (hOr : O < wr.heap.size) (hrow : Row wr (O + 1) 28 (fun _ => False) u L xs)
    (he1 : ExQ Q wr w1) (ht : TV w1 (fun b => wr.heap.size ≤ b) (.agg #[.string s', .slice a1 n1 c1]) t)
    (hown : w3.ownsRow (O + 1) 28 2 (.slice (some ⟨g, 0, none⟩) (L.length + 1) cap) (L.length + 1) (xs ++ [.string s', .slice a1 n1 c1])) (hg : (w1.alloc o2).grownBy w3 u.ownBlock) (hat : u.ownBlock = some g ∨ g = (w1.alloc o2).heap.size) :
    Row (w3.setCell ⟨O, 1, none⟩ (.slice (some ⟨g, 0, none⟩) (L.length + 1) cap)) (O + 1) 28 (fun _ => False) (.slice (some ⟨g, 0, none⟩) (L.length + 1) cap) (L ++ [t]) (xs ++ [.string s', .slice a1 n1 c1]) := by
  obtain ⟨wm, hbm, hsm, hem⟩ := he1.mid
  have hrm := hrow.exq hem (fun b hb => by have := hQ b hb; omega) (fun _ _ h => h)
  exact (hrm.push (w1 := w1) (w2 := w1.alloc o2) (w3 := w3) (by omega) (fun _ h => h.elim) hbm (ht.mono fun b h _ => Or.inr (by omega)) o2 rfl hown hg hat).setCell (by omega) (fun h => h) _

/-- What is known midway. -/
def KlE (E : Ev) (O : Nat) (f : Bool) (Y : Nat → Prop) (u : Value) (f' : Bool) (Y' : Nat → Prop) (wr : World) : Prop :=
  E f' Y' wr ∧ (∀ b, Y' b → Y b ∨ O + 1 ≤ b) ∧ (∀ b, Y' b → some b ≠ u.ownBlock) ∧ (f = true → f' = true)
def KlInv (E : Ev) (Mt : Nat → Prop) (lk : ByteArray → Option Tm) (w : World) (F O : Nat) (s : ByteArray) (sv : Value) (l : List Tm) (n : Nat) (f : Bool) (Y : Nat → Prop) (i : Value) (wr : World) : Prop :=
  ∃ (k : Nat) (u : Value) (f' : Bool) (Y' : Nat → Prop), k ≤ l.length ∧ i = .int .i64 (k : Int) ∧ KlE E O f Y u f' Y' wr ∧
    ((∃ (m : Nat) (xs : List Value) (Mk : List Tm), Mk.length = k ∧ (m : Int) = (n : Int) - 1 - sizeL Mk ∧ KlSet Mt w F O s u #[.int .i64 (m : Int), sv] wr ∧ Row wr (O + 1) 28 (fun _ => False) u Mk xs ∧ (f' = false → Mk = gL lk (l.take k))) ∨
     (KlSet Mt w F O s u #[.int .i64 (-1), sv] wr ∧ (∃ a9 l9 c9, u = .slice a9 l9 c9) ∧ (f' = false → n < 1 + sizeL (gL lk l))))

theorem kl_ev {E : Ev} {Mt : Nat → Prop} (hE : EvOk E Mt) {O : Nat} {f f' f1 : Bool} {Y Y' Y1 : Nat → Prop} {u : Value} {wr w1 w3 : World} {o2 : Obj} {g cap n9 : Nat} {x : Value} (hYw : ∀ b, Y b → b < O) (h : KlE E O f Y u f' Y' wr) (hu : ∀ k, u.ownBlock = some k → k < wr.heap.size) (hOr : O < wr.heap.size) (hsz : wr.heap.size ≤ w1.heap.size)
    (hE1 : E f1 Y1 w1) (hsub : ∀ b, Y1 b → Y' b ∨ wr.heap.size ≤ b) (hff : f' = true → f1 = true) (hg : (w1.alloc o2).grownBy w3 u.ownBlock) (hat : u.ownBlock = some g ∨ g = (w1.alloc o2).heap.size) :
    KlE E O f Y (.slice (some ⟨g, 0, none⟩) n9 cap) f1 Y1 (w3.setCell ⟨O, 1, none⟩ x) := by
  obtain ⟨h1, h2, h3, h4⟩ := h
  have hin := hE.inY _ _ _ hE1
  have hno : ∀ b, Y1 b → some b ≠ u.ownBlock := fun b hb e => by
    rcases hsub b hb with h | h
    · exact h3 b h e
    · have := hu b e.symm; omega
  have hsb : ∀ b, Y1 b → Y b ∨ O + 1 ≤ b := fun b hb => by
    rcases hsub b hb with h | h
    · exact h2 b h
    · right; omega
  refine ⟨hE.keep _ _ _ _ hE1 fun b hb => ?_, hsb, fun b hb e => ?_, fun h => hff (h4 h)⟩
  · have hbO : b ≠ O := fun e => by
      rcases hsb b hb with h | h
      · have := hYw b h; omega
      · omega
    have hbl := hin b hb
    rw [Below.heap_setCell _ _ _ _ (by simpa using hbO), hg.block b (by simp; omega) (hno b hb), Below.heap_alloc _ _ _ hbl]
  · have e2 : b = g := by simpa [Value.ownBlock] using e
    subst e2
    rcases hat with h | h
    · exact hno b hb h.symm
    · have := hin b hb; simp at h; omega

theorem kl_end {E : Ev} {Mt : Nat → Prop} (hE : EvOk E Mt) {w wr : World} {F O : Nat} {s : ByteArray} {u sv : Value} {tgt : Tm} {n : Nat} {f f' : Bool} {Y Y' : Nat → Prop} {a' : Option Addr} {l' c' : Nat} {m : Int} {v0 v1 : Value} (hF : F < w.heap.size) (hY : ∀ b, Y b → b < w.heap.size) (hO : w.heap.size + 2 ≤ O)
    (h1 : KlSet Mt w F O s u #[.int .i64 m, sv] wr) (h2 : KlE E O f Y u f' Y' wr) (hc : FlC w tgt n f' s a' l' m 2 wr) :
    FlPost E Mt F sv tgt n f Y w (.returned (.agg #[.string s, .slice a' l' c'])) ((wr.setCell ⟨w.heap.size + 1, 0, none⟩ v0).setCell ⟨w.heap.size + 1, 1, none⟩ v1) :=
  fl_end hE hF hY h1.2.2.2.1 h1.1 h2.1 (fun b hb => (h2.2.1 b hb).imp id fun h => by omega) h2.2.2.2 hc
theorem fl_alloc {E : Ev} {Mt : Nat → Prop} (hE : EvOk E Mt) {w w' : World} {F : Nat} {sv : Value} {tgt : Tm} {n : Nat} {f : Bool} {Y : Nat → Prop} {e : Ending} (h : FlPost E Mt F sv tgt n f Y w e w') (o : Obj) : FlPost E Mt F sv tgt n f Y w e (w'.alloc o) := by
  obtain ⟨s', a', l', c', m, f', Y', he, h1, h2, h3, h4, h5, h6⟩ := h
  refine ⟨s', a', l', c', m, f', Y', he, h1.alloc o, h2.alloc o, hE.below h3 ((Below.refl _ _).alloc (Nat.le_refl _) o), h4, h5, ?_⟩
  rcases h6 with ⟨y, e1, e2, e3, e4, e5, e6⟩ | h6
  · exact Or.inl ⟨y, e1, e2, e3, e4, e5.later ((Below.refl _ _).alloc (Nat.le_refl _) o), e6⟩
  · exact Or.inr h6
theorem occ_get {nm : ByteArray} {l : List Tm} {k : Nat} (h : k < l.length) (ho : occL nm [l[k]]) : occL nm l := by
  have : l = l.take k ++ (l[k] :: l.drop (k + 1)) := by rw [List.getElem_cons_drop, List.take_append_drop]
  rw [this, occL_append, occL_cons]
  exact Or.inr (Or.inl ho)

set_option maxHeartbeats 1000000 in
theorem knotL_any {E : Ev} {Mt : Nat → Prop} (hE : EvOk E Mt) (F S : Nat) (lk : ByteArray → Option Tm) (t : Tm) : ∀ (n : Nat) (v : Value) (w : World) (X Y : Nat → Prop) (f : Bool), TV w X v t → (∀ b, X b → b ≠ F ∧ ¬ Mt b) → n ≤ 1000000 → Blk w F #[.int .i64 (n : Int), sV S] 102 → E f Y w → ¬ Y F → (∀ nm, occL nm t.args → varB nm = true → LkC E Mt S (lk nm) nm) →
    Calls Try.prog 92 #[.pointer (some ⟨F, 0, none⟩), v, .func (.func 75) #[.pointer (some ⟨F, 0, none⟩)] #[]] w fun e w' => FlPost E Mt F (sV S) ⟨t.name, gL lk t.args⟩ n f Y w e w' := by
  induction t using Tm.ind with
  | h s l ih =>
    intro n v w X Y f hv hXF hn hF hEv hYF hL
    obtain ⟨a, c, rfl, hs⟩ := hv
    dsimp only
    have HYW : Hid (∀ b, Y b → b < w.heap.size) := hE.inY _ _ _ hEv
    have HMT : Hid (∀ b, Mt b → b < w.heap.size) := fun b hb => HYW.out b (hE.mt _ _ _ hEv b hb)
    have HL := hide hL
    have HEV := hide hEv
    clear hL hEv
    generalize hsv : sV S = sv at *
    have IH := hide ih
    clear ih
    obtain ⟨i0, hi0, hz0, hz1, hz2⟩ := info_parts Try.infoTerm
    have f0 : ∀ o, (w.alloc o).cell? ⟨F, 0, none⟩ = some (.int .i64 (n : Int)) := fun o => (hF.alloc o).cell 0
    have ff : ∀ o, (w.alloc o).frozen? ⟨F, 0, none⟩ = false := fun o => (hF.alloc o).frozen 0
    have hFl : F < w.heap.size := hF.lt
    go_enter Try.func92, Try.ntmps92
    go_wp2_with fail
    have E3 : Hid (KlSet Mt w F (w.heap.size + 1 + 1) s (.slice none 0 0) #[.int .i64 ((n : Int) - 1), sv] ((((w.setCell ⟨F, 0, none⟩ (.int .i64 ((n : Int) - 1))).alloc (.cells #[.string s, .slice a l.length c] 28)).alloc (.cells #[.string ⟨#[]⟩, .slice none 0 0] 28)).alloc (.cells #[.string s, .slice none 0 0] 28))) := by
      refine ⟨((((ExQ.refl _ w).set (Or.inl rfl) 0 _).alloc _).alloc _).alloc _, ?_, ?_, (((hF.set 0 _).alloc _).alloc _).alloc _, by simp [World.setCell]⟩
      · have h := (Blk.new ((w.setCell ⟨F, 0, none⟩ (.int .i64 ((n : Int) - 1))).alloc (.cells #[.string s, .slice a l.length c] 28)) #[.string ⟨#[]⟩, .slice none 0 0] 28).alloc (.cells #[.string s, .slice none 0 0] 28)
        simpa [World.setCell] using h
      · have h := Blk.new (((w.setCell ⟨F, 0, none⟩ (.int .i64 ((n : Int) - 1))).alloc (.cells #[.string s, .slice a l.length c] 28)).alloc (.cells #[.string ⟨#[]⟩, .slice none 0 0] 28)) #[.string s, .slice none 0 0] 28
        simpa [World.setCell] using h
    have EV3 : Hid (KlE E (w.heap.size + 1 + 1) f Y (.slice none 0 0) f Y ((((w.setCell ⟨F, 0, none⟩ (.int .i64 ((n : Int) - 1))).alloc (.cells #[.string s, .slice a l.length c] 28)).alloc (.cells #[.string ⟨#[]⟩, .slice none 0 0] 28)).alloc (.cells #[.string s, .slice none 0 0] 28))) := by
      refine ⟨hE.keep _ _ _ _ HEV.out fun b hb => ?_, fun b hb => Or.inl hb, fun b _ e => by simp [Value.ownBlock] at e, fun h => h⟩
      have h1 := HYW.out b hb
      rw [Below.heap_alloc _ _ _ (by simp [World.setCell]; omega), Below.heap_alloc _ _ _ (by simp [World.setCell]; omega), Below.heap_alloc _ _ _ (by simpa [World.setCell] using h1), Below.heap_setCell _ _ _ _ (by simp; intro e; subst e; exact hYF hb)]
    generalize ((((w.setCell ⟨F, 0, none⟩ (.int .i64 ((n : Int) - 1))).alloc (.cells #[.string s, .slice a l.length c] 28)).alloc (.cells #[.string ⟨#[]⟩, .slice none 0 0] 28)).alloc (.cells #[.string s, .slice none 0 0] 28)) = w3 at *
    generalize hOe : w.heap.size + 1 + 1 = O at *
    have hO : w.heap.size + 2 ≤ O := by omega
    clear hOe
    clear f0 ff
    have HS := hide hs
    have hl := hs.1
    have HXF := hide hXF
    clear hs hXF
    have HQ : Hid (∀ b, w.heap.size ≤ b → ¬ (b = F ∨ Mt b)) := fun b hb h => by
      rcases h with h | h
      · omega
      · have := HMT.out b h; omega
    go_loopw [23] (fun i wr => KlInv E Mt lk w F O s sv l n f Y i wr) (fun i wr => l.length - (intOf i).toNat)
    case atStart =>
      refine ⟨0, .slice none 0 0, f, Y, Nat.zero_le _, rfl, EV3.out, ?_⟩
      by_cases hn0 : n = 0
      · subst hn0
        exact Or.inr ⟨E3.out, ⟨none, 0, 0, rfl⟩, fun _ => by omega⟩
      · refine Or.inl ⟨n - 1, [], [], rfl, by simp [sizeL]; omega, ?_, Row.start _ _ _ _, fun _ => by simp [gL]⟩
        rw [show ((n - 1 : Nat) : Int) = (n : Int) - 1 by omega]
        exact E3.out
    case round =>
      obtain ⟨k, u, f', Y', hk, rfl, hev, hcase⟩ := hrel
      have EV := hide hev
      clear hev
      rcases hcase with ⟨m, xs, Mk, hMk, hm, hset, hrow, hgd⟩ | ⟨hset, ⟨a9, l9, c9, rfl⟩, hbig⟩
      · have XS := hide hset
        have XW := hide hrow
        have HMM := hide hm
        have HGD := hide hgd
        clear hset hrow hgd
        by_cases hlt : k < l.length
        · obtain ⟨b, o, a', c', rfl, d0, d1, hx⟩ := (HS.out.exq XS.out.1 (fun b hb h => by rcases h with h | h; exact (HXF.out b hb).1 h; exact (HXF.out b hb).2 h)).get (Below.refl _ _) (fun _ _ h => h) k hlt
          obtain ⟨av, cv, ev, hsx⟩ := hx
          simp at ev
          obtain ⟨rfl, rfl⟩ := ev
          have hmn : m ≤ 1000000 := by omega
          have hOF : ¬ (O = F ∨ Mt O) := HQ.out O (by omega)
          have HQO : Hid (∀ b, (b = F ∨ Mt b) → b < O) := fun b h => by
            rcases h with h | h
            · omega
            · have := HMT.out b h; omega
          have hkn : k ≤ 1000000 := by have h1 := sizeL_len Mk; rw [hMk] at h1; omega
          have HL1 : Hid (Mk.length + 1 ≤ maxLen ∧ (Mk.length + 1) * 40 ≤ 140737488355328) := by unfold Hid; rw [hMk]; exact ⟨by unfold maxLen; omega, by omega⟩
          have hY'F : ¬ Y' F := fun h => by
            rcases EV.out.2.1 F h with h1 | h1
            · exact hYF h1
            · omega
          have IHQ : Hid (Calls Try.prog 75 #[.pointer (some ⟨F, 0, none⟩), .agg #[.string l[k].name, .slice a' l[k].args.length c']] (wr.alloc (.cells #[.string l[k].name, .slice a' l[k].args.length c'] 28)).drew fun e w'' => FlPost E Mt F sv (gT lk l[k]) m f' Y' (wr.alloc (.cells #[.string l[k].name, .slice a' l[k].args.length c'] 28)).drew e w'') := by
            have hB1 : Below wr.heap.size wr (wr.alloc (.cells #[.string l[k].name, .slice a' l[k].args.length c'] 28)).drew := ((Below.refl _ _).alloc (Nat.le_refl _) _).drew
            have hEr : E f' Y' (wr.alloc (.cells #[.string l[k].name, .slice a' l[k].args.length c'] 28)).drew := hE.below EV.out.1 hB1
            have hFr : Blk (wr.alloc (.cells #[.string l[k].name, .slice a' l[k].args.length c'] 28)).drew F #[.int .i64 (m : Int), sv] 102 := (XS.out.2.2.2.1.alloc _).drewN 1
            have hSr : Sl (wr.alloc (.cells #[.string l[k].name, .slice a' l[k].args.length c'] 28)).drew X a' l[k].args := hsx.later hB1
            have IH2 := IH.out l[k] (List.getElem_mem hlt) m
            clear HMM XS XW
            subst hsv
            refine ffillL_of hE F S lk l[k] m a' c' _ X Y' f' hmn HXF.out hY'F hSr hFr hEr (fun hv => HL.out _ (occ_get hlt ?_) hv) (fun w' f2 Y2 h1 h2 h3 h4 => IH2 _ w' X Y2 f2 ⟨a', c', rfl, h1⟩ HXF.out hmn h2 h3 h4 (fun nm ho hv => HL.out nm (occ_get hlt ?_) hv))
            · generalize l[k] = y
              obtain ⟨n1, k1⟩ := y
              exact occL_node.2 (Or.inl rfl)
            · generalize l[k] = y at ho ⊢
              obtain ⟨n1, k1⟩ := y
              exact occL_node.2 (Or.inr (Or.inl ho))
          have f0 : ∀ o, (wr.alloc o).cell? ⟨F, 0, none⟩ = some (.int .i64 (m : Int)) := fun o => (XS.out.2.2.2.1.alloc o).cell 0
          have o1 : ∀ o, (wr.alloc o).cell? ⟨O, 1, none⟩ = some u := fun o => (XS.out.2.2.1.alloc o).cell 1
          have hm0 : ¬ (m : Int) < 0 := by omega
          go_wp2_with fail
          go_region_law (first
            | (go_simp; go_at_call 75; refine IHQ.out.mono ?_; rintro e w1 ⟨s1, a1, l1, c1, m1, f1, Y1, rfl, hF1, he0, hE1, hsub1, hff1, hc1⟩; have he1 := (((ExQ.refl (fun b => b = F ∨ Mt b) wr).alloc (.cells #[.string l[k].name, .slice a' l[k].args.length c'] 28)).drew).trans he0; have HSUB := hide hsub1; have HFF := hide hff1; have HC1 := hide hc1; have HE1 := hide hE1; clear he0 hsub1 hff1 hc1 hE1; have hc3 : ∀ o, (w1.alloc o).cell? ⟨O, 1, none⟩ = some u := fun o => ((Blk.exq XS.out.2.2.1 he1 hOF).alloc o).cell 1; have hc4 : w1.cell? ⟨O, 1, none⟩ = some u := (Blk.exq XS.out.2.2.1 he1 hOF).cell 1)
            | (refine step_append_lies _ rfl _ _ 26 rfl (O + 1) 28 i0 _ 2 40 Try.underlying26 hi0 hz0 hz1 hz2 rfl (by decide) u Mk.length xs rfl (by exact (Row.exq XW.out he1 (fun b hb => by have := HQO.out b hb; omega) (fun _ _ h => h)).own.alloc _) ⟨w1.heap.size, 0, none⟩ 1 1 [.string s1, .slice a1 l1 c1] rfl rfl (cell_two_new _ _ _ _) (fun x hx => by simp at hx; rcases hx with rfl | rfl <;> rfl) (by decide) HL1.out.1 HL1.out.2 (by have := he1.size; have := XS.out.2.2.2.2; simp; omega) _ rfl ?_; intro g cap w3 hown3 hgrow3 hat3 hlt3; have hB3 := hide (((Blk.exq XS.out.2.2.1 he1 hOF).alloc _).grown hgrow3 (XW.out.ne (Nat.lt_succ_self _))); have hc5 : w3.cell? ⟨O, 1, none⟩ = some u := hB3.out.cell 1; have hf5 := hB3.out.frozen 1))
          all_goals
            have HK := hide (kl_set (v := .slice (some ⟨g, 0, none⟩) (Mk.length + 1) cap) hFl HMT.out hO XS.out (fun j hj => (XW.out.own.lt j hj).1) he1 hF1 hgrow3)
            have HEV2 := hide (kl_ev (n9 := Mk.length + 1) (cap := cap) (x := .slice (some ⟨g, 0, none⟩) (Mk.length + 1) cap) hE (fun b hb => by have := HYW.out b hb; omega) EV.out (fun j hj => (XW.out.own.lt j hj).2) XS.out.2.2.2.2 he1.size HE1.out (fun b hb => (HSUB.out b hb).imp id fun h => by simp at h; omega) HFF.out hgrow3 hat3)
            have HRW : Hid (∀ y : Tm, TV w1 (fun b => wr.heap.size ≤ b) (.agg #[.string s1, .slice a1 l1 c1]) y → Row (w3.setCell ⟨O, 1, none⟩ (.slice (some ⟨g, 0, none⟩) (Mk.length + 1) cap)) (O + 1) 28 (fun _ => False) (.slice (some ⟨g, 0, none⟩) (Mk.length + 1) cap) (Mk ++ [y]) (xs ++ [.string s1, .slice a1 l1 c1])) := fun y hy => kl_row HQO.out XS.out.2.2.2.2 XW.out he1 hy hown3 hgrow3 hat3
            clear hown3 hgrow3 hat3 hc3 hc4 hc5 hf5 hB3 hF1 he1 hlt3
            go_wp2_with fail
            go_roundw
            case rel =>
              have h1 := HK.out
              have h2 := HRW.out
              have h3 := HEV2.out
              have hmm := HMM.out
              simp only [hMk] at h1 h2 h3
              refine ⟨k + 1, .slice (some ⟨g, 0, none⟩) (k + 1) cap, f1, Y1, by omega, by go_num, h3, ?_⟩
              have hgl : gL lk (l.take (k + 1)) = gL lk (l.take k) ++ [gT lk l[k]] := by rw [List.take_succ_eq_append_getElem hlt, gL_append]; simp [gL_map]
              have hf1 : f1 = false → f' = false := fun hf => by
                cases h : f' with
                | false => rfl
                | true => have := HFF.out h; rw [hf] at this; cases this
              rcases HC1.out with ⟨y, rfl, rfl, rfl, e4, e5, e6⟩ | ⟨rfl, e2⟩
              · refine Or.inl ⟨m - sizeL [y], xs ++ [.string y.name, .slice a1 y.args.length c1], Mk ++ [y], by simp [hMk], by rw [sizeL_append]; omega, ?_, h2 y ⟨a1, c1, rfl, e5.mono fun b hb _ => by simp at hb; omega⟩, fun hf => by rw [hgl, HGD.out (hf1 hf), e6 hf]⟩
                rw [show ((m - sizeL [y] : Nat) : Int) = (m : Int) - sizeL [y] by omega]
                exact h1
              · refine Or.inr ⟨h1, ⟨_, _, _, rfl⟩, fun hf => ?_⟩
                have h4 := e2 hf
                have h5 := HGD.out (hf1 hf)
                have h6 : sizeL (gL lk (l.take (k + 1))) = sizeL Mk + sizeL [gT lk l[k]] := by rw [hgl, sizeL_append, h5]
                have h7 : gL lk l = gL lk (l.take (k + 1)) ++ gL lk (l.drop (k + 1)) := by rw [← gL_append, List.take_append_drop]
                rw [h7, sizeL_append]
                omega
            case measure => simp [intOf]; omega
        · have htk : l.take k = l := List.take_of_length_le (by omega)
          rw [htk] at HGD
          obtain ⟨a9, c9, hu9, hsl9⟩ := XW.out.sl
          subst hu9
          have S9 := hide hsl9
          clear hsl9
          have r0 : wr.cell? ⟨w.heap.size + 1, 0, none⟩ = some (.string ⟨#[]⟩) := XS.out.2.1.cell 0
          have r1 : wr.cell? ⟨w.heap.size + 1, 1, none⟩ = some (.slice none 0 0) := XS.out.2.1.cell 1
          have rf := XS.out.2.1.frozen
          have o0 : wr.cell? ⟨O, 0, none⟩ = some (.string s) := XS.out.2.2.1.cell 0
          have o1 : wr.cell? ⟨O, 1, none⟩ = some (.slice a9 Mk.length c9) := XS.out.2.2.1.cell 1
          go_wp2_with fail
          refine bodyPost_ret (v := .agg #[.string s, .slice a9 Mk.length c9]) (by simp [results, Try.results92, go_sem, World.cell?_setCell_same, World.cell?_setCell_other, r0, r1, hMk]) rfl ?_
          have hmm := HMM.out
          have hzy : sizeL [(⟨s, Mk⟩ : Tm)] = 1 + sizeL Mk := by simp [sizeL]
          refine kl_end hE hFl HYW.out hO XS.out EV.out (Or.inl ⟨⟨s, Mk⟩, rfl, rfl, by rw [hzy]; omega, by rw [hzy]; omega, S9.out.mono fun b hb _ => ?_, fun hf => by rw [HGD.out hf]⟩)
          have hb' : O + 1 ≤ b := hb.elim False.elim id
          omega
      · have XS := hide hset
        have HBIG := hide hbig
        clear hset hbig
        have hzt : sizeL [(⟨s, gL lk l⟩ : Tm)] = 1 + sizeL (gL lk l) := by simp [sizeL]
        have f0 : ∀ o, (wr.alloc o).cell? ⟨F, 0, none⟩ = some (.int .i64 (-1)) := fun o => (XS.out.2.2.2.1.alloc o).cell 0
        by_cases hlt : k < l.length
        · obtain ⟨b, o, a', c', rfl, d0, d1, hx⟩ := (HS.out.exq XS.out.1 (fun b hb h => by rcases h with h | h; exact (HXF.out b hb).1 h; exact (HXF.out b hb).2 h)).get (Below.refl _ _) (fun _ _ h => h) k hlt
          clear hx
          have o0 : ∀ o, (wr.alloc o).cell? ⟨O, 0, none⟩ = some (.string s) := fun o => (XS.out.2.2.1.alloc o).cell 0
          have o1 : ∀ o, (wr.alloc o).cell? ⟨O, 1, none⟩ = some (.slice a9 l9 c9) := fun o => (XS.out.2.2.1.alloc o).cell 1
          have r0 : wr.cell? ⟨w.heap.size + 1, 0, none⟩ = some (.string ⟨#[]⟩) := XS.out.2.1.cell 0
          have r1 : wr.cell? ⟨w.heap.size + 1, 1, none⟩ = some (.slice none 0 0) := XS.out.2.1.cell 1
          have rf := XS.out.2.1.frozen
          have hRl : w.heap.size + 1 < wr.heap.size := XS.out.2.1.lt
          go_wp2_with fail
          refine bodyPost_ret (v := .agg #[.string s, .slice a9 l9 c9]) (by simp [results, Try.results92, go_sem, World.cell?_setCell_same, World.cell?_setCell_other, r0, r1, hRl, World.cell?_alloc_old]) rfl ?_
          exact fl_alloc hE (kl_end hE hFl HYW.out hO XS.out EV.out (Or.inr ⟨rfl, fun hf => by rw [hzt]; exact HBIG.out hf⟩)) _
        · have r0 : wr.cell? ⟨w.heap.size + 1, 0, none⟩ = some (.string ⟨#[]⟩) := XS.out.2.1.cell 0
          have r1 : wr.cell? ⟨w.heap.size + 1, 1, none⟩ = some (.slice none 0 0) := XS.out.2.1.cell 1
          have rf := XS.out.2.1.frozen
          have o0 : wr.cell? ⟨O, 0, none⟩ = some (.string s) := XS.out.2.2.1.cell 0
          have o1 : wr.cell? ⟨O, 1, none⟩ = some (.slice a9 l9 c9) := XS.out.2.2.1.cell 1
          go_wp2_with fail
          refine bodyPost_ret (v := .agg #[.string s, .slice a9 l9 c9]) (by simp [results, Try.results92, go_sem, World.cell?_setCell_same, World.cell?_setCell_other, r0, r1]) rfl ?_
          exact kl_end hE hFl HYW.out hO XS.out EV.out (Or.inr ⟨rfl, fun hf => by rw [hzt]; exact HBIG.out hf⟩)
#print axioms knotL_any
end Go.Proofs.Ytkfppicbningaaa

/- Walks: Fill by such a function. -/
namespace Go.Proofs.Ytkfppicbningaaa
open Go.RowKit
set_option linter.unusedSimpArgs false
set_option linter.unusedVariables false
set_option maxRecDepth 8000

theorem ffillL_any {E : Ev} {Mt : Nat → Prop} (hE : EvOk E Mt) (F S : Nat) (lk : ByteArray → Option Tm) (t : Tm) (n : Nat) (a : Option Addr) (c : Nat) (w : World) (X Y : Nat → Prop) (f : Bool) (hn : n ≤ 1000000) (hXF : ∀ b, X b → b ≠ F ∧ ¬ Mt b) (hYF : ¬ Y F) (hs : Sl w X a t.args) (hF : Blk w F #[.int .i64 (n : Int), sV S] 102) (hEv : E f Y w)
    (hL : ∀ nm, occL nm [t] → varB nm = true → LkC E Mt S (lk nm) nm) :
    Calls Try.prog 75 #[.pointer (some ⟨F, 0, none⟩), .agg #[.string t.name, .slice a t.args.length c]] w fun e w' => FlPost E Mt F (sV S) (gT lk t) n f Y w e w' :=
  ffillL_of hE F S lk t n a c w X Y f hn hXF hYF hs hF hEv (fun hv => hL _ (by obtain ⟨s, l⟩ := t; exact occL_node.2 (Or.inl rfl)) hv)
    (fun w' f' Y' h1 h2 h3 h4 => knotL_any hE F S lk t n _ w' X Y' f' ⟨a, c, rfl, h1⟩ hXF hn h2 h3 h4 (fun nm ho hv => hL nm (by obtain ⟨s, l⟩ := t; exact occL_node.2 (Or.inr (Or.inl ho))) hv))

/-- What Fill gives. -/
def FiPost (E : Ev) (Mt : Nat → Prop) (tgt : Tm) (n : Nat) (f : Bool) (Y : Nat → Prop) (w : World) (e : Ending) (w' : World) : Prop :=
  ∃ (s' : ByteArray) (a' : Option Addr) (l' c' : Nat) (ok : Bool) (f' : Bool) (Y' : Nat → Prop), e = .returned (.tuple #[.agg #[.string s', .slice a' l' c'], .bool ok]) ∧ E f' Y' w' ∧ (∀ b, Y' b → Y b ∨ w.heap.size ≤ b) ∧ (f = true → f' = true) ∧ ExQ Mt w w' ∧
    ((ok = true ∧ ∃ y : Tm, s' = y.name ∧ l' = y.args.length ∧ sizeL [y] ≤ n ∧ Sl w' (fun b => w.heap.size ≤ b) a' y.args ∧ (f' = false → y = tgt)) ∨ (ok = false ∧ s' = ⟨#[]⟩ ∧ a' = none ∧ l' = 0 ∧ c' = 0 ∧ (f' = false → n < sizeL [tgt])))

set_option maxHeartbeats 1000000 in
theorem fillL_any {E : Ev} {Mt : Nat → Prop} (hE : EvOk E Mt) (S : Nat) (lk : ByteArray → Option Tm) (t : Tm) (n : Nat) (a : Option Addr) (c : Nat) (w : World) (X Y : Nat → Prop) (f : Bool) (hn : n ≤ 1000000) (hXM : ∀ b, X b → ¬ Mt b) (hs : Sl w X a t.args) (hEv : E f Y w)
    (hL : ∀ nm, occL nm [t] → varB nm = true → LkC E Mt S (lk nm) nm) :
    Calls Try.prog 50 #[.agg #[.string t.name, .slice a t.args.length c], .int .i64 (n : Int), sV S] w fun e w' => FiPost E Mt (gT lk t) n f Y w e w' := by
  have hmf : ∀ (fn : Fn) (first cap : Array Value) (w : World), (Instr.makeFunc fn first cap).run Try.prog w = .ok (.func fn first cap) w := fun _ _ _ _ => rfl
  have HS := hide (hs.mono (Y := fun b => X b ∧ b < w.heap.size) fun b h1 h2 => ⟨h1, h2⟩)
  have HE := hide hEv
  have HL := hide hL
  have HXM := hide hXM
  have HYW : Hid (∀ b, Y b → b < w.heap.size) := hE.inY _ _ _ hEv
  have HMT : Hid (∀ b, Mt b → b < w.heap.size) := fun b hb => HYW.out b (hE.mt _ _ _ hEv b hb)
  clear hs hEv hL hXM
  have HSV : Hid (sV S = .func (.func 127) #[.pointer (some ⟨S, 0, none⟩)] #[]) := rfl
  rw [HSV.out]
  go_enter Try.func50, Try.ntmps50
  go_wp2_with fail
  rw [← HSV.out]
  have HB3 : Hid (Below w.heap.size w (((w.alloc (.cells #[.string t.name, .slice a t.args.length c] 28)).alloc (.cells #[.string ⟨#[]⟩, .slice none 0 0] 28)).alloc (.cells #[.int .i64 (n : Int), sV S] 102))) := ((((Below.refl w.heap.size w).alloc (Nat.le_refl _) _).alloc (by simp) _).alloc (by simp; omega) _)
  have F3 : Hid (Blk (((w.alloc (.cells #[.string t.name, .slice a t.args.length c] 28)).alloc (.cells #[.string ⟨#[]⟩, .slice none 0 0] 28)).alloc (.cells #[.int .i64 (n : Int), sV S] 102)) (w.heap.size + 1 + 1) #[.int .i64 (n : Int), sV S] 102) := by
    have h := Blk.new ((w.alloc (.cells #[.string t.name, .slice a t.args.length c] 28)).alloc (.cells #[.string ⟨#[]⟩, .slice none 0 0] 28)) #[.int .i64 (n : Int), sV S] 102
    unfold Hid
    simpa using h
  have R3 : Hid (Blk (((w.alloc (.cells #[.string t.name, .slice a t.args.length c] 28)).alloc (.cells #[.string ⟨#[]⟩, .slice none 0 0] 28)).alloc (.cells #[.int .i64 (n : Int), sV S] 102)) (w.heap.size + 1) #[.string ⟨#[]⟩, .slice none 0 0] 28) := by
    have h := (Blk.new (w.alloc (.cells #[.string t.name, .slice a t.args.length c] 28)) #[.string ⟨#[]⟩, .slice none 0 0] 28).alloc (.cells #[.int .i64 (n : Int), sV S] 102)
    unfold Hid
    simpa using h
  have z3 : (((w.alloc (.cells #[.string t.name, .slice a t.args.length c] 28)).alloc (.cells #[.string ⟨#[]⟩, .slice none 0 0] 28)).alloc (.cells #[.int .i64 (n : Int), sV S] 102)).heap.size = w.heap.size + 3 := by simp
  generalize (((w.alloc (.cells #[.string t.name, .slice a t.args.length c] 28)).alloc (.cells #[.string ⟨#[]⟩, .slice none 0 0] 28)).alloc (.cells #[.int .i64 (n : Int), sV S] 102)) = w3 at *
  refine (ffillL_any hE (w.heap.size + 1 + 1) S lk t n a c w3 (fun b => X b ∧ b < w.heap.size) Y f hn (fun b hb => ⟨by have := hb.2; omega, HXM.out b hb.1⟩) (fun h => by have := HYW.out _ h; omega) (HS.out.later HB3.out) F3.out (hE.below HE.out HB3.out) HL.out).mono ?_
  rintro e w9 ⟨s', a', l', c', m, f', Y', rfl, hF9, hx9, hE9, hsub9, hff9, hc9⟩
  have HF9 := hide hF9
  have R9 := hide (R3.out.exq hx9 (fun h => by rcases h with h | h; omega; have := HMT.out _ h; omega))
  have hz9 := hx9.size
  have HXW : Hid (ExQ Mt w w9) := (ExQ.ofBelow HB3.out).transN hx9 (fun i hi hl => by rcases hi with h | h; omega; exact h)
  have HE9 := hide hE9
  have HSUB : Hid (∀ b, Y' b → Y b ∨ w.heap.size + 3 ≤ b) := fun b hb => (hsub9 b hb).imp id fun h => by omega
  have HFF := hide hff9
  have HC := hide hc9
  clear hF9 hx9 hE9 hsub9 hff9 hc9
  have r0 : w9.cell? ⟨w.heap.size + 1, 0, none⟩ = some (.string ⟨#[]⟩) := R9.out.cell 0
  have r1 : w9.cell? ⟨w.heap.size + 1, 1, none⟩ = some (.slice none 0 0) := R9.out.cell 1
  have rf := R9.out.frozen
  have hRl : w.heap.size + 1 < w9.heap.size := R9.out.lt
  have HKE : Hid (∀ v0 v1 o, E f' Y' (((w9.setCell ⟨w.heap.size + 1, 0, none⟩ v0).setCell ⟨w.heap.size + 1, 1, none⟩ v1).alloc o)) := fun v0 v1 o => hE.keep _ _ _ _ HE9.out fun b hb => by
    have hne : b ≠ w.heap.size + 1 := fun e => by
      rcases HSUB.out b hb with h | h
      · have := HYW.out b h; omega
      · omega
    have hl := hE.inY _ _ _ HE9.out b hb
    rw [Below.heap_alloc _ _ _ (by simpa [World.setCell] using hl), Below.heap_setCell _ _ _ _ (by simpa using hne), Below.heap_setCell _ _ _ _ (by simpa using hne)]
  have HSUB2 : Hid (∀ b, Y' b → Y b ∨ w.heap.size ≤ b) := fun b hb => (HSUB.out b hb).imp id fun h => by omega
  rcases HC.out with ⟨y, rfl, rfl, rfl, hle, hsl, hgd⟩ | ⟨rfl, hgd⟩
  · have HSL := hide hsl
    have HGD := hide hgd
    clear hsl hgd
    have f0 : ∀ o, (w9.alloc o).cell? ⟨w.heap.size + 1 + 1, 0, none⟩ = some (.int .i64 ((n : Int) - sizeL [y])) := fun o => (HF9.out.alloc o).cell 0
    have hlt : ¬ ((n : Int) - sizeL [y]) < 0 := by omega
    go_wp2_with fail
    refine bodyPost_ret (v := .tuple #[.agg #[.string y.name, .slice a' y.args.length c'], .bool true]) (by simp [results, Try.results50, go_sem, World.cell?_setCell_same, World.cell?_setCell_other, r0, r1, hRl, World.cell?_alloc_old]) rfl ?_
    refine ⟨y.name, a', y.args.length, c', true, f', Y', rfl, HKE.out _ _ _, HSUB2.out, HFF.out, ((HXW.out.setNew (by omega) _ _).setNew (by omega) _ _).alloc _, Or.inl ⟨rfl, y, rfl, rfl, hle, ((HSL.out.kept fun b hb => ?_).later ((Below.refl _ _).alloc (Nat.le_refl _) _)).mono fun b hb _ => by omega, HGD.out⟩⟩
    rw [Below.heap_setCell _ _ _ _ (by simp; omega), Below.heap_setCell _ _ _ _ (by simp; omega)]
  · have HGD := hide hgd
    clear hgd
    have f0 : ∀ o, (w9.alloc o).cell? ⟨w.heap.size + 1 + 1, 0, none⟩ = some (.int .i64 (-1)) := fun o => (HF9.out.alloc o).cell 0
    go_wp2_with fail
    refine bodyPost_ret (v := .tuple #[.agg #[.string ⟨#[]⟩, .slice none 0 0], .bool false]) (by simp [results, Try.results50, go_sem, World.cell?_setCell_same, World.cell?_setCell_other, r0, r1, hRl, World.cell?_alloc_old]) rfl ?_
    exact ⟨⟨#[]⟩, none, 0, 0, false, f', Y', rfl, HKE.out _ _ _, HSUB2.out, HFF.out, ((HXW.out.setNew (by omega) _ _).setNew (by omega) _ _).alloc _, Or.inr ⟨rfl, rfl, rfl, rfl, rfl, HGD.out⟩⟩
#print axioms fillL_any
end Go.Proofs.Ytkfppicbningaaa

/- Walks: a term is filled with what stands for variables; what stands for one is looked for. -/
namespace Go.Proofs.Ytkfppicbningaaa
open Go.RowKit
set_option linter.unusedSimpArgs false
set_option linter.unusedVariables false
set_option maxRecDepth 8000

theorem solE_grow {S q : Nat} {td : Value} {h : List (ByteArray × Tm)} {f : Bool} {Y Z : Nat → Prop} {w : World} (he : SolE S q td h f Y w) (h1 : ∀ b, Y b → Z b) (h2 : ∀ b, Z b → b < w.heap.size) : SolE S q td h f Z w := by
  obtain ⟨⟨L, e1, e2, e3⟩, e4, e5, e6, e7⟩ := he
  exact ⟨⟨L, e1, e2, e3.imp fun a l hs => hs.mono fun b hb _ => ⟨h1 b hb.1, hb.2⟩⟩, h1 _ e4, h1 _ e5, h2, e7⟩
/-- What filling gives. -/
def FsPost (S q : Nat) (td : Value) (h : List (ByteArray × Tm)) (tgt : Tm) (f : Bool) (Y : Nat → Prop) (w : World) (e : Ending) (w' : World) : Prop :=
  ∃ (y : Tm) (a' : Option Addr) (c' : Nat) (ok : Bool) (f' : Bool) (Y' : Nat → Prop), e = .returned (.tuple #[.agg #[.string y.name, .slice a' y.args.length c'], .bool ok]) ∧ SolE S q td h f' Y' w' ∧ (∀ b, Y' b → Y b ∨ w.heap.size ≤ b) ∧ (f = true → f' = true) ∧ ExQ (SolM S q) w w' ∧ Sl w' (fun b => w.heap.size ≤ b) a' y.args ∧
    (ok = true → f' = false ∧ y = tgt ∧ sizeL [y] ≤ 2000) ∧ (ok = false → f' = true ∨ 2000 < sizeL [tgt])

theorem fs_end {S q : Nat} {td : Value} {h : List (ByteArray × Tm)} {f f' : Bool} {Y Y' : Nat → Prop} {w w1 : World} {o : Obj} {y tgt : Tm} {a' : Option Addr} {c' : Nat} {ok : Bool} {v0 v1 : Value} (hE : SolE S q td h f' Y' w1) (hY : ∀ b, Y b → b < w.heap.size) (hsub : ∀ b, Y' b → Y b ∨ w.heap.size + 2 ≤ b) (hff : f = true → f' = true) (hx : ExQ (SolM S q) w w1) (hs : Sl w1 (fun b => w.heap.size + 2 ≤ b) a' y.args)
    (h1 : ok = true → f' = false ∧ y = tgt ∧ sizeL [y] ≤ 2000) (h2 : ok = false → f' = true ∨ 2000 < sizeL [tgt]) :
    FsPost S q td h tgt f Y w (.returned (.tuple #[.agg #[.string y.name, .slice a' y.args.length c'], .bool ok])) (((w1.alloc o).setCell ⟨w.heap.size + 1, 0, none⟩ v0).setCell ⟨w.heap.size + 1, 1, none⟩ v1).drew := by
  have hk : ∀ b, b < w1.heap.size → b ≠ w.heap.size + 1 → ((((w1.alloc o).setCell ⟨w.heap.size + 1, 0, none⟩ v0).setCell ⟨w.heap.size + 1, 1, none⟩ v1).drew).heap[b]? = w1.heap[b]? := fun b hb hn => by
    show (((w1.alloc o).setCell ⟨w.heap.size + 1, 0, none⟩ v0).setCell ⟨w.heap.size + 1, 1, none⟩ v1).heap[b]? = _
    rw [Below.heap_setCell _ _ _ _ (by simpa using hn), Below.heap_setCell _ _ _ _ (by simpa using hn), Below.heap_alloc _ _ _ hb]
  refine ⟨y, a', c', ok, f', Y', rfl, (solE_ok S q td h).keep _ _ _ _ hE fun b hb => hk b (hE.2.2.2.1 b hb) fun e => ?_, fun b hb => (hsub b hb).imp id fun h => by omega, hff, (((hx.alloc o).setNew (by omega) _ _).setNew (by omega) _ _).drew, ((hs.mono (Y := fun b => w.heap.size + 2 ≤ b ∧ b < w1.heap.size) fun b h1 h2 => ⟨h1, h2⟩).kept fun b hb => hk b hb.2 (by omega)).mono fun b hb _ => by omega, h1, h2⟩
  rcases hsub b hb with h | h
  · have := hY b h; omega
  · omega

set_option maxHeartbeats 1000000 in
theorem sfill_of (S q : Nat) (td : Value) (h : List (ByteArray × Tm)) (t : Tm) (a : Option Addr) (c : Nat) (w : World) (X Y : Nat → Prop) (f : Bool) (hXM : ∀ b, X b → ¬ SolM S q b) (hs : Sl w X a t.args) (hEv : SolE S q td h f Y w)
    (hL : ∀ nm, occL nm [t] → varB nm = true → LkC (SolE S q td h) (SolM S q) S (forT (sAt h) nm) nm) :
    Calls Try.prog 114 #[.pointer (some ⟨S, 0, none⟩), .agg #[.string t.name, .slice a t.args.length c]] w fun e w' => FsPost S q td h (gT (forT (sAt h)) t) f Y w e w' := by
  have hmf : ∀ (fn : Fn) (first cap : Array Value) (w : World), (Instr.makeFunc fn first cap).run Try.prog w = .ok (.func fn first cap) w := fun _ _ _ _ => rfl
  have HS := hide hs
  have HE := hide hEv
  have HL := hide hL
  have HXM := hide hXM
  have hSl : S < w.heap.size := hEv.2.2.2.1 S hEv.2.1
  clear hs hEv hL hXM
  have HYW : Hid (∀ b, Y b → b < w.heap.size) := HE.out.2.2.2.1
  have HMT : Hid (∀ b, SolM S q b → b < w.heap.size) := fun b hb => HYW.out b ((solE_ok S q td h).mt _ _ _ HE.out b hb)
  have FA : Hid (∀ w', Below w.heap.size w w' → Calls Try.prog 50 #[.agg #[.string t.name, .slice a t.args.length c], .int .i64 2000, .func (.func 127) #[.pointer (some ⟨S, 0, none⟩)] #[]] w' fun e w'' => FiPost (SolE S q td h) (SolM S q) (gT (forT (sAt h)) t) 2000 f Y w' e w'') := fun w' hb =>
    fillL_any (solE_ok S q td h) S (forT (sAt h)) t 2000 a c w' X Y f (by omega) HXM.out (HS.out.later hb) ((solE_ok S q td h).below HE.out hb) HL.out
  have HB2 : Hid (Below w.heap.size w ((w.alloc (.cells #[.string t.name, .slice a t.args.length c] 28)).alloc (.cells #[.string ⟨#[]⟩, .slice none 0 0] 28))) := below2 _ _
  have R2 : Hid (Blk ((w.alloc (.cells #[.string t.name, .slice a t.args.length c] 28)).alloc (.cells #[.string ⟨#[]⟩, .slice none 0 0] 28)) (w.heap.size + 1) #[.string ⟨#[]⟩, .slice none 0 0] 28) := by
    have h := Blk.new (w.alloc (.cells #[.string t.name, .slice a t.args.length c] 28)) #[.string ⟨#[]⟩, .slice none 0 0] 28
    unfold Hid
    simpa using h
  have z2 : ((w.alloc (.cells #[.string t.name, .slice a t.args.length c] 28)).alloc (.cells #[.string ⟨#[]⟩, .slice none 0 0] 28)).heap.size = w.heap.size + 2 := by simp
  go_enter Try.func114, Try.ntmps114
  go_wp2_with fail
  generalize ((w.alloc (.cells #[.string t.name, .slice a t.args.length c] 28)).alloc (.cells #[.string ⟨#[]⟩, .slice none 0 0] 28)) = w2 at *
  refine (FA.out _ HB2.out).mono ?_
  rintro e w1 ⟨s', a', l', c', ok, f', Y', rfl, hE1, hsub, hff, hx, hc⟩
  have HE1 := hide hE1
  have HSUB : Hid (∀ b, Y' b → Y b ∨ w.heap.size + 2 ≤ b) := fun b hb => (hsub b hb).imp id fun h => by omega
  have HFF := hide hff
  have HX : Hid (ExQ (SolM S q) w w1) := (ExQ.ofBelow HB2.out).trans hx
  have R1 := hide (R2.out.exq hx (fun h => by have := HMT.out _ h; omega))
  have HZ1 : Hid (w.heap.size + 2 ≤ w1.heap.size) := by have := hx.size; unfold Hid; omega
  have HC := hide hc
  obtain ⟨⟨L, hB1, _, _⟩, _⟩ := hE1
  have b2 : ∀ o, (w1.alloc o).cell? ⟨S, 2, none⟩ = some (.bool f') := fun o => (hB1.alloc o).cell 2
  have r0 : ∀ o, (w1.alloc o).cell? ⟨w.heap.size + 1, 0, none⟩ = some (.string ⟨#[]⟩) := fun o => (R1.out.alloc o).cell 0
  have r1 : ∀ o, (w1.alloc o).cell? ⟨w.heap.size + 1, 1, none⟩ = some (.slice none 0 0) := fun o => (R1.out.alloc o).cell 1
  have rf := R1.out.frozen
  clear hB1 hsub hff hx hc FA
  go_wp2_with fail
  have p0 : ∀ o, (w1.alloc o).frozen? ⟨w.heap.size + 1, 0, none⟩ = false := fun o => (R1.out.alloc o).frozen 0
  have p1 : ∀ o, (w1.alloc o).frozen? ⟨w.heap.size + 1, 1, none⟩ = false := fun o => (R1.out.alloc o).frozen 1
  rcases HC.out with ⟨rfl, y, rfl, rfl, hz, hsl, hgd⟩ | ⟨rfl, rfl, rfl, rfl, rfl, hgd⟩
  · have HSL : Hid (Sl w1 (fun b => w.heap.size + 2 ≤ b) a' y.args) := hsl.mono fun b hb _ => by omega
    have HGD := hide hgd
    have HZ := hide hz
    clear hsl hgd hz
    cases f' with
    | true =>
      go_region
      all_goals
        go_wp2_with fail
        refine bodyPost_ret (v := .tuple #[.agg #[.string y.name, .slice a' y.args.length c'], .bool false]) (by simp [results, Try.results114, go_sem, World.cell?_setCell_same, World.cell?_setCell_other, r0, r1]) rfl ?_
        exact fs_end HE1.out HYW.out HSUB.out (fun _ => rfl) HX.out HSL.out (fun h => by cases h) (fun _ => Or.inl rfl)
    | false =>
      go_region
      all_goals
        go_wp2_with fail
        refine bodyPost_ret (v := .tuple #[.agg #[.string y.name, .slice a' y.args.length c'], .bool true]) (by simp [results, Try.results114, go_sem, World.cell?_setCell_same, World.cell?_setCell_other, r0, r1]) rfl ?_
        exact fs_end HE1.out HYW.out HSUB.out HFF.out HX.out HSL.out (fun _ => ⟨rfl, HGD.out trivial, HZ.out⟩) (fun h => by cases h)
  · have HGD := hide hgd
    clear hgd
    have HSL : Hid (Sl w1 (fun b => w.heap.size + 2 ≤ b) none (⟨⟨#[]⟩, []⟩ : Tm).args) := ⟨by simp, Or.inl rfl⟩
    go_region
    all_goals
      go_wp2_with fail
      refine bodyPost_ret (v := .tuple #[.agg #[.string (⟨⟨#[]⟩, []⟩ : Tm).name, .slice none (⟨⟨#[]⟩, []⟩ : Tm).args.length 0], .bool false]) (by simp [results, Try.results114, go_sem, World.cell?_setCell_same, World.cell?_setCell_other, r0, r1]) rfl ?_
      exact fs_end HE1.out HYW.out HSUB.out HFF.out HX.out HSL.out (fun h => by cases h) (fun _ => by
        cases hf : f' with
        | true => exact Or.inl rfl
        | false => exact Or.inr (HGD.out hf))

theorem stE_lit {w : World} {Y : Nat → Prop} {h : List (ByteArray × Tm)} {i : Nat} {hi : i < h.length} {v : Value} (e : StE w Y h i hi v) : ∃ (T : Tm) (j : Nat) (a : Option Addr) (c : Nat), T = stood h i (max j (i + 1)) hi ∧ j ≤ h.length ∧ v = .agg #[.string T.name, .slice a T.args.length c, .int .i64 (j : Int)] ∧ Sl w Y a T.args := by
  obtain ⟨j, a, c, h1, h2, h3⟩ := e
  exact ⟨_, j, a, c, rfl, h1, h2, h3⟩
theorem run_len {P : Program} {w : World} {T kt et : TypeId} {r : Nat} {L : List (ByteArray × Value)} (hm : P.underlying T = some (.map kt et)) (h : MapAt w r L) (ty : TypeId) : (Builtin.len_ #[T] ty #[.map (some r)]).run P w = .ok (.int .i64 (L.length : Int)) w := by
  obtain ⟨es, clk, hb, he, _⟩ := h
  have hl : es.size = L.length := by have := congrArg List.length he; simpa using this
  simp [Builtin.len_, run_underlying hm, MapKept.run_getObj_map hb, goInt, Result.andThen, hl]

set_option maxHeartbeats 1000000 in
/-- What is not bound. -/
theorem look_free (S q : Nat) (td : Value) (h : List (ByteArray × Tm)) (g : GoodH h) (nm : ByteArray) (hn : ∀ i (hi : i < h.length), h[i].1 ≠ nm) : LkC (SolE S q td h) (SolM S q) S (forT (sAt h) nm) nm := by
  intro f Y w hE
  have HE := hide hE
  obtain ⟨⟨L, hB, hM, hSt⟩, hYS, hYq, hY, hg⟩ := hE
  have hz : ∀ w', (zeroValue 159).run Try.prog w' = .ok (.agg #[.string ⟨#[]⟩, .slice none 0 0, .int .i64 0]) w' := fun w' => Try.zeroValue159 w'
  have hml := hM.lt
  have hSl := hB.lt
  have HF := hide (forT_free g hn)
  have b1 : ∀ o, (w.alloc o).cell? ⟨S, 1, none⟩ = some (.map (some q)) := fun o => (hB.alloc o).cell 1
  have hlk : ∀ o, (Instr.lookup 113 (.map (some q)) (.string nm) true).run Try.prog (w.alloc o) = .ok (.tuple #[.agg #[.string ⟨#[]⟩, .slice none 0 0, .int .i64 0], .bool false]) (w.alloc o) := fun o => by
    rw [run_look (P := Try.prog) Try.underlying113 Try.underlying9 (hz _) (hM.kept (Below.heap_alloc _ _ _ hml)) nm, hSt.none hn]; rfl
  have HB := hide hB
  clear hB hM hSt hg
  go_enter Try.func127, Try.ntmps127
  go_wp2_with fail
  go_region
  all_goals go_wp2_with fail
  all_goals
    refine bodyPost_ret (v := .tuple #[.agg #[.string ⟨#[]⟩, .slice none 0 0], .bool false]) (by simp [results, Try.results127, go_sem]) rfl ?_
    exact ⟨⟨#[]⟩, none, 0, 0, false, f, Y, rfl, (solE_ok S q td h).below HE.out (((Below.refl _ _).alloc (Nat.le_refl _) _).alloc (by simp) _).drew, fun b hb => Or.inl hb, fun h => h, (((ExQ.refl _ _).alloc _).alloc _).drew, Or.inr ⟨rfl, fun _ => HF.out⟩⟩

/-- What stands for a variable is put anew. -/
theorem look_put {S q : Nat} {td : Value} {h : List (ByteArray × Tm)} (g : GoodH h) {i : Nat} (hi : i < h.length) {f' : Bool} {Y' Z : Nat → Prop} {w1 WS : World} (hE : SolE S q td h f' Y' w1) (hk : ∀ b, Y' b → WS.heap[b]? = w1.heap[b]?) {a' : Option Addr} {c' : Nat} {y : Tm} (hy : y = stood h i h.length hi) (hZ : ∀ b, Z b → b < WS.heap.size ∧ b ≠ S ∧ b ≠ q) (hs : Sl WS Z a' y.args) {nm : ByteArray} (hnm : h[i].1 = nm) :
    ∃ w5, (Instr.mapUpdate 113 (.map (some q)) (.string nm) (.agg #[.string y.name, .slice a' y.args.length c', .int .i64 (h.length : Int)])).run Try.prog WS = .ok () w5 ∧ SolE S q td h f' (fun b => Y' b ∨ Z b) w5 ∧ w5.heap.size = WS.heap.size ∧ w5.os = WS.os ∧ w5.tape = WS.tape ∧ w5.output = WS.output ∧ ∀ b, b ≠ q → w5.heap[b]? = WS.heap[b]? := by
  have hE2 := (solE_ok S q td h).keep _ _ _ _ hE hk
  obtain ⟨⟨L, e1, e2, e3⟩, e4, e5, e6, e7⟩ := hE2
  obtain ⟨v0, hv0, _⟩ := e3.get g hi
  have hSq : S ≠ q := fun e => by
    obtain ⟨es, clk, h1, _⟩ := e2
    subst e
    unfold Blk at e1
    rw [h1] at e1; cases e1
  obtain ⟨w5, h1, h2, h3, h4, h5, h6, h7⟩ := run_set (P := Try.prog) Try.underlying113 Try.underlying9 e2 h[i].1 (.agg #[.string y.name, .slice a' y.args.length c', .int .i64 (h.length : Int)]) v0 hv0
  refine ⟨w5, by rw [← hnm]; exact h1, ⟨⟨_, ?_, h2, ?_⟩, Or.inl e4, Or.inl e5, fun b hb => ?_, e7⟩, h3, h4, h5, h6, h7⟩
  · unfold Blk at *; rw [h7 S hSq]; exact e1
  · have kp : ∀ (X : Nat → Prop) a l, (∀ b, X b → (Y' b ∨ Z b) ∧ b ≠ S ∧ b ≠ q) → Sl WS X a l → Sl w5 (fun b => (Y' b ∨ Z b) ∧ b ≠ S ∧ b ≠ q) a l := fun X a l hX hsl => (hsl.kept fun b hb => h7 b (hX b hb).2.2).mono fun b hb _ => hX b hb
    refine (e3.imp fun a l hsl => kp _ a l (fun b hb => ⟨Or.inl hb.1, hb.2⟩) hsl).set g hi ⟨h.length, a', c', Nat.le_refl _, ?_, ?_⟩
    · rw [Nat.max_eq_left (by omega), ← hy]
    · rw [Nat.max_eq_left (by omega), ← hy]
      exact kp _ _ _ (fun b hb => ⟨Or.inr hb, (hZ b hb).2⟩) hs
  · rw [h3]
    rcases hb with hb | hb
    · exact e6 b hb
    · exact (hZ b hb).1
/-- Something was found to be too great. -/
theorem look_full {S q : Nat} {td : Value} {h : List (ByteArray × Tm)} {f' : Bool} {Y' Z : Nat → Prop} {w1 WS : World} (hE : SolE S q td h f' Y' w1) (hk : ∀ b, Y' b → WS.heap[b]? = w1.heap[b]?) (hg : grtB (sAt h) = true) (hZ : ∀ b, Z b → b < WS.heap.size ∧ b ≠ S ∧ b ≠ q) : SolE S q td h true (fun b => Y' b ∨ Z b) (WS.setCell ⟨S, 2, none⟩ (.bool true)) := by
  have hE2 := (solE_ok S q td h).keep _ _ _ _ hE hk
  obtain ⟨⟨L, e1, e2, e3⟩, e4, e5, e6, e7⟩ := hE2
  have hSq : S ≠ q := fun e => by
    obtain ⟨es, clk, h1, _⟩ := e2
    subst e
    unfold Blk at e1
    rw [h1] at e1; cases e1
  have hk2 : ∀ b, b ≠ S → (WS.setCell ⟨S, 2, none⟩ (.bool true)).heap[b]? = WS.heap[b]? := fun b hb => Below.heap_setCell _ _ _ _ (by simpa using hb)
  refine ⟨⟨L, ?_, e2.kept (hk2 q (Ne.symm hSq)), e3.imp fun a l hsl => (hsl.kept fun b hb => hk2 b hb.2.1).mono fun b hb _ => ⟨Or.inl hb.1, hb.2⟩⟩, Or.inl e4, Or.inl e5, fun b hb => ?_, fun _ => hg⟩
  · have := e1.set 2 (.bool true)
    simpa using this
  · have hz : (WS.setCell ⟨S, 2, none⟩ (.bool true)).heap.size = WS.heap.size := by simp [World.setCell]
    rw [hz]
    rcases hb with hb | hb
    · exact e6 b hb
    · exact (hZ b hb).1

set_option maxHeartbeats 1000000 in
/-- What is bound. -/
theorem look_at (S q : Nat) (td : Value) (h : List (ByteArray × Tm)) (g : GoodH h) (hN : NamesH h) (i : Nat) (hi : i < h.length)
    (hrec : ∀ k (hk : k < h.length), i < k → LkC (SolE S q td h) (SolM S q) S (forT (sAt h) h[k].1) h[k].1) : LkC (SolE S q td h) (SolM S q) S (forT (sAt h) h[i].1) h[i].1 := by
  intro f Y w hE
  have HE := hide hE
  obtain ⟨⟨L, hB, hM, hSt⟩, hYS, hYq, hY, hg⟩ := hE
  obtain ⟨v, hgv, hst⟩ := hSt.get g hi
  obtain ⟨T, j, a, c, hT, hj, rfl, hsl⟩ := stE_lit hst
  have HST := hide hSt
  have HSL := hide hsl
  have HGV := hide hgv
  have HMM := hide hM
  have HG := hide hg
  have HY := hide hY
  have hz : ∀ w', (zeroValue 159).run Try.prog w' = .ok (.agg #[.string ⟨#[]⟩, .slice none 0 0, .int .i64 0]) w' := fun w' => Try.zeroValue159 w'
  have hml := hM.lt
  have hSl := hB.lt
  have hF := forT_at g hi
  obtain ⟨nm, hnm⟩ : ∃ nm, h[i].1 = nm := ⟨_, rfl⟩
  rw [hnm] at hgv hF HGV ⊢
  have HF := hide hF
  clear hF
  have HNM := hide hnm
  have HT := hide hT
  have hSq : S ≠ q := fun e => by
    obtain ⟨es, clk, h1, _⟩ := hM
    subst e
    unfold Blk at hB
    rw [h1] at hB; cases hB
  have HB := hide hB
  have b1 : ∀ o o', ((w.alloc o).alloc o').cell? ⟨S, 1, none⟩ = some (.map (some q)) := fun o o' => ((hB.alloc o).alloc o').cell 1
  have b1' : ∀ o, (w.alloc o).cell? ⟨S, 1, none⟩ = some (.map (some q)) := fun o => (hB.alloc o).cell 1
  have b2 : ∀ o o', ((w.alloc o).alloc o').cell? ⟨S, 2, none⟩ = some (.bool f) := fun o o' => ((hB.alloc o).alloc o').cell 2
  have hlk : ∀ o, (Instr.lookup 113 (.map (some q)) (.string nm) true).run Try.prog (w.alloc o) = .ok (.tuple #[.agg #[.string T.name, .slice a T.args.length c, .int .i64 (j : Int)], .bool true]) (w.alloc o) := fun o => by
    rw [run_look (P := Try.prog) Try.underlying113 Try.underlying9 (hz _) (hM.kept (Below.heap_alloc _ _ _ hml)) nm, hgv]; rfl
  have hln : Hid (L.length = h.length) := hSt.1
  have hlen : ∀ o o', Sem.run Try.prog (Builtin.len_ #[113] 3 #[.map (some q)]) ((w.alloc o).alloc o').drew = .ok (.int .i64 (h.length : Int)) ((w.alloc o).alloc o').drew := fun o o' => by
    have h1 : MapAt ((w.alloc o).alloc o').drew q L := HMM.out.below ((((Below.refl w.heap.size w).alloc (Nat.le_refl _) o).alloc (by simp) o').drew) hml
    rw [run_len Try.underlying113 h1, hln.out]
  clear hB hSt hg hY hsl hgv hst hnm hT hM
  cases f with
  | true =>
    go_enter Try.func127, Try.ntmps127
    go_wp2_with fail
    go_region
    all_goals go_wp2_with fail
    all_goals
      refine bodyPost_ret (v := .tuple #[.agg #[.string T.name, .slice a T.args.length c], .bool true]) (by simp [results, Try.results127, go_sem]) rfl ?_
      exact ⟨T.name, a, T.args.length, c, true, true, Y, rfl, (solE_ok S q td h).below HE.out (((Below.refl _ _).alloc (Nat.le_refl _) _).alloc (by simp) _).drew, fun b hb => Or.inl hb, fun h => h, (((ExQ.refl _ _).alloc _).alloc _).drew, Or.inl ⟨rfl, T, rfl, rfl, (HSL.out.later (((Below.refl _ _).alloc (Nat.le_refl _) _).alloc (by simp) _).drew).mono fun b hb _ => hb.1, fun h => by cases h⟩⟩
  | false =>
    by_cases hjl : j = h.length
    · have HJ := hide hjl
      have hT2 : Hid (forT (sAt h) nm = some T) := by
        unfold Hid
        rw [HF.out, HT.out, hjl, Nat.max_eq_left (by omega)]
      have hje : ((j : Int) == (h.length : Int)) = true := by rw [hjl]; simp
      clear hjl
      go_enter Try.func127, Try.ntmps127
      go_wp2_with fail
      go_region
      all_goals go_wp2_with fail
      all_goals
        refine bodyPost_ret (v := .tuple #[.agg #[.string T.name, .slice a T.args.length c], .bool true]) (by simp [results, Try.results127, go_sem]) rfl ?_
        exact ⟨T.name, a, T.args.length, c, true, false, Y, rfl, (solE_ok S q td h).below HE.out (((Below.refl _ _).alloc (Nat.le_refl _) _).alloc (by simp) _).drew, fun b hb => Or.inl hb, fun h => h, (((ExQ.refl _ _).alloc _).alloc _).drew, Or.inl ⟨rfl, T, rfl, rfl, (HSL.out.later (((Below.refl _ _).alloc (Nat.le_refl _) _).alloc (by simp) _).drew).mono fun b hb _ => hb.1, fun _ => hT2.out⟩⟩
    · have HJ := hide hjl
      have hje : ((j : Int) == (h.length : Int)) = false := beq_eq_false_iff_ne.2 (by omega)
      clear hjl
      go_enter Try.func127, Try.ntmps127
      go_wp2_with fail
      go_region
      go_wp2_with fail
      have HB0 : Hid (Below w.heap.size w ((w.alloc (.cells #[.string ⟨#[]⟩, .slice none 0 0] 28)).alloc (.cells #[.string T.name, .slice a T.args.length c, .int .i64 (h.length : Int)] 159)).drew) := (((Below.refl _ _).alloc (Nat.le_refl _) _).alloc (by simp) _).drew
      have R0 : Hid (Blk ((w.alloc (.cells #[.string ⟨#[]⟩, .slice none 0 0] 28)).alloc (.cells #[.string T.name, .slice a T.args.length c, .int .i64 (h.length : Int)] 159)).drew w.heap.size #[.string ⟨#[]⟩, .slice none 0 0] 28) := ((Blk.new w _ _).alloc _).drewN 1
      have X0 : Hid (Blk ((w.alloc (.cells #[.string ⟨#[]⟩, .slice none 0 0] 28)).alloc (.cells #[.string T.name, .slice a T.args.length c, .int .i64 (h.length : Int)] 159)).drew (w.heap.size + 1) #[.string T.name, .slice a T.args.length c, .int .i64 (h.length : Int)] 159) := by
        have h1 := Blk.new (w.alloc (.cells #[.string ⟨#[]⟩, .slice none 0 0] 28)) #[.string T.name, .slice a T.args.length c, .int .i64 (h.length : Int)] 159
        rw [World.size_alloc] at h1
        exact h1
      have z0 : ((w.alloc (.cells #[.string ⟨#[]⟩, .slice none 0 0] 28)).alloc (.cells #[.string T.name, .slice a T.args.length c, .int .i64 (h.length : Int)] 159)).drew.heap.size = w.heap.size + 2 := by simp
      generalize ((w.alloc (.cells #[.string ⟨#[]⟩, .slice none 0 0] 28)).alloc (.cells #[.string T.name, .slice a T.args.length c, .int .i64 (h.length : Int)] 159)).drew = w0 at *
      have HTG : Hid (gT (forT (sAt h)) T = stood h i h.length hi) := by
        unfold Hid
        rw [HT.out]
        exact stood_fill g hN hi (Nat.max_le.2 ⟨hj, hi⟩)
      have SF := sfill_of S q td h T a c w0 (fun b => Y b ∧ b ≠ S ∧ b ≠ q) Y false (fun b hb hm => by rcases hm with h | h; exact hb.2.1 h; exact hb.2.2 h) (HSL.out.later HB0.out) ((solE_ok S q td h).below HE.out HB0.out) (fun n2 ho hv => by
        by_cases hbd : ∃ k, ∃ hk : k < h.length, h[k].1 = n2
        · obtain ⟨k, hk, rfl⟩ := hbd
          rw [HT.out] at ho
          have h1 := stood_later g hi (Nat.max_le.2 ⟨hj, hi⟩) (hN i hi) hk ho
          exact hrec k hk (by omega)
        · exact look_free S q td h g n2 fun k hk e => hbd ⟨k, hk, e⟩)
      rw [HTG.out] at SF
      refine SF.mono ?_
      clear SF
      rintro e w1 ⟨y, a', c', ok, f', Y', rfl, hE1, hsub, hff, hx, hs1, hk1, hk2⟩
      have HX1 : Hid (ExQ (SolM S q) w w1) := (ExQ.ofBelow HB0.out).trans hx
      have hmn : ∀ b, SolM S q b → b < w.heap.size := fun b hb => by rcases hb with rfl | rfl; exact hSl; exact hml
      have R1 := hide (R0.out.exq hx (fun h => by have := hmn _ h; omega))
      have X1 := hide (X0.out.exq hx (fun h => by have := hmn _ h; omega))
      have HZ1 : Hid (w.heap.size + 2 ≤ w1.heap.size) := by have := hx.size; unfold Hid; omega
      have HSUB : Hid (∀ b, Y' b → Y b ∨ w.heap.size + 2 ≤ b) := fun b hb => (hsub b hb).imp id fun h => by omega
      have HS1 : Hid (Sl w1 (fun b => w.heap.size + 2 ≤ b ∧ b < w1.heap.size) a' y.args) := hs1.mono fun b hb h2 => ⟨by omega, h2⟩
      have HE1 := hide hE1
      have HYX : Hid (∀ b, Y' b → b ≠ w.heap.size ∧ b ≠ w.heap.size + 1) := fun b hb => by
        rcases HSUB.out b hb with h1 | h1
        · have := HY.out b h1; omega
        · omega
      have x0 : w1.cell? ⟨w.heap.size + 1, 0, none⟩ = some (.string T.name) := X1.out.cell 0
      have x1 : w1.cell? ⟨w.heap.size + 1, 1, none⟩ = some (.slice a T.args.length c) := X1.out.cell 1
      have x2 : w1.cell? ⟨w.heap.size + 1, 2, none⟩ = some (.int .i64 (h.length : Int)) := X1.out.cell 2
      have xf := X1.out.frozen
      have HK1 := hide hk1
      have HK2 := hide hk2
      clear hsub hx hs1 hk1 hk2 hE1 hff hmn
      cases ok with
      | true =>
        obtain ⟨rfl, hyT, hyz⟩ := HK1.out rfl
        have HYT := hide hyT
        clear hyT hyz HK1 HK2
        have hkS : ∀ b, b ≠ w.heap.size + 1 → ((w1.setCell ⟨w.heap.size + 1, 0, none⟩ (.string y.name)).setCell ⟨w.heap.size + 1, 1, none⟩ (.slice a' y.args.length c')).drew.heap[b]? = w1.heap[b]? := fun b hb => by
          show ((w1.setCell ⟨w.heap.size + 1, 0, none⟩ (.string y.name)).setCell ⟨w.heap.size + 1, 1, none⟩ (.slice a' y.args.length c')).heap[b]? = _
          rw [Below.heap_setCell _ _ _ _ (by simpa using hb), Below.heap_setCell _ _ _ _ (by simpa using hb)]
        have hzS : ((w1.setCell ⟨w.heap.size + 1, 0, none⟩ (.string y.name)).setCell ⟨w.heap.size + 1, 1, none⟩ (.slice a' y.args.length c')).drew.heap.size = w1.heap.size := by simp [World.setCell]
        obtain ⟨w5, hput, hE5, hz5, ho5, ht5, hu5, hk5⟩ := look_put (WS := ((w1.setCell ⟨w.heap.size + 1, 0, none⟩ (.string y.name)).setCell ⟨w.heap.size + 1, 1, none⟩ (.slice a' y.args.length c')).drew) (Z := fun b => w.heap.size + 2 ≤ b ∧ b < w1.heap.size) (c' := c') g hi HE1.out (fun b hb => hkS b (HYX.out b hb).2) HYT.out (fun b hb => ⟨by rw [hzS]; exact hb.2, by omega, by omega⟩) (HS1.out.kept fun b hb => hkS b (by omega)) HNM.out
        have HE5 := hide hE5
        have XS : Hid (Blk w5 (w.heap.size + 1) #[.string y.name, .slice a' y.args.length c', .int .i64 (h.length : Int)] 159) := by
          have h1 := (X1.out.set 0 (.string y.name)).set 1 (.slice a' y.args.length c')
          unfold Hid Blk
          rw [hk5 _ (by omega)]
          show ((w1.setCell ⟨w.heap.size + 1, 0, none⟩ (.string y.name)).setCell ⟨w.heap.size + 1, 1, none⟩ (.slice a' y.args.length c')).heap[w.heap.size + 1]? = _
          unfold Blk at h1
          rw [h1]
          simp
        have RS : Hid (Blk w5 w.heap.size #[.string ⟨#[]⟩, .slice none 0 0] 28) := by
          unfold Hid Blk
          rw [hk5 _ (by omega), hkS _ (by omega)]
          exact R1.out
        have HX5 : Hid (ExQ (SolM S q) w w5) := by
          have h1 := ((HX1.out.setNew (b := w.heap.size + 1) (by omega) 0 (.string y.name)).setNew (b := w.heap.size + 1) (by omega) 1 (.slice a' y.args.length c')).drew
          exact ⟨ho5.trans h1.os, ht5.trans h1.tape, hu5.trans h1.output, by rw [hz5]; exact h1.size, fun b hb hn => (hk5 b (fun e => hn (Or.inr e))).trans (h1.block b hb hn)⟩
        have s1 : ((w1.setCell ⟨w.heap.size + 1, 0, none⟩ (.string y.name)).setCell ⟨w.heap.size + 1, 1, none⟩ (.slice a' y.args.length c')).cell? ⟨S, 1, none⟩ = some (.map (some q)) := by
          obtain ⟨⟨L1, hB1, _⟩, _⟩ := HE1.out
          exact ((hB1.setOther _ _ (by omega)).setOther _ _ (by omega)).cell 1
        have y0 : ((w1.setCell ⟨w.heap.size + 1, 0, none⟩ (.string y.name)).setCell ⟨w.heap.size + 1, 1, none⟩ (.slice a' y.args.length c')).cell? ⟨w.heap.size + 1, 0, none⟩ = some (.string y.name) := by
          have := ((X1.out.set 0 (.string y.name)).set 1 (.slice a' y.args.length c')).cell 0
          simpa using this
        have y1 : ((w1.setCell ⟨w.heap.size + 1, 0, none⟩ (.string y.name)).setCell ⟨w.heap.size + 1, 1, none⟩ (.slice a' y.args.length c')).cell? ⟨w.heap.size + 1, 1, none⟩ = some (.slice a' y.args.length c') := by
          have := ((X1.out.set 0 (.string y.name)).set 1 (.slice a' y.args.length c')).cell 1
          simpa using this
        have y2 : ((w1.setCell ⟨w.heap.size + 1, 0, none⟩ (.string y.name)).setCell ⟨w.heap.size + 1, 1, none⟩ (.slice a' y.args.length c')).cell? ⟨w.heap.size + 1, 2, none⟩ = some (.int .i64 (h.length : Int)) := by
          have := ((X1.out.set 0 (.string y.name)).set 1 (.slice a' y.args.length c')).cell 2
          simpa using this
        have q0 : w5.cell? ⟨w.heap.size + 1, 0, none⟩ = some (.string y.name) := XS.out.cell 0
        have q1 : w5.cell? ⟨w.heap.size + 1, 1, none⟩ = some (.slice a' y.args.length c') := XS.out.cell 1
        have r0 : w5.cell? ⟨w.heap.size, 0, none⟩ = some (.string ⟨#[]⟩) := RS.out.cell 0
        have r1 : w5.cell? ⟨w.heap.size, 1, none⟩ = some (.slice none 0 0) := RS.out.cell 1
        have rf := RS.out.frozen
        have HZ5 : Hid (w5.heap.size = w1.heap.size) := by unfold Hid; rw [hz5, hzS]
        have HS5 : Hid (Sl w5 (fun b => w.heap.size + 2 ≤ b ∧ b < w1.heap.size) a' y.args) := (HS1.out.kept fun b hb => hkS b (by omega)).kept fun b hb => hk5 b (by omega)
        clear hE5 hz5 ho5 ht5 hu5 hk5 hzS hkS
        go_wp2_with fail
        go_region
        all_goals go_wp2_with fail
        all_goals
          refine bodyPost_ret (v := .tuple #[.agg #[.string y.name, .slice a' y.args.length c'], .bool true]) (by simp [results, Try.results127, go_sem, World.cell?_setCell_same, World.cell?_setCell_other, r0, r1]) rfl ?_
          have hkF : ∀ b, b ≠ w.heap.size → ((w5.setCell ⟨w.heap.size, 0, none⟩ (.string y.name)).setCell ⟨w.heap.size, 1, none⟩ (.slice a' y.args.length c')).heap[b]? = w5.heap[b]? := fun b hb => by
            rw [Below.heap_setCell _ _ _ _ (by simpa using hb), Below.heap_setCell _ _ _ _ (by simpa using hb)]
          refine ⟨y.name, a', y.args.length, c', true, false, _, rfl, (solE_ok S q td h).keep _ _ _ _ HE5.out (fun b hb => hkF b ?_), fun b hb => ?_, fun h => h, (HX5.out.setNew (by omega) _ _).setNew (by omega) _ _, Or.inl ⟨rfl, y, rfl, rfl, (HS5.out.kept fun b hb => hkF b (by omega)).mono fun b hb _ => Or.inr hb, fun _ => by rw [HF.out, HYT.out]⟩⟩
          · rcases hb with hb | hb
            · exact (HYX.out b hb).1
            · omega
          · rcases hb with hb | hb
            · exact (HSUB.out b hb).imp id fun h => by omega
            · right; omega
      | false =>
        have HGR : Hid (grtB (sAt h) = true) := by
          rcases HK2.out rfl with h1 | h1
          · exact HE1.out.2.2.2.2 h1
          · exact stood_great g hi h1
        have hkS : ∀ b, b ≠ w.heap.size + 1 → ((w1.setCell ⟨w.heap.size + 1, 0, none⟩ (.string y.name)).setCell ⟨w.heap.size + 1, 1, none⟩ (.slice a' y.args.length c')).heap[b]? = w1.heap[b]? := fun b hb => by
          rw [Below.heap_setCell _ _ _ _ (by simpa using hb), Below.heap_setCell _ _ _ _ (by simpa using hb)]
        have hzS : ((w1.setCell ⟨w.heap.size + 1, 0, none⟩ (.string y.name)).setCell ⟨w.heap.size + 1, 1, none⟩ (.slice a' y.args.length c')).heap.size = w1.heap.size := by simp [World.setCell]
        have HE5 := hide (look_full (WS := ((w1.setCell ⟨w.heap.size + 1, 0, none⟩ (.string y.name)).setCell ⟨w.heap.size + 1, 1, none⟩ (.slice a' y.args.length c'))) (Z := fun b => w.heap.size + 2 ≤ b ∧ b < w1.heap.size) HE1.out (fun b hb => hkS b (HYX.out b hb).2) HGR.out (fun b hb => ⟨by rw [hzS]; exact hb.2, by omega, by omega⟩))
        obtain ⟨⟨L1, hB1, hM1, hST1⟩, hYS1, hrest1⟩ := HE1.out
        have BS := hide ((hB1.setOther (b' := w.heap.size + 1) 0 (.string y.name) (by omega)).setOther (b' := w.heap.size + 1) 1 (.slice a' y.args.length c') (by omega))
        have XS := hide ((X1.out.set 0 (.string y.name)).set 1 (.slice a' y.args.length c'))
        have RS := hide ((R1.out.setOther (b' := w.heap.size + 1) 0 (.string y.name) (by omega)).setOther (b' := w.heap.size + 1) 1 (.slice a' y.args.length c') (by omega))
        have HX5 := hide ((HX1.out.setNew (b := w.heap.size + 1) (by omega) 0 (.string y.name)).setNew (b := w.heap.size + 1) (by omega) 1 (.slice a' y.args.length c'))
        have HS5 : Hid (Sl ((w1.setCell ⟨w.heap.size + 1, 0, none⟩ (.string y.name)).setCell ⟨w.heap.size + 1, 1, none⟩ (.slice a' y.args.length c')) (fun b => w.heap.size + 2 ≤ b ∧ b < w1.heap.size) a' y.args) := HS1.out.kept fun b hb => hkS b (by omega)
        have s2 : ((w1.setCell ⟨w.heap.size + 1, 0, none⟩ (.string y.name)).setCell ⟨w.heap.size + 1, 1, none⟩ (.slice a' y.args.length c')).cell? ⟨S, 2, none⟩ = some (.bool f') := BS.out.cell 2
        have sf := BS.out.frozen 2
        have y0 : (((w1.setCell ⟨w.heap.size + 1, 0, none⟩ (.string y.name)).setCell ⟨w.heap.size + 1, 1, none⟩ (.slice a' y.args.length c')).setCell ⟨S, 2, none⟩ (.bool true)).cell? ⟨w.heap.size + 1, 0, none⟩ = some (.string y.name) := by
          have := (XS.out.setOther (b' := S) 2 (.bool true) (by omega)).cell 0
          simpa using this
        have y1 : (((w1.setCell ⟨w.heap.size + 1, 0, none⟩ (.string y.name)).setCell ⟨w.heap.size + 1, 1, none⟩ (.slice a' y.args.length c')).setCell ⟨S, 2, none⟩ (.bool true)).cell? ⟨w.heap.size + 1, 1, none⟩ = some (.slice a' y.args.length c') := by
          have := (XS.out.setOther (b' := S) 2 (.bool true) (by omega)).cell 1
          simpa using this
        have r0 : (((w1.setCell ⟨w.heap.size + 1, 0, none⟩ (.string y.name)).setCell ⟨w.heap.size + 1, 1, none⟩ (.slice a' y.args.length c')).setCell ⟨S, 2, none⟩ (.bool true)).cell? ⟨w.heap.size, 0, none⟩ = some (.string ⟨#[]⟩) := (RS.out.setOther (b' := S) 2 (.bool true) (by omega)).cell 0
        have r1 : (((w1.setCell ⟨w.heap.size + 1, 0, none⟩ (.string y.name)).setCell ⟨w.heap.size + 1, 1, none⟩ (.slice a' y.args.length c')).setCell ⟨S, 2, none⟩ (.bool true)).cell? ⟨w.heap.size, 1, none⟩ = some (.slice none 0 0) := (RS.out.setOther (b' := S) 2 (.bool true) (by omega)).cell 1
        have rf := R1.out.frozen
        have hnS : w.heap.size + 1 ≠ S := by omega
        have hnS2 : w.heap.size ≠ S := by omega
        clear hB1 hM1 hST1 hYS1 hrest1 HK2 hkS hzS
        go_wp2_with fail
        refine bodyPost_ret (v := .tuple #[.agg #[.string y.name, .slice a' y.args.length c'], .bool true]) (by simp [results, Try.results127, go_sem, World.cell?_setCell_same, World.cell?_setCell_other, r0, r1]) rfl ?_
        have hkF : ∀ b, b ≠ w.heap.size → (((((w1.setCell ⟨w.heap.size + 1, 0, none⟩ (.string y.name)).setCell ⟨w.heap.size + 1, 1, none⟩ (.slice a' y.args.length c')).setCell ⟨S, 2, none⟩ (.bool true)).setCell ⟨w.heap.size, 0, none⟩ (.string y.name)).setCell ⟨w.heap.size, 1, none⟩ (.slice a' y.args.length c')).heap[b]? = (((w1.setCell ⟨w.heap.size + 1, 0, none⟩ (.string y.name)).setCell ⟨w.heap.size + 1, 1, none⟩ (.slice a' y.args.length c')).setCell ⟨S, 2, none⟩ (.bool true)).heap[b]? := fun b hb => by
          rw [Below.heap_setCell _ _ _ _ (by simpa using hb), Below.heap_setCell _ _ _ _ (by simpa using hb)]
        refine ⟨y.name, a', y.args.length, c', true, true, _, rfl, (solE_ok S q td h).keep _ _ _ _ HE5.out (fun b hb => hkF b ?_), fun b hb => ?_, fun h => rfl, ((HX5.out.set (Or.inl rfl) _ _).setNew (by omega) _ _).setNew (by omega) _ _, Or.inl ⟨rfl, y, rfl, rfl, ((HS5.out.kept fun b hb => Below.heap_setCell _ _ _ _ (by simp; omega)).kept fun b hb => hkF b (by omega)).mono fun b hb _ => Or.inr hb, fun h => by cases h⟩⟩
        · rcases hb with hb | hb
          · exact (HYX.out b hb).1
          · omega
        · rcases hb with hb | hb
          · exact (HSUB.out b hb).imp id fun h => by omega
          · right; omega

/-- Whatever is looked for. -/
theorem look_all (S q : Nat) (td : Value) (h : List (ByteArray × Tm)) (g : GoodH h) (hN : NamesH h) : ∀ (d i : Nat) (hi : i < h.length), h.length - i ≤ d → LkC (SolE S q td h) (SolM S q) S (forT (sAt h) h[i].1) h[i].1
  | 0, i, hi, hd => by omega
  | d + 1, i, hi, hd => look_at S q td h g hN i hi fun k hk hik => look_all S q td h g hN d k hk (by omega)
theorem look_any2 (S q : Nat) (td : Value) (h : List (ByteArray × Tm)) (g : GoodH h) (hN : NamesH h) (nm : ByteArray) : LkC (SolE S q td h) (SolM S q) S (forT (sAt h) nm) nm := by
  by_cases hbd : ∃ k, ∃ hk : k < h.length, h[k].1 = nm
  · obtain ⟨k, hk, rfl⟩ := hbd
    exact look_all S q td h g hN _ k hk (Nat.le_refl _)
  · exact look_free S q td h g nm fun k hk e => hbd ⟨k, hk, e⟩
/-- A term is filled. -/
theorem ufill_any (S q : Nat) (td : Value) (h : List (ByteArray × Tm)) (g : GoodH h) (hN : NamesH h) (t : Tm) (he : errL [t] = 0) (a : Option Addr) (c : Nat) (w : World) (X Y : Nat → Prop) (f : Bool) (hXM : ∀ b, X b → ¬ SolM S q b) (hs : Sl w X a t.args) (hEv : SolE S q td h f Y w) :
    Calls Try.prog 114 #[.pointer (some ⟨S, 0, none⟩), .agg #[.string t.name, .slice a t.args.length c]] w fun e w' => FsPost S q td h (onT (sAt h) t) f Y w e w' := by
  have h1 := sfill_of S q td h t a c w X Y f hXM hs hEv fun nm _ _ => look_any2 S q td h g hN nm
  rw [gT_onT g.all.vars he] at h1
  exact h1
#print axioms ufill_any
end Go.Proofs.Ytkfppicbningaaa

/- Walks: two bindings by their names. -/
namespace Go.Proofs.Ytkfppicbningaaa
open Go.RowKit
set_option linter.unusedSimpArgs false
set_option linter.unusedVariables false
set_option maxRecDepth 8000

/-- How two texts stand to each other. -/
def cmpN (a b : ByteArray) : Int := if ltB a b = true then -1 else if ltB b a = true then 1 else 0
theorem isNaN_any (a : ByteArray) (w : World) : Calls Try.prog 78 #[.string a] w fun e w' => e = .returned (.bool false) ∧ w' = w := by
  go_enter Try.func78, Try.ntmps78
  go_wp2_with fail
  go_ret
  exact ⟨by simp, rfl⟩
theorem compare_any (a b : ByteArray) (w : World) : Calls Try.prog 55 #[.string a, .string b] w fun e w' => e = .returned (.int .i64 (cmpN a b)) ∧ w' = w := by
  cases h1 : Op.bytesLess a.toList b.toList with
  | true =>
    have HN : Hid (cmpN a b = -1) := by unfold Hid cmpN ltB; rw [h1]; rfl
    go_enter Try.func55, Try.ntmps55
    go_wp2_with (go_at_call 78; refine (isNaN_any _ _).mono ?_; rintro e w' ⟨rfl, rfl⟩)
    go_ret
    exact ⟨by rw [HN.out]; rfl, rfl⟩
  | false =>
    by_cases he : a = b
    · have HN : Hid (cmpN a b = 0) := by unfold Hid cmpN ltB; rw [h1, he, bl_irrefl]; rfl
      have h2 : (a.toList == b.toList) = true := bytes_yes he
      clear he
      go_enter Try.func55, Try.ntmps55
      go_wp2_with (go_at_call 78; refine (isNaN_any _ _).mono ?_; rintro e w' ⟨rfl, rfl⟩)
      go_ret
      exact ⟨by rw [HN.out]; rfl, rfl⟩
    · have HN : Hid (cmpN a b = 1) := by
        unfold Hid cmpN
        have h3 : ltB b a = true := by
          cases h : ltB b a with
          | true => rfl
          | false => exact absurd (ltB_conn h1 h) he
        rw [if_neg (by unfold ltB; rw [h1]; simp), if_pos h3]
      have h2 : (a.toList == b.toList) = false := bytes_no he
      clear he
      go_enter Try.func55, Try.ntmps55
      go_wp2_with (go_at_call 78; refine (isNaN_any _ _).mono ?_; rintro e w' ⟨rfl, rfl⟩)
      go_ret
      exact ⟨by rw [HN.out]; rfl, rfl⟩
open Go.Sort in
theorem inOrder1_any (x y : Bc) (w : World) : Calls Try.prog 54 #[.agg (enc3 x).toArray, .agg (enc3 y).toArray] w fun e w' => e = .returned (.int .i64 (cmpN x.1.nm y.1.nm)) ∧ ∃ q os', w' = grow (w.drewN q) os' := by
  have HC := hide (fun w' => compare_any x.1.nm y.1.nm w')
  generalize cmpN x.1.nm y.1.nm = z at *
  unfold enc3
  go_enter Try.func54, Try.ntmps54
  go_wp2_with (go_at_call 55; refine (HC.out _).mono ?_; rintro e w' ⟨rfl, rfl⟩)
  go_ret
  exact ⟨rfl, 0, _, by rw [alloc_eq_grow, alloc_eq_grow, grow_grow]; rfl⟩
#print axioms compare_any
#print axioms inOrder1_any
end Go.Proofs.Ytkfppicbningaaa

/- Maps by texts: a loop over one, and what is struck in it. -/
namespace Go.Proofs.Ytkfppicbningaaa
open Go.RowKit
open Go.ChangeMaps (setBlock)
set_option linter.unusedSimpArgs false
set_option linter.unusedVariables false

/-- A loop over the map at b, its iterator at r: the map's entries, and those that are still to come. -/
def RangeAt (w : World) (b r : Nat) (L rem : List (ByteArray × Value)) : Prop :=
  ∃ es clk since seen c0, w.heap[b]? = some (.map es clk) ∧ es.toList.map (fun e => (e.key, e.val)) = L.map (fun p => (Value.string p.1, p.2)) ∧ Stamps es clk ∧
    w.heap[r]? = some (.mapIter (some b) since seen c0) ∧ (∀ x ∈ es.toList, x.born < since) ∧ since ≤ c0 ∧ since ≤ clk ∧
    (leftOf es seen).toList.map (fun e => (e.key, e.val)) = rem.map (fun p => (Value.string p.1, p.2))

/-- How many are still to come. -/
def leftAt (w : World) (b r : Nat) : Nat :=
  match w.heap[b]?, w.heap[r]? with
  | some (.map es _), some (.mapIter _ _ seen _) => (leftOf es seen).size
  | _, _ => 0

theorem RangeAt.left {w : World} {b r : Nat} {L rem : List (ByteArray × Value)} (h : RangeAt w b r L rem) : leftAt w b r = rem.length := by
  obtain ⟨es, clk, since, seen, c0, hb, _, _, hr, _, _, _, hl⟩ := h
  have := congrArg List.length hl
  simp only [List.length_map, Array.length_toList] at this
  simp only [leftAt, hb, hr]
  exact this
theorem RangeAt.map {w : World} {b r : Nat} {L rem : List (ByteArray × Value)} (h : RangeAt w b r L rem) : MapAt w b L := by
  obtain ⟨es, clk, since, seen, c0, hb, he, hs, _⟩ := h
  exact ⟨es, clk, hb, he, hs⟩
theorem RangeAt.ne {w : World} {b r : Nat} {L rem : List (ByteArray × Value)} (h : RangeAt w b r L rem) : r ≠ b := by
  obtain ⟨es, clk, since, seen, c0, hb, he, hs, hr, _⟩ := h
  intro e
  rw [e, hb] at hr
  cases hr
theorem RangeAt.lt {w : World} {b r : Nat} {L rem : List (ByteArray × Value)} (h : RangeAt w b r L rem) : r < w.heap.size := by
  obtain ⟨es, clk, since, seen, c0, hb, he, hs, hr, _⟩ := h
  exact (Array.getElem?_eq_some_iff.1 hr).1
theorem RangeAt.kept {w w' : World} {b r : Nat} {L rem : List (ByteArray × Value)} (h : RangeAt w b r L rem) (hb' : w'.heap[b]? = w.heap[b]?) (hr' : w'.heap[r]? = w.heap[r]?) : RangeAt w' b r L rem := by
  obtain ⟨es, clk, since, seen, c0, hb, he, hs, hr, rest⟩ := h
  exact ⟨es, clk, since, seen, c0, hb'.trans hb, he, hs, hr'.trans hr, rest⟩
theorem RangeAt.below {w w' : World} {b r B : Nat} {L rem : List (ByteArray × Value)} (h : RangeAt w b r L rem) (hb : Below B w w') (h1 : b < B) (h2 : r < B) : RangeAt w' b r L rem := h.kept (hb.block b h1) (hb.block r h2)

theorem MapAt.range {P : Program} {w : World} {T kt et : TypeId} {b : Nat} {L : List (ByteArray × Value)} (h : MapAt w b L) (hm : P.underlying T = some (.map kt et)) :
    ∃ o, (Instr.range T (.map (some b))).run P w = .ok (.pointer (some ⟨w.heap.size, 0, none⟩)) (w.alloc o) ∧ RangeAt (w.alloc o) b w.heap.size L L := by
  have hlt := h.lt
  obtain ⟨es, clk, hb, he, hs⟩ := h
  refine ⟨_, run_range_map w T kt et b es clk hm hb, es, clk, clk, #[], clk, (Below.heap_alloc _ _ _ hlt).trans hb, he, hs, heap_alloc_new w _, hs.1, Nat.le_refl _, Nat.le_refl _, ?_⟩
  rw [← he]
  congr 1
  simp [leftOf]

theorem kv_inj {l : List MapEntry} {L : List (ByteArray × Value)} (h : l.map (fun e => (e.key, e.val)) = L.map (fun p => (Value.string p.1, p.2))) {e : MapEntry} (he : e ∈ l) : ∃ p ∈ L, e.key = .string p.1 ∧ e.val = p.2 := by
  have : (e.key, e.val) ∈ L.map (fun p => (Value.string p.1, p.2)) := by rw [← h]; exact List.mem_map.2 ⟨e, he, rfl⟩
  obtain ⟨p, hp, e2⟩ := List.mem_map.1 this
  simp only [Prod.mk.injEq] at e2
  exact ⟨p, hp, e2.1.symm, e2.2.symm⟩

/-- One goes out of those that were left. -/
theorem left_out (seen : Array Nat) (e : MapEntry) : ∀ (l : List MapEntry) (R : List (ByteArray × Value)), (l.map (·.born)).Nodup → e ∈ l → seen.contains e.born = false → (l.filter fun x => !seen.contains x.born).map (fun e => (e.key, e.val)) = R.map (fun p => (Value.string p.1, p.2)) →
    ∃ p R', e.key = .string p.1 ∧ e.val = p.2 ∧ R.Perm (p :: R') ∧ (l.filter fun x => !(seen.push e.born).contains x.born).map (fun e => (e.key, e.val)) = R'.map (fun p => (Value.string p.1, p.2))
  | [], R, _, he, _, _ => by cases he
  | a :: l, R, hn, he, hs, hR => by
    simp only [List.map_cons, List.nodup_cons] at hn
    obtain ⟨hn1, hn2⟩ := hn
    by_cases ha : a.born = e.born
    · have hae : e = a := by
        rcases List.mem_cons.1 he with h | h
        · exact h
        · exact absurd (List.mem_map.2 ⟨e, h, ha.symm⟩) hn1
      subst hae
      have hs' : (!seen.contains e.born) = true := by rw [hs]; rfl
      rw [List.filter_cons_of_pos (by simpa using hs')] at hR
      match R, hR with
      | p :: R', hR =>
        simp only [List.map_cons, List.cons.injEq, Prod.mk.injEq] at hR
        refine ⟨p, R', hR.1.1, hR.1.2, List.Perm.refl _, ?_⟩
        rw [List.filter_cons_of_neg (by simp), ← hR.2]
        congr 1
        refine List.filter_congr fun x hx => ?_
        have hne : x.born ≠ e.born := fun h => hn1 (List.mem_map.2 ⟨x, hx, h⟩)
        simp [hne]
    · have he' : e ∈ l := by
        rcases List.mem_cons.1 he with h | h
        · exact absurd (by rw [h]) ha
        · exact h
      by_cases hsa : seen.contains a.born = true
      · rw [List.filter_cons_of_neg (by simpa using hsa)] at hR
        obtain ⟨p, R', h1, h2, h3, h4⟩ := left_out seen e l R hn2 he' hs hR
        refine ⟨p, R', h1, h2, h3, ?_⟩
        rw [List.filter_cons_of_neg (by simp at hsa ⊢; exact fun h => absurd hsa h), h4]
      · have hsa' : seen.contains a.born = false := by simpa using hsa
        rw [List.filter_cons_of_pos (by simpa using hsa')] at hR
        match R, hR with
        | q :: R0, hR =>
          simp only [List.map_cons, List.cons.injEq] at hR
          obtain ⟨p, R', h1, h2, h3, h4⟩ := left_out seen e l R0 hn2 he' hs hR.2
          refine ⟨p, q :: R', h1, h2, (List.Perm.cons q h3).trans (List.Perm.swap p q R'), ?_⟩
          rw [List.filter_cons_of_pos (by simp at hsa' ⊢; exact ⟨hsa', ha⟩), List.map_cons, List.map_cons, h4, hR.1]

theorem RangeAt.next {P : Program} {w : World} {b r : Nat} {L rem : List (ByteArray × Value)} (h : RangeAt w b r L rem) (ty : TypeId) :
    (rem = [] ∧ (Instr.next (.pointer (some ⟨r, 0, none⟩)) false ty).run P w = .ok (.tuple #[.bool false]) w) ∨
    ∃ p rem' w', rem.Perm (p :: rem') ∧ (Instr.next (.pointer (some ⟨r, 0, none⟩)) false ty).run P w = .ok (.tuple #[.bool true, .string p.1, p.2]) w' ∧ RangeAt w' b r L rem' ∧
      w'.heap.size = w.heap.size ∧ w'.os = w.os ∧ w'.tape = w.tape ∧ w'.output = w.output ∧ (∀ j, j ≠ r → w'.heap[j]? = w.heap[j]?) ∧ (Instr.entry (.pointer (some ⟨r, 0, none⟩))).run P w' = .ok (.tuple #[.string p.1, p.2]) w' := by
  have hne := h.ne
  obtain ⟨es, clk, since, seen, c0, hb, he, hs, hr, hold, hsc, hsk, hl⟩ := h
  rcases run_next_at (P := P) w ty r b since c0 seen es clk hr hb hold hsc with ⟨h0, hrun⟩ | ⟨e, hem, w1, hal, hrun⟩
  · refine Or.inl ⟨?_, hrun⟩
    have := congrArg List.length hl
    simp only [List.length_map, Array.length_toList, h0] at this
    exact List.length_eq_zero_iff.1 this.symm
  · obtain ⟨hm1, hm2⟩ := mem_left hem
    have hl' : (es.toList.filter fun x => !seen.contains x.born).map (fun e => (e.key, e.val)) = rem.map (fun p => (Value.string p.1, p.2)) := by
      rw [← hl]; unfold leftOf; rw [Array.toList_filter]
    obtain ⟨p, rem', hk, hv, hperm, hrem⟩ := left_out seen e es.toList rem hs.2 hm1 hm2 hl'
    have hr1 : w1.heap[r]? = some (.mapIter (some b) since seen c0) := by rcases hal with rfl | rfl <;> exact hr
    have hb1 : w1.heap[b]? = some (.map es clk) := by rcases hal with rfl | rfl <;> exact hb
    have hset := MapKept.heap_set (o' := .mapIter (some b) since (seen.push e.born) clk) hr1
    have hb' : (setBlock w1 r (.mapIter (some b) since (seen.push e.born) clk)).heap[b]? = some (.map es clk) := (hset.2 b (fun e1 => hne e1.symm)).trans hb1
    rw [hk, hv] at hrun
    refine Or.inr ⟨p, rem', _, hperm, hrun, ⟨es, clk, since, seen.push e.born, clk, hb', he, hs, hset.1, hold, hsk, hsk, ?_⟩, ?_, ?_, ?_, ?_, ?_, ?_⟩
    · rw [← hrem]; unfold leftOf; rw [Array.toList_filter]
    · rcases hal with rfl | rfl <;> simp [setBlock]
    · rcases hal with rfl | rfl <;> rfl
    · rcases hal with rfl | rfl <;> rfl
    · rcases hal with rfl | rfl <;> rfl
    · intro j hj
      have := hset.2 j hj
      rcases hal with rfl | rfl <;> exact this
    · have := run_entry_at (P := P) _ r b since seen es clk e hset.1 hb' hm1 hs.2
      rw [hk, hv] at this
      exact this

/-- What is left when a key is struck. -/
def delP : List (ByteArray × Value) → ByteArray → List (ByteArray × Value)
  | [], _ => []
  | p :: r, n => if p.1 = n then r else p :: delP r n
theorem findNow_del (n : ByteArray) (q : MapEntry → Bool) : ∀ (l : List MapEntry) (L : List (ByteArray × Value)) (i : Nat), l.map (fun e => (e.key, e.val)) = L.map (fun p => (Value.string p.1, p.2)) → (∀ e ∈ l, e.key = .string n → q e = false) →
    (mapGet L n = none → delP L n = L) ∧ (∀ v, mapGet L n = some v → ∃ j, Instr.findNow .string (.string n) l i = some (some (i + j, v)) ∧ j < l.length ∧ (l.eraseIdx j).map (fun e => (e.key, e.val)) = (delP L n).map (fun p => (Value.string p.1, p.2)) ∧ (l.eraseIdx j).filter q = l.filter q)
  | [], [], i, h, _ => ⟨fun _ => rfl, fun v hv => by simp [mapGet] at hv⟩
  | [], p :: L, i, h, _ => by simp at h
  | e :: l, [], i, h, _ => by simp at h
  | e :: l, p :: L, i, h, hq => by
    simp only [List.map_cons, List.cons.injEq, Prod.mk.injEq] at h
    obtain ⟨⟨hk, he⟩, ht⟩ := h
    obtain ⟨ih1, ih2⟩ := findNow_del n q l L (i + 1) ht fun e he => hq e (by simp [he])
    by_cases hn : p.1 = n
    · have hs : Instr.sameNow .string (.string n) e.key = some true := by
        rw [hk, hn]
        show some (n == n) = some true
        rw [show (n == n) = true from (MapKept.bytes_beq _ _).2 rfl]
      refine ⟨fun h => by simp [mapGet, hn] at h, fun v hv => ?_⟩
      simp only [mapGet, hn, if_true, Option.some.injEq] at hv
      refine ⟨0, by simp [Instr.findNow, hs, he, hv], by simp, ?_, ?_⟩
      · simp [delP, hn, ht]
      · rw [List.eraseIdx_cons_zero, List.filter_cons_of_neg (by rw [hq e (by simp) (by rw [hk, hn])]; simp)]
    · have hs : Instr.sameNow .string (.string n) e.key = some false := by
        rw [hk]
        show some (n == p.1) = some false
        have hb : (n == p.1) = false := by
          cases hh : (n == p.1) with
          | false => rfl
          | true => exact absurd ((MapKept.bytes_beq _ _).1 hh).symm hn
        rw [hb]
      refine ⟨fun h => ?_, fun v hv => ?_⟩
      · rw [mapGet, if_neg hn] at h
        rw [delP, if_neg hn, ih1 h]
      · rw [mapGet, if_neg hn] at hv
        obtain ⟨j, h1, h2, h3, h4⟩ := ih2 v hv
        refine ⟨j + 1, by simp [Instr.findNow, hs, h1]; omega, by simpa using h2, ?_, ?_⟩
        · rw [delP, if_neg hn]; simp [h3, hk, he]
        · rw [List.eraseIdx_cons_succ]
          cases hqe : q e with
          | true => rw [List.filter_cons_of_pos hqe, List.filter_cons_of_pos hqe, h4]
          | false => rw [List.filter_cons_of_neg (by simp [hqe]), List.filter_cons_of_neg (by simp [hqe]), h4]

theorem RangeAt.drop {P : Program} {w : World} {T kt et ty : TypeId} {b r : Nat} {L rem : List (ByteArray × Value)} (h : RangeAt w b r L rem) (hm : P.underlying T = some (.map kt et)) (hk : P.underlying kt = some .string) (n : ByteArray) (hr0 : ∀ p ∈ rem, p.1 ≠ n) (v : Value) (hv : mapGet L n = some v) :
    ∃ w', (Builtin.delete_ #[T, kt] ty #[.map (some b), .string n]).run P w = .ok (.tuple #[]) w' ∧ RangeAt w' b r (delP L n) rem ∧ w'.heap.size = w.heap.size ∧ w'.os = w.os ∧ w'.tape = w.tape ∧ w'.output = w.output ∧ (∀ j, j ≠ b → w'.heap[j]? = w.heap[j]?) := by
  have hne := h.ne
  obtain ⟨es, clk, since, seen, c0, hb, he, hs, hr, hold, hsc, hsk, hl⟩ := h
  have hl' : (es.toList.filter fun x => !seen.contains x.born).map (fun e => (e.key, e.val)) = rem.map (fun p => (Value.string p.1, p.2)) := by
    rw [← hl]; unfold leftOf; rw [Array.toList_filter]
  have hq : ∀ e ∈ es.toList, e.key = .string n → (!seen.contains e.born) = false := fun e hee hke => by
    cases hc : seen.contains e.born with
    | true => rfl
    | false =>
      obtain ⟨p, hp, h1, _⟩ := kv_inj hl' (List.mem_filter.2 ⟨hee, by rw [hc]; rfl⟩)
      rw [hke] at h1
      exact absurd (Value.string.inj h1).symm (hr0 p hp)
  obtain ⟨j, h1, h2, h3, h4⟩ := (findNow_del n (fun x => !seen.contains x.born) es.toList L 0 he hq).2 v hv
  rw [Nat.zero_add] at h1
  have hc : ∀ b, (Instr.checkKey b 10000 kt (.string n)).run P w = .ok () w := fun b => MapKept.run_checkKey (k := .string n) hk (by simp [MapKept.IsKey]) b 9999
  have hsub : (es.eraseIdxIfInBounds j).toList = es.toList.eraseIdx j := by
    unfold Array.eraseIdxIfInBounds
    rw [dif_pos (by simpa using h2)]
    simp
  have hmem : ∀ x ∈ (es.eraseIdxIfInBounds j).toList, x ∈ es.toList := fun x hx => by rw [hsub] at hx; exact (List.eraseIdx_sublist _ _).subset hx
  refine ⟨setBlock w b (.map (es.eraseIdxIfInBounds j) clk), ?_, ⟨es.eraseIdxIfInBounds j, clk, since, seen, c0, (MapKept.heap_set hb).1, by rw [hsub]; exact h3, ⟨fun x hx => hs.1 x (hmem x hx), ?_⟩, ((MapKept.heap_set hb).2 r hne).trans hr, fun x hx => hold x (hmem x hx), hsc, hsk, ?_⟩, by simp [setBlock], rfl, rfl, rfl, fun i hi => (MapKept.heap_set hb).2 i hi⟩
  · simp [Builtin.delete_, run_underlying hm, MapKept.run_getObj_map hb, hc, MapKept.run_findKey hk h1, MapKept.run_setObj_map _ hb, Result.andThen, setBlock]
  · rw [hsub]
    exact hs.2.sublist ((List.eraseIdx_sublist _ _).map _)
  · unfold leftOf
    rw [Array.toList_filter, hsub, h4]
    exact hl'
#print axioms RangeAt.next
#print axioms RangeAt.drop
end Go.Proofs.Ytkfppicbningaaa
