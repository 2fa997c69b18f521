
/- Plain: what the laws on orders ask of terms made of raw numbers. -/
import Derived.Test.YtmgggmlgmpfedaaZTopPathOwn
import Derived.Test.YtmgggmlgmpfedaaW141
import Derived.Test.YtmgggmlgmpfedaaW100
import Derived.Test.YtmgggmlgmpfedaaW150
import Derived.Test.YtmgggmlgmpfedaaW151
import Derived.Test.YtmgggmlgmpfedaaW53
namespace Go.Proofs.Ytmgggmlgmpfedaa
open Go.RowKit
set_option linter.unusedSimpArgs false
set_option linter.unusedVariables false

theorem forT_memW {n : ByteArray} {x : Tm} : ∀ {s : List Bd}, forT s n = some x → ∃ d ∈ s, d.nm = n ∧ d.t = x
  | [], h => by simp [forT] at h
  | d :: r, h => by
    rw [forT] at h
    split at h
    · rename_i e
      exact ⟨d, by simp, e, by simpa using h⟩
    · obtain ⟨d', h1, h2⟩ := forT_memW h
      exact ⟨d', by simp [h1], h2⟩
theorem four_var {n : ByteArray} (h : n ∈ four) : varB n = true := by
  simp only [four, List.mem_cons, List.mem_nil_iff, or_false] at h
  rcases h with rfl | rfl | rfl | rfl <;> decide
theorem varsB_four {s : List Bd} (h : (s.map (·.nm)).Sublist four) : VarsB s := fun n x hx => by
  obtain ⟨d, hd, rfl, _⟩ := forT_memW hx
  exact four_var (h.subset (List.mem_map.2 ⟨d, hd, rfl⟩))
theorem err_twoW {a b : Tm} (ha : errL [a] = 0) (hb : errL [b] = 0) : errL [a, b] = 0 := by rw [errL_cons, if_pos ha]; exact hb
theorem err_on {s : List Bd} (hv : VarsB s) (hs : ∀ d ∈ s, errL [d.t] = 0) : ∀ l : List Tm, errL l = 0 → errL (onL s l) = 0 := by
  intro l
  induction l using Tm.indL with
  | h0 => intro _; simp [onL, errL]
  | h n l r ihl ihr =>
    intro he
    have h1 : errL [(⟨n, l⟩ : Tm)] = 0 := by
      rw [errL_cons] at he
      split at he
      · assumption
      · rename_i h; exact absurd he h
    have h2 : errL r = 0 := by rw [errL_cons, if_pos h1] at he; exact he
    have hn : nameB n = true := by
      simp only [errL] at h1
      split at h1
      · assumption
      · exact absurd h1 (by decide)
    have hk : varB n = true → l = [] := fun hvn => by
      simp only [errL, hn, if_true, hvn, Bool.true_and] at h1
      cases l with
      | nil => rfl
      | cons t l => simp at h1
    have hl : errL l = 0 := by
      simp only [errL, hn, if_true] at h1
      split at h1
      · exact absurd h1 (by decide)
      · split at h1
        · assumption
        · exact h1
    rw [onL_cons, errL_cons]
    have key : errL [onT s ⟨n, l⟩] = 0 := by
      cases hvn : varB n with
      | false => rw [on_sym hv hvn, ← onL_map]; exact err_node hn hvn (ihl hl)
      | true =>
        have e := hk hvn
        subst e
        cases hf : forT s n with
        | some x =>
          rw [onT_some hf]
          obtain ⟨d, hd, _, rfl⟩ := forT_memW hf
          exact hs d hd
        | none =>
          rw [onT_deep (Or.inr hf)]
          simpa [onL] using err_leaf hn
    rw [if_pos key]
    exact ihr h2
theorem err_onT {s : List Bd} (hv : VarsB s) (hs : ∀ d ∈ s, errL [d.t] = 0) {t : Tm} (h : errL [t] = 0) : errL [onT s t] = 0 := by
  have h := err_on hv hs [t] h
  rw [onL_cons] at h
  simpa [onL] using h
theorem may_of {t : Tm} (he : errL [t] = 0) (hz : sizeL [t] ≤ 200) : mayE t = 0 := by
  unfold mayE
  rw [if_neg (by omega)]
  exact he
theorem err_pre : ∀ l : List Tm, errL l = 0 → ∀ k ∈ preL l, errL [k] = 0 := by
  intro l
  induction l using Tm.indL with
  | h0 => intro _ k hk; simp [preL] at hk
  | h s l r ihl ihr =>
    intro he k hk
    have h1 : errL [(⟨s, l⟩ : Tm)] = 0 := by
      rw [errL_cons] at he
      split at he
      · assumption
      · rename_i h; exact absurd he h
    have h2 : errL r = 0 := by rw [errL_cons, if_pos h1] at he; exact he
    have hl : errL l = 0 := by
      simp only [errL] at h1
      split at h1
      · split at h1
        · exact absurd h1 (by decide)
        · split at h1
          · assumption
          · exact h1
      · exact absurd h1 (by decide)
    rw [preL] at hk
    rcases List.mem_cons.1 hk with rfl | hk
    · exact h1
    · rcases List.mem_append.1 hk with hk | hk
      · exact ihl hl k hk
      · exact ihr h2 k hk
theorem flat_errW {l : List Tm} (h : errL l = 0) : Flat l := fun k hk hv => by
  have h1 := err_pre l h k hk
  obtain ⟨s, a⟩ := k
  cases a with
  | nil => rfl
  | cons t a =>
    simp only [errL] at h1
    simp only at hv
    split at h1
    · simp [hv] at h1
    · exact absurd h1 (by decide)

/-- A term around another one: three ways. -/
def ctxT : Nat → Tm → Tm → Tm
  | 0, a, c => ⟨⟨#[102]⟩, [a, c]⟩
  | 1, a, c => ⟨⟨#[103]⟩, [c, a]⟩
  | _, a, _ => ⟨⟨#[104]⟩, [a]⟩
theorem ctx_path {row : List ByteArray} {a b : Tm} (m : Nat) (c : Tm) (h : pathB row a b = true) : pathB row (ctxT m a c) (ctxT m b c) = true := by
  match m with
  | 0 => exact path_ctx (by decide) [] [c] h
  | 1 => exact path_ctx (by decide) [c] [] h
  | n + 2 => exact path_ctx (by decide) [] [] h
theorem ctx_weight {row : List ByteArray} {a b : Tm} (m : Nat) (c : Tm) (h : weightB row a b = true) : weightB row (ctxT m a c) (ctxT m b c) = true := by
  match m with
  | 0 => exact weight_ctx (by decide) [] [c] h
  | 1 => exact weight_ctx (by decide) [c] [] h
  | n + 2 => exact weight_ctx (by decide) [] [] h
theorem ctx_may {a c : Tm} (m : Nat) (ha : errL [a] = 0) (hc : errL [c] = 0) (za : sizeL [a] ≤ 60) (zc : sizeL [c] ≤ 60) : mayE (ctxT m a c) = 0 := by
  have h2 := sizeL_append [a] [c]
  have h3 := sizeL_append [c] [a]
  simp only [List.cons_append, List.nil_append] at h2 h3
  match m with
  | 0 => exact may_of (err_node (by decide) (by decide) (err_twoW ha hc)) (by show sizeL [(⟨_, [a, c]⟩ : Tm)] ≤ 200; rw [size_one]; omega)
  | 1 => exact may_of (err_node (by decide) (by decide) (err_twoW hc ha)) (by show sizeL [(⟨_, [c, a]⟩ : Tm)] ≤ 200; rw [size_one]; omega)
  | n + 2 => exact may_of (err_node (by decide) (by decide) ha) (by show sizeL [(⟨_, [a]⟩ : Tm)] ≤ 200; rw [size_one]; omega)
/-- The term with a leaf ahead of it. -/
def upT (a : Tm) : Tm := ⟨⟨#[102]⟩, [⟨⟨#[99]⟩, []⟩, a]⟩
theorem up_may {a : Tm} (ha : errL [a] = 0) (za : sizeL [a] ≤ 60) : mayE (upT a) = 0 := ctx_may (a := ⟨⟨#[99]⟩, []⟩) 0 (err_leaf (by decide)) ha (by simp [sizeL]) za
theorem up_path (row : List ByteArray) (a : Tm) : pathB row (upT a) a = true := path_sub (a := upT a) (show varB ⟨#[102]⟩ = false by decide) (by simp [upT])
theorem up_weight (row : List ByteArray) (a : Tm) : weightB row (upT a) a = true := weight_sub [⟨⟨#[99]⟩, []⟩] [] a

/-- From now on, whatever else is made. -/
def Evr (P : World → Prop) (w : World) : Prop := ∀ w', Below w.heap.size w w' → P w'
theorem Evr.now {P : World → Prop} {w : World} (h : Evr P w) : P w := h w (Below.refl _ _)
theorem Evr.later {P : World → Prop} {w w' : World} (h : Evr P w) (hb : Below w.heap.size w w') : Evr P w' := fun w'' hb' => h w'' (hb.trans (hb'.mono hb.size))
theorem Evr.imp {P Q : World → Prop} {w : World} (h : Evr P w) (f : ∀ w, P w → Q w) : Evr Q w := fun w' hb => f w' (h w' hb)
theorem Evr.and {P Q : World → Prop} {w : World} (h : Evr P w) (h' : Evr Q w) : Evr (fun w => P w ∧ Q w) w := fun w' hb => ⟨h w' hb, h' w' hb⟩
theorem Evr.alloc {P : World → Prop} {w : World} (h : Evr P w) (o : Obj) : Evr P (w.alloc o) := h.later ((Below.refl _ _).alloc (Nat.le_refl _) o)
theorem evBelow {w0 w : World} (h : Below w0.heap.size w0 w) : Evr (fun w => Below w0.heap.size w0 w) w := fun w' hb => h.trans (hb.mono h.size)
theorem Sl.ev {w : World} {X : Nat → Prop} {a : Option Addr} {l : List Tm} (h : Sl w X a l) : Evr (fun w => Sl w (fun _ => True) a l) w := fun w' hb => (h.later hb).mono fun _ _ _ => trivial
theorem Blk.ev {w : World} {b : Nat} {cs : Array Value} {T : Nat} (h : Blk w b cs T) : Evr (fun w => Blk w b cs T) w := fun w' hb => h.below hb h.lt
theorem LV.ev {α : Type} {f : α → Value} {w : World} {X : Nat → Prop} {v : Value} {l : List α} (h : LV f w X v l) : Evr (fun w => LV f w (fun _ => True) v l) w := fun w' hb => (h.later hb).mono fun _ _ _ => trivial
theorem BV.ev {w : World} {X : Nat → Prop} {v : Value} {l : List Bd} (h : BV w X v l) : Evr (fun w => BV w (fun _ => True) v l) w := fun w' hb => (h.later hb).mono fun _ _ _ => trivial
/-- A term that was given back, and a box for it. -/
theorem Evr.box {P : World → Prop} {w1 w2 : World} {Y : Nat → Prop} {t : Tm} {a : Option Addr} {T : Nat} (A : Evr P w1) (hb : Below w1.heap.size w1 w2) (hs : Sl w2 Y a t.args) (c : Nat) : Evr (fun w => P w ∧ Blk w w2.heap.size #[.string t.name, .slice a t.args.length c] T ∧ Sl w (fun _ => True) a t.args) (w2.alloc (.cells #[.string t.name, .slice a t.args.length c] T)) :=
  ((A.later hb).alloc _).and ((Blk.new w2 _ _).ev.and (hs.ev.alloc _))

theorem ordE_of {row : List ByteArray} {a b : Tm} (hr : rowE row = 0) (ha : mayE a = 0) (hb : mayE b = 0) : ordE row a b = 0 := by
  unfold ordE twoE
  rw [if_pos hr, if_pos ha]
  exact hb
theorem path_good {row : List ByteArray} {x y : Tm} (hr : rowE row = 0) (hx : mayE x = 0) (hy : mayE y = 0) (z : Bool) (hz : z = pathB row x y) (u : Value) (ax ay : Option Addr) (cx cy : Nat) (w : World) (hu : LV Value.string w (fun _ => True) u row) (hsx : Sl w (fun _ => True) ax x.args) (hsy : Sl w (fun _ => True) ay y.args) :
    Calls Try.prog 7 #[u, .agg #[.string x.name, .slice ax x.args.length cx], .agg #[.string y.name, .slice ay y.args.length cy]] w fun e w' => e = .returned (.tuple #[.bool z, .int .i64 0]) ∧ Below w.heap.size w w' := by
  refine (oPath_any row x y u _ _ w _ hu ⟨_, _, rfl, hsx⟩ ⟨_, _, rfl, hsy⟩).mono ?_
  rintro e w' ⟨rfl, hb⟩
  rw [ordE_of hr hx hy, hz]
  exact ⟨by simp, hb⟩
/-- A box with the term, a leaf ahead of it. -/
def UpW (S : World → Prop) (a : Tm) (o : Value) (wc : World) : Prop := ∃ (U : Nat) (a6 : Option Addr) (c6 : Nat), o = .pointer (some ⟨U, 0, none⟩) ∧ Evr (fun wr => S wr ∧ Blk wr U #[.string (upT a).name, .slice a6 (upT a).args.length c6] 28 ∧ Sl wr (fun _ => True) a6 (upT a).args) wc
theorem up_end {S : World → Prop} {wf : World} {a : Tm} {aa : Option Addr} {ca U G : Nat} (A : Evr S wf) (hs : ∀ w, S w → Sl w (fun _ => True) aa a.args) (hU : Blk wf U #[.string ⟨#[102]⟩, .slice (some ⟨G, 0, none⟩) 2 2] 28) (hG : Blk wf G #[.string ⟨#[99]⟩, .slice none 0 0, .string a.name, .slice aa a.args.length ca] 28) : UpW S a (.pointer (some ⟨U, 0, none⟩)) wf :=
  ⟨U, some ⟨G, 0, none⟩, 2, rfl, fun w' hb => ⟨A w' hb, hU.ev w' hb, sl_two (t5 := ⟨⟨#[99]⟩, []⟩) (Z5 := fun _ => True) (Z6 := fun _ => True) (hG.ev w' hb) trivial ⟨by simp, Or.inl rfl⟩ (hs _ (A w' hb)) (fun _ _ _ => trivial) (fun _ _ _ => trivial)⟩⟩
theorem up_endA {S : World → Prop} {w : World} {a : Tm} {aa : Option Addr} {ca : Nat} (A : Evr S w) (hs : ∀ w, S w → Sl w (fun _ => True) aa a.args) :
    UpW S a (.pointer (some ⟨w.heap.size + 1, 0, none⟩)) ((w.alloc (.cells #[.string ⟨#[99]⟩, .slice none 0 0, .string a.name, .slice aa a.args.length ca] 28)).alloc (.cells #[.string ⟨#[102]⟩, .slice (some ⟨w.heap.size, 0, none⟩) 2 2] 28)) := by
  have hG := (Blk.new w #[.string ⟨#[99]⟩, .slice none 0 0, .string a.name, .slice aa a.args.length ca] 28).alloc (.cells #[.string ⟨#[102]⟩, .slice (some ⟨w.heap.size, 0, none⟩) 2 2] 28)
  have hU := Blk.new (w.alloc (.cells #[.string ⟨#[99]⟩, .slice none 0 0, .string a.name, .slice aa a.args.length ca] 28)) #[.string ⟨#[102]⟩, .slice (some ⟨w.heap.size, 0, none⟩) 2 2] 28
  rw [World.size_alloc] at hU
  exact up_end ((A.alloc _).alloc _) hs hU hG
theorem up_endB {S : World → Prop} {w : World} {a : Tm} {aa : Option Addr} {ca : Nat} (A : Evr S w) (hs : ∀ w, S w → Sl w (fun _ => True) aa a.args) :
    UpW S a (.pointer (some ⟨w.heap.size, 0, none⟩)) ((w.alloc (.cells #[.string ⟨#[102]⟩, .slice (some ⟨w.heap.size + 1, 0, none⟩) 2 2] 28)).alloc (.cells #[.string ⟨#[99]⟩, .slice none 0 0, .string a.name, .slice aa a.args.length ca] 28)) := by
  have hU := (Blk.new w #[.string ⟨#[102]⟩, .slice (some ⟨w.heap.size + 1, 0, none⟩) 2 2] 28).alloc (.cells #[.string ⟨#[99]⟩, .slice none 0 0, .string a.name, .slice aa a.args.length ca] 28)
  have hG := Blk.new (w.alloc (.cells #[.string ⟨#[102]⟩, .slice (some ⟨w.heap.size + 1, 0, none⟩) 2 2] 28)) #[.string ⟨#[99]⟩, .slice none 0 0, .string a.name, .slice aa a.args.length ca] 28
  rw [World.size_alloc] at hG
  exact up_end ((A.alloc _).alloc _) hs hU hG
theorem up_worldC {S : World → Prop} {w w1 : World} {a : Tm} {aa : Option Addr} (A : Evr S w) (hb : Below w.heap.size w w1) (hB : Blk w1 w.heap.size #[.string ⟨#[]⟩, .slice none 0 0] 28) (hs : ∀ w, S w → Sl w (fun _ => True) aa a.args) (ca : Nat) :
    Evr S (((w1.setCell ⟨w.heap.size, 0, none⟩ (.string ⟨#[102]⟩)).setCell ⟨w.heap.size, 1, none⟩ (.slice (some ⟨w1.heap.size, 0, none⟩) 2 2)).alloc (.cells #[.string ⟨#[99]⟩, .slice none 0 0, .string a.name, .slice aa a.args.length ca] 28)) ∧
    UpW S a (.pointer (some ⟨w.heap.size, 0, none⟩)) (((w1.setCell ⟨w.heap.size, 0, none⟩ (.string ⟨#[102]⟩)).setCell ⟨w.heap.size, 1, none⟩ (.slice (some ⟨w1.heap.size, 0, none⟩) 2 2)).alloc (.cells #[.string ⟨#[99]⟩, .slice none 0 0, .string a.name, .slice aa a.args.length ca] 28)) := by
  have hb2 : Below w.heap.size w ((w1.setCell ⟨w.heap.size, 0, none⟩ (.string ⟨#[102]⟩)).setCell ⟨w.heap.size, 1, none⟩ (.slice (some ⟨w1.heap.size, 0, none⟩) 2 2)) := (hb.setCell (by simp) _).setCell (by simp) _
  have hU := ((hB.set 0 (.string ⟨#[102]⟩)).set 1 (.slice (some ⟨w1.heap.size, 0, none⟩) 2 2)).alloc (.cells #[.string ⟨#[99]⟩, .slice none 0 0, .string a.name, .slice aa a.args.length ca] 28)
  have hG := Blk.new ((w1.setCell ⟨w.heap.size, 0, none⟩ (.string ⟨#[102]⟩)).setCell ⟨w.heap.size, 1, none⟩ (.slice (some ⟨w1.heap.size, 0, none⟩) 2 2)) #[.string ⟨#[99]⟩, .slice none 0 0, .string a.name, .slice aa a.args.length ca] 28
  have e : ((w1.setCell ⟨w.heap.size, 0, none⟩ (.string ⟨#[102]⟩)).setCell ⟨w.heap.size, 1, none⟩ (.slice (some ⟨w1.heap.size, 0, none⟩) 2 2)).heap.size = w1.heap.size := by simp [World.setCell]
  rw [e] at hG
  have A2 := (A.later hb2).alloc (.cells #[.string ⟨#[99]⟩, .slice none 0 0, .string a.name, .slice aa a.args.length ca] 28)
  exact ⟨A2, up_end A2 hs hU hG⟩
theorem onSomeV_any (ls : List Bd) (t : Tm) (u v : Value) (w : World) (hu : BV w (fun _ => True) u ls) (hv : TV w (fun _ => True) v t) (hsm : sizeL [t] ≤ 1000000) :
    Calls Try.prog 10 #[u, v] w fun e w' => ∃ (x : Tm) (a6 : Option Addr) (c6 : Nat) (ok : Bool), e = .returned (.tuple #[.agg #[.string x.name, .slice a6 x.args.length c6], .bool ok]) ∧ (ok = true → x = onT ls t) ∧ Sl w' (fun _ => True) a6 x.args ∧ Below w.heap.size w w' := by
  refine (onAll_any ls t u v w _ hu hv hsm).mono ?_
  rintro e w' ⟨hb, ⟨_, rfl⟩ | ⟨_, a6, c6, rfl, hs⟩⟩
  · exact ⟨⟨⟨#[]⟩, []⟩, none, 0, false, rfl, by simp, ⟨by simp, Or.inl rfl⟩, hb⟩
  · exact ⟨onT ls t, a6, c6, true, rfl, fun _ => rfl, hs.mono fun _ _ _ => trivial, hb⟩
theorem ev_two {S : World → Prop} {w : World} {t5 t6 : Tm} {a5 a6 : Option Addr} (A : Evr S w) (h5 : ∀ w, S w → Sl w (fun _ => True) a5 t5.args) (h6 : ∀ w, S w → Sl w (fun _ => True) a6 t6.args) (c5 c6 N : Nat) (hN : w.heap.size = N) : Evr (fun wr => S wr ∧ Sl wr (fun _ => True) (some ⟨N, 0, none⟩) [t5, t6]) (w.alloc (.cells #[.string t5.name, .slice a5 t5.args.length c5, .string t6.name, .slice a6 t6.args.length c6] 28)) := by
  subst hN
  have k := Blk.new w #[.string t5.name, .slice a5 t5.args.length c5, .string t6.name, .slice a6 t6.args.length c6] 28
  exact fun w' hb => ⟨A.alloc _ w' hb, sl_two (k.ev w' hb) trivial (h5 _ (A.alloc _ w' hb)) (h6 _ (A.alloc _ w' hb)) (fun _ _ _ => trivial) (fun _ _ _ => trivial)⟩
theorem ev_one {S : World → Prop} {w : World} {t5 : Tm} {a5 : Option Addr} (A : Evr S w) (h5 : ∀ w, S w → Sl w (fun _ => True) a5 t5.args) (c5 N : Nat) (hN : w.heap.size = N) : Evr (fun wr => S wr ∧ Sl wr (fun _ => True) (some ⟨N, 0, none⟩) [t5]) (w.alloc (.cells #[.string t5.name, .slice a5 t5.args.length c5] 28)) := by
  subst hN
  have k := Blk.new w #[.string t5.name, .slice a5 t5.args.length c5] 28
  exact fun w' hb => ⟨A.alloc _ w' hb, sl_one (k.ev w' hb) trivial (h5 _ (A.alloc _ w' hb)) (fun _ _ _ => trivial)⟩
theorem ev_blk {S : World → Prop} {w : World} (A : Evr S w) (cs : Array Value) (T N : Nat) (hN : w.heap.size = N) : Evr (fun wr => S wr ∧ Blk wr N cs T) (w.alloc (.cells cs T)) := by
  subst hN
  exact (A.alloc _).and (Blk.new w cs T).ev
/-- Six terms around two others, in a row. -/
structure CtxW (S : World → Prop) (a b c : Tm) (N0 N1 N2 N3 N4 N5 B : Nat) (wr : World) : Prop where
  st : S wr
  k : Blk wr B #[.string ⟨#[102]⟩, .slice (some ⟨N0, 0, none⟩) 2 2, .string ⟨#[102]⟩, .slice (some ⟨N1, 0, none⟩) 2 2, .string ⟨#[103]⟩, .slice (some ⟨N2, 0, none⟩) 2 2, .string ⟨#[103]⟩, .slice (some ⟨N3, 0, none⟩) 2 2, .string ⟨#[104]⟩, .slice (some ⟨N4, 0, none⟩) 1 1, .string ⟨#[104]⟩, .slice (some ⟨N5, 0, none⟩) 1 1] 28
  s0 : Sl wr (fun _ => True) (some ⟨N0, 0, none⟩) [a, c]
  s1 : Sl wr (fun _ => True) (some ⟨N1, 0, none⟩) [b, c]
  s2 : Sl wr (fun _ => True) (some ⟨N2, 0, none⟩) [c, a]
  s3 : Sl wr (fun _ => True) (some ⟨N3, 0, none⟩) [c, b]
  s4 : Sl wr (fun _ => True) (some ⟨N4, 0, none⟩) [a]
  s5 : Sl wr (fun _ => True) (some ⟨N5, 0, none⟩) [b]
theorem ctx_world {S : World → Prop} {w : World} {a b c : Tm} {aa ab ac : Option Addr} (A : Evr S w) (ha : ∀ w, S w → Sl w (fun _ => True) aa a.args) (hb : ∀ w, S w → Sl w (fun _ => True) ab b.args) (hc : ∀ w, S w → Sl w (fun _ => True) ac c.args) (ca cb cc : Nat) :
    Evr (CtxW S a b c (w.heap.size) (w.heap.size + 1) (w.heap.size + 1 + 1) (w.heap.size + 1 + 1 + 1) (w.heap.size + 1 + 1 + 1 + 1) (w.heap.size + 1 + 1 + 1 + 1 + 1) (w.heap.size + 1 + 1 + 1 + 1 + 1 + 1)) (((((((w.alloc (.cells #[.string a.name, .slice aa a.args.length ca, .string c.name, .slice ac c.args.length cc] 28)).alloc (.cells #[.string b.name, .slice ab b.args.length cb, .string c.name, .slice ac c.args.length cc] 28)).alloc (.cells #[.string c.name, .slice ac c.args.length cc, .string a.name, .slice aa a.args.length ca] 28)).alloc (.cells #[.string c.name, .slice ac c.args.length cc, .string b.name, .slice ab b.args.length cb] 28)).alloc (.cells #[.string a.name, .slice aa a.args.length ca] 28)).alloc (.cells #[.string b.name, .slice ab b.args.length cb] 28)).alloc (.cells #[.string ⟨#[102]⟩, .slice (some ⟨w.heap.size, 0, none⟩) 2 2, .string ⟨#[102]⟩, .slice (some ⟨w.heap.size + 1, 0, none⟩) 2 2, .string ⟨#[103]⟩, .slice (some ⟨w.heap.size + 1 + 1, 0, none⟩) 2 2, .string ⟨#[103]⟩, .slice (some ⟨w.heap.size + 1 + 1 + 1, 0, none⟩) 2 2, .string ⟨#[104]⟩, .slice (some ⟨w.heap.size + 1 + 1 + 1 + 1, 0, none⟩) 1 1, .string ⟨#[104]⟩, .slice (some ⟨w.heap.size + 1 + 1 + 1 + 1 + 1, 0, none⟩) 1 1] 28)) := by
  have A1 := ev_two A ha hc ca cc _ rfl
  have A2 := ev_two A1 (fun _ h => hb _ h.1) (fun _ h => hc _ h.1) cb cc (w.heap.size + 1) (by simp)
  have A3 := ev_two A2 (fun _ h => hc _ h.1.1) (fun _ h => ha _ h.1.1) cc ca (w.heap.size + 1 + 1) (by simp)
  have A4 := ev_two A3 (fun _ h => hc _ h.1.1.1) (fun _ h => hb _ h.1.1.1) cc cb (w.heap.size + 1 + 1 + 1) (by simp)
  have A5 := ev_one A4 (fun _ h => ha _ h.1.1.1.1) ca (w.heap.size + 1 + 1 + 1 + 1) (by simp)
  have A6 := ev_one A5 (fun _ h => hb _ h.1.1.1.1.1) cb (w.heap.size + 1 + 1 + 1 + 1 + 1) (by simp)
  have A7 := ev_blk A6 #[.string ⟨#[102]⟩, .slice (some ⟨w.heap.size, 0, none⟩) 2 2, .string ⟨#[102]⟩, .slice (some ⟨w.heap.size + 1, 0, none⟩) 2 2, .string ⟨#[103]⟩, .slice (some ⟨w.heap.size + 1 + 1, 0, none⟩) 2 2, .string ⟨#[103]⟩, .slice (some ⟨w.heap.size + 1 + 1 + 1, 0, none⟩) 2 2, .string ⟨#[104]⟩, .slice (some ⟨w.heap.size + 1 + 1 + 1 + 1, 0, none⟩) 1 1, .string ⟨#[104]⟩, .slice (some ⟨w.heap.size + 1 + 1 + 1 + 1 + 1, 0, none⟩) 1 1] 28 (w.heap.size + 1 + 1 + 1 + 1 + 1 + 1) (by simp)
  exact A7.imp fun wr h => ⟨h.1.1.1.1.1.1.1, h.2, h.1.1.1.1.1.1.2, h.1.1.1.1.1.2, h.1.1.1.1.2, h.1.1.1.2, h.1.1.2, h.1.2⟩
end Go.Proofs.Ytmgggmlgmpfedaa
