import Derived.Test.YtbnmlkaejdpigaaGreatDoorZDTopLocalOwn
namespace Go.Proofs.YtbnmlkaejdpigaaGreatDoor
open Go.RowKit Go.Shelf
attribute [local go_sem] Oper.semAt_some
set_option linter.unusedSimpArgs false
set_option linter.unusedVariables false
set_option maxRecDepth 8000
theorem os_set (w : World) (a : Addr) (v : Value) : (w.setCell a v).os = w.os := rfl
theorem tape_set (w : World) (a : Addr) (v : Value) : (w.setCell a v).tape = w.tape := rfl
theorem output_set (w : World) (a : Addr) (v : Value) : (w.setCell a v).output = w.output := rfl
def Solid (W : World) (b : Nat) : Prop := (∀ r, W.heap[b]? ≠ some (.loop r)) ∧ ∀ d, W.heap[b]? ≠ some (.deferred d)
theorem solid_cell {W : World} {b i : Nat} {v : Value} (h : W.cell? ⟨b, i, none⟩ = some v) : Solid W b :=
 ⟨(fun r e => by simp [World.cell?, e] at h), (fun d e => by simp [World.cell?, e] at h)⟩
theorem lies_solid {w : World} {X : Nat → Prop} (l : List Tm) : ∀ b o, Lies w X b o l → Lies w (fun b => X b ∧ Solid w b) b o l := by
 induction l using Tm.indL with
 | h0 => intro b o _; simp [Lies]
 | h s l r ihl ihr =>
  intro b o hl
  simp only [Lies] at hl ⊢
  obtain ⟨hx, h1, ⟨a, c, h2, h2', h3⟩, h4⟩ := hl
  refine ⟨⟨hx, solid_cell h1⟩, h1, ⟨a, c, h2, h2', ?_⟩, ihr _ _ h4⟩
  rcases h3 with h3 | ⟨b', o', h3, h5⟩
  ·exact Or.inl h3
  ·exact Or.inr ⟨b', o', h3, ihl _ _ h5⟩
theorem Sl.solid {w : World} {X : Nat → Prop} {a : Option Addr} {l : List Tm} (h : Sl w X a l) : Sl w (fun b => X b ∧ Solid w b) a l := by
 obtain ⟨hl, h⟩ := h
 refine ⟨hl, ?_⟩
 rcases h with h | ⟨b, o, e, h⟩
 ·exact Or.inl h
 ·exact Or.inr ⟨b, o, e, lies_solid _ _ _ h⟩
theorem PV.solid {w : World} {X : Nat → Prop} {v : Value} {zs : List Int} (h : PV w X v zs) : PV w (fun b => X b ∧ Solid w b) v zs := by
 obtain ⟨a, c, e, hl, h⟩ := h
 refine ⟨a, c, e, hl, ?_⟩
 rcases h with h | ⟨b, o, e, hx, h⟩
 ·exact Or.inl h
 ·by_cases hz : zs = []
  ·exact Or.inl hz
  ·exact Or.inr ⟨b, o, e, ⟨hx, solid_cell (h 0 (List.length_pos_iff.2 hz))⟩, h⟩
theorem lpF_solid {x : Ft} {args : Array Value} {W : World} {Z : Nat → Prop} (h : LpF x args W Z) : LpF x args W (fun b => Z b ∧ Solid W b) := by
 obtain ⟨ra, rc, q, Lm, rfl, hra, hq, hen⟩ := h
 refine ⟨ra, rc, q, Lm, rfl, hra.solid, ⟨hq, ?_⟩, hen.1, hen.2.imp fun a l hs => hs.solid⟩
 obtain ⟨es, clk, h1, _⟩ := hen.1
 exact ⟨(fun r e => by rw [h1] at e; cases e), (fun d e => by rw [h1] at e; cases e)⟩
theorem lpF_kept {x : Ft} {args : Array Value} {W W' : World} {Z : Nat → Prop} (h : LpF x args W Z) (k9 : ∀ b, Z b → W'.heap[b]? = W.heap[b]?) : LpF x args W' Z := by
 obtain ⟨ra, rc, q, Lm, rfl, hra, hq, hen⟩ := h
 exact ⟨ra, rc, q, Lm, rfl, hra.kept k9, hq, hen.1.kept (k9 q hq), hen.2.imp fun a l hs => hs.kept k9⟩
def SFst {α : Type} (Lp : α → Array Value → World → (Nat → Prop) → Prop) (A B TA : Nat) (G : Nat → Prop) (all : List α) (W : World) : Prop :=
 ∃ (y : α) (cs : Array Value) (Z : Nat → Prop), [y] <+: all ∧ Blk W A cs TA ∧ Blk W B #[.bool true] 4 ∧ Lp y #[.agg cs] W Z ∧ ∀ b, Z b → b < W.heap.size ∧ ¬ G b
def JF {α : Type} (A B L TA : Nat) (zs : Array Value) (G : Nat → Prop) (r rd : Loop) (W0 : World) : Tk α := fun pre s f W =>
 (∀ b, f b ↔ b = L ∨ b = A ∨ b = B ∨ G b) ∧ (∀ b, G b → b < W0.heap.size) ∧ W0.heap.size ≤ W.heap.size ∧ (∀ b, G b → W.heap[b]? = W0.heap[b]?) ∧ W.heap[L]? = some (.loop (if s = true then r else rd)) ∧ A < W.heap.size ∧ B < W.heap.size ∧ (s = true → pre = [] ∧ Blk W A zs TA ∧ Blk W B #[.bool false] 4)
theorem JF.ok {α : Type} {A B L TA : Nat} {zs : Array Value} {G : Nat → Prop} {r rd : Loop} {W0 : World} : TkOk (JF (α := α) A B L TA zs G r rd W0) (fun _ => False) where
 inside := by
  rintro pre s f W ⟨hf, hG, hz, hC, hL, hA, hB, hs⟩ b hb
  rcases hb with hb | hb
  ·rcases (hf b).1 hb with h | h | h | h
   ·subst h; exact (Array.getElem?_eq_some_iff.1 hL).1
   ·subst h; exact hA
   ·subst h; exact hB
   ·have := hG b h; omega
  ·exact hb.elim
 apart := by
  rintro pre s f W hj b hb
  exact hb.elim
 abide := by
  rintro pre s f W W' ⟨hf, hG, hz, hC, hL, hA, hB, hs⟩ hz2 hk
  refine ⟨hf, hG, by omega, fun b hb => (hk b (Or.inl ((hf b).2 (Or.inr (Or.inr (Or.inr hb)))))).trans (hC b hb), (hk L (Or.inl ((hf L).2 (Or.inl rfl)))).trans hL, by omega, by omega, fun h => ⟨(hs h).1, (hk A (Or.inl ((hf A).2 (Or.inr (Or.inl rfl))))).trans (hs h).2.1, (hk B (Or.inl ((hf B).2 (Or.inr (Or.inr (Or.inl rfl)))))).trans (hs h).2.2⟩⟩
def FsPost {α : Type} (Lp : α → Array Value → World → (Nat → Prop) → Prop) (zs : Array Value) (G : Nat → Prop) (all : List α) (w : World) (e : Ending) (w' : World) : Prop :=
 Below w.heap.size w w' ∧ ((all = [] ∧ e = .returned (.tuple #[.agg zs, .bool false])) ∨ ∃ (y : α) (cs : Array Value) (Z : Nat → Prop), [y] <+: all ∧ e = .returned (.tuple #[.agg cs, .bool true]) ∧ Lp y #[.agg cs] w' Z ∧ ∀ b, Z b → b < w'.heap.size ∧ ¬ G b)
set_option maxHeartbeats 4000000 in
theorem firstF_any (rs : List Pr) (x0 : Tm) (R T : Nat) (uv : Value) (aa : Option Addr) (ca : Nat) (w : World) (X G : Nat → Prop) (hR : Blk w R #[uv] 22) (hu : QV w X uv rs) (hT : Blk w T #[.string x0.name, .slice aa x0.args.length ca] 32) (hs : Sl w X aa x0.args) (hX : ∀ b, X b → b < w.heap.size ∧ ¬ G b) (hG : ∀ b, G b → b < w.heap.size ∧ b ≠ R ∧ b ≠ T) :
  Calls Tryz.prog 93 #[.func (.func 113) #[] #[.pointer (some ⟨R, 0, none⟩), .pointer (some ⟨T, 0, none⟩)]] w fun e w' => FsPost LpF #[.string ⟨#[]⟩, .slice none 0 0, .map none] G (fitsL rs x0) w e w' := by
 have HX := hide hX
 have HG := hide hG
 have HU := hide hu
 have HS := hide hs
 have HR := hide hR
 have HT := hide hT
 clear hX hG hu hs hR hT
 refine (callsIn_wide (n := 3)).1 ?_
 refine callsIn_of_wp_marks Tryz.func93 rfl trivial ?_ rfl
 simp only [Tryz.ntmps93, List.size_toArray, List.length_cons, List.length_nil, Nat.reduceAdd, Nat.reduceSub, Array.replicate_succ, Array.replicate_zero, List.push_toArray, List.append_toArray, List.nil_append, List.cons_append]
 gi_wp2
 refine wp_range2 (gf := 113) (lb := #[.pointer (some ⟨R, 0, none⟩), .pointer (some ⟨T, 0, none⟩)]) rfl (enters_of Tryz.func113 (by kernel_rfl) rfl) ?_
 intro r hr1 hr2 hr3 hr4 hr5 hr6
 have hz2 : ((w.alloc (.cells #[.string ⟨#[]⟩, .slice none 0 0, .map none] 144)).alloc (.cells #[.bool false] 4)).heap.size = w.heap.size + 2 := by simp
 rw [hz2]
 have e21 : w.heap.size + 2 + 1 = w.heap.size + 3 := rfl
 rw [e21]
 clear e21
 have hW4 : ((((w.alloc (.cells #[.string ⟨#[]⟩, .slice none 0 0, .map none] 144)).alloc (.cells #[.bool false] 4)).alloc (.deferred (some []))).alloc (.loop r)) = allocs w [(.cells #[.string ⟨#[]⟩, .slice none 0 0, .map none] 144 : Obj), (.cells #[.bool false] 4 : Obj), (.deferred (some []) : Obj), (.loop r : Obj)] := rfl
 have HAF := hide (allocs_facts [(.cells #[.string ⟨#[]⟩, .slice none 0 0, .map none] 144 : Obj), (.cells #[.bool false] 4 : Obj), (.deferred (some []) : Obj), (.loop r : Obj)] w)
 rw [← hW4] at HAF
 clear hW4
 generalize ((((w.alloc (.cells #[.string ⟨#[]⟩, .slice none 0 0, .map none] 144)).alloc (.cells #[.bool false] 4)).alloc (.deferred (some []))).alloc (.loop r)) = W5 at *
 have hz5 : W5.heap.size = w.heap.size + 4 := HAF.out.2.1
 have HB5 : Hid (Below w.heap.size w W5) := HAF.out.1
 have H0 : Hid (Blk W5 w.heap.size #[.string ⟨#[]⟩, .slice none 0 0, .map none] 144) := HAF.out.2.2 0 _ rfl
 have H1 : Hid (Blk W5 (w.heap.size + 1) #[.bool false] 4) := HAF.out.2.2 1 _ rfl
 have H2 : Hid (W5.heap[w.heap.size + 2]? = some (.deferred (some []))) := HAF.out.2.2 2 _ rfl
 have H3 : Hid (W5.heap[w.heap.size + 3]? = some (.loop r)) := HAF.out.2.2 3 _ rfl
 clear HAF
 obtain ⟨rd, hrd⟩ : ∃ rd : Loop, rd = { r with state := .done, pending := some .ret } := ⟨_, rfl⟩
 obtain ⟨rb, hrb⟩ : ∃ rb : Loop, rb = { r with state := .busy } := ⟨_, rfl⟩
 have RH : RndS (w.heap.size + 3) LpF (JF (α := Ft) w.heap.size (w.heap.size + 1) (w.heap.size + 3) 144 #[.string ⟨#[]⟩, .slice none 0 0, .map none] G r rd W5) (fitsL rs x0) (SFst LpF w.heap.size (w.heap.size + 1) 144 G (fitsL rs x0)) := by
  have HR1 := hide hr1
  have HR2 := hide hr2
  have HR3 := hide hr3
  have HR4 := hide hr4
  have HR5 := hide hr5
  have HR6 := hide hr6
  clear hr1 hr2 hr3 hr4 hr5 hr6 hz2
  intro n pre x args Z f W hpfx hj hl hZ
  obtain ⟨hf, hGz, hzW, hC, hL, hA, hB, hs0⟩ := hj
  obtain ⟨rfl, hAB, hBB⟩ := hs0 rfl
  rw [List.nil_append] at hpfx
  simp only [if_true] at hL
  obtain ⟨ra, rc, q, Lm, rfl, hra, hq, hen⟩ := hl
  have HLP : Hid (∀ W', (∀ b, Z b → W'.heap[b]? = W.heap[b]?) → LpF x #[.agg #[.string x.1.r.name, .slice ra x.1.r.args.length rc, .map (some q)]] W' Z) := fun W' k9 => ⟨ra, rc, q, Lm, rfl, hra.kept k9, hq, hen.1.kept (k9 q hq), hen.2.imp fun a l hs => hs.kept k9⟩
  have HPF := hide hpfx
  have HFF := hide hf
  have HGZ := hide hGz
  have HC := hide hC
  have HZ := hide hZ
  have HA := hide hAB
  have HB := hide hBB
  have hlL : w.heap.size + 3 < W.heap.size := (Array.getElem?_eq_some_iff.1 hL).1
  clear hpfx hf hGz hC hZ hAB hBB hra hen hq hs0
  refine yield_two hrb hrd HR5.out HR6.out HR4.out HR3.out hL HR1.out HR2.out rfl ?_
  have hL2 : (W.alloc (.cells #[.string x.1.r.name, .slice ra x.1.r.args.length rc, .map (some q)] 144)).heap[w.heap.size + 3]? = some (.loop r) := (Below.heap_alloc _ _ _ hlL).trans hL
  have kV : ∀ b, b < W.heap.size → b ≠ w.heap.size + 3 → ((W.alloc (.cells #[.string x.1.r.name, .slice ra x.1.r.args.length rc, .map (some q)] 144)).putObj (w.heap.size + 3) (.loop rb)).heap[b]? = W.heap[b]? := fun b hb hne => (World.putObj_heap_other hne).trans (Below.heap_alloc _ _ _ hb)
  have hzV : ((W.alloc (.cells #[.string x.1.r.name, .slice ra x.1.r.args.length rc, .map (some q)] 144)).putObj (w.heap.size + 3) (.loop rb)).heap.size = W.heap.size + 1 := by simp
  have hCB : Blk ((W.alloc (.cells #[.string x.1.r.name, .slice ra x.1.r.args.length rc, .map (some q)] 144)).putObj (w.heap.size + 3) (.loop rb)) W.heap.size #[.string x.1.r.name, .slice ra x.1.r.args.length rc, .map (some q)] 144 := (World.putObj_heap_other (by omega)).trans (Blk.new W _ _)
  have hLV : ((W.alloc (.cells #[.string x.1.r.name, .slice ra x.1.r.args.length rc, .map (some q)] 144)).putObj (w.heap.size + 3) (.loop rb)).heap[w.heap.size + 3]? = some (.loop rb) := World.putObj_heap_same (by simp; omega)
  have hAV : Blk ((W.alloc (.cells #[.string x.1.r.name, .slice ra x.1.r.args.length rc, .map (some q)] 144)).putObj (w.heap.size + 3) (.loop rb)) w.heap.size #[.string ⟨#[]⟩, .slice none 0 0, .map none] 144 := (kV _ hA (by omega)).trans HA.out
  have hBV : Blk ((W.alloc (.cells #[.string x.1.r.name, .slice ra x.1.r.args.length rc, .map (some q)] 144)).putObj (w.heap.size + 3) (.loop rb)) (w.heap.size + 1) #[.bool false] 4 := (kV _ hB (by omega)).trans HB.out
  have c0 : ((W.alloc (.cells #[.string x.1.r.name, .slice ra x.1.r.args.length rc, .map (some q)] 144)).putObj (w.heap.size + 3) (.loop rb)).cell? ⟨W.heap.size, 0, none⟩ = some (.string x.1.r.name) := hCB.cell 0
  have c1 : ((W.alloc (.cells #[.string x.1.r.name, .slice ra x.1.r.args.length rc, .map (some q)] 144)).putObj (w.heap.size + 3) (.loop rb)).cell? ⟨W.heap.size, 1, none⟩ = some (.slice ra x.1.r.args.length rc) := hCB.cell 1
  have c2 : ((W.alloc (.cells #[.string x.1.r.name, .slice ra x.1.r.args.length rc, .map (some q)] 144)).putObj (w.heap.size + 3) (.loop rb)).cell? ⟨W.heap.size, 2, none⟩ = some (.map (some q)) := hCB.cell 2
  have a0 : ((W.alloc (.cells #[.string x.1.r.name, .slice ra x.1.r.args.length rc, .map (some q)] 144)).putObj (w.heap.size + 3) (.loop rb)).cell? ⟨w.heap.size, 0, none⟩ = some (.string ⟨#[]⟩) := hAV.cell 0
  have a1 : ((W.alloc (.cells #[.string x.1.r.name, .slice ra x.1.r.args.length rc, .map (some q)] 144)).putObj (w.heap.size + 3) (.loop rb)).cell? ⟨w.heap.size, 1, none⟩ = some (.slice none 0 0) := hAV.cell 1
  have a2 : ((W.alloc (.cells #[.string x.1.r.name, .slice ra x.1.r.args.length rc, .map (some q)] 144)).putObj (w.heap.size + 3) (.loop rb)).cell? ⟨w.heap.size, 2, none⟩ = some (.map none) := hAV.cell 2
  have af := hAV.frozen
  have bf := hBV.frozen
  have b0 : ((W.alloc (.cells #[.string x.1.r.name, .slice ra x.1.r.args.length rc, .map (some q)] 144)).putObj (w.heap.size + 3) (.loop rb)).cell? ⟨w.heap.size + 1, 0, none⟩ = some (.bool false) := hBV.cell 0
  have HOSV : Hid (((W.alloc (.cells #[.string x.1.r.name, .slice ra x.1.r.args.length rc, .map (some q)] 144)).putObj (w.heap.size + 3) (.loop rb)).os = W.os ∧ ((W.alloc (.cells #[.string x.1.r.name, .slice ra x.1.r.args.length rc, .map (some q)] 144)).putObj (w.heap.size + 3) (.loop rb)).tape = W.tape ∧ ((W.alloc (.cells #[.string x.1.r.name, .slice ra x.1.r.args.length rc, .map (some q)] 144)).putObj (w.heap.size + 3) (.loop rb)).output = W.output) := ⟨rfl, rfl, rfl⟩
  have HLV := hide hLV
  have HKV := hide kV
  have HAV := hide hAV
  have HBV := hide hBV
  have HCB := hide hCB
  clear hrb hrd hCB hLV kV hAV hBV
  gi_wp2
  refine ⟨(Array.getElem?_eq_some_iff.1 hL2).2, ?_⟩
  clear hL2
  generalize ((W.alloc (.cells #[.string x.1.r.name, .slice ra x.1.r.args.length rc, .map (some q)] 144)).putObj (w.heap.size + 3) (.loop rb)) = V at *
  have hlA : w.heap.size < V.heap.size := by omega
  have hlB : w.heap.size + 1 < V.heap.size := by omega
  gi_wp2
  clear c0 c1 c2 a0 a1 a2 af bf b0
  have HZN : Hid (∀ b, Z b → b < W.heap.size ∧ b ≠ w.heap.size + 3 ∧ b ≠ w.heap.size ∧ b ≠ w.heap.size + 1 ∧ ¬ G b) := fun b hb => by
   have h := HZ.out b hb
   exact ⟨h.1, fun e => h.2 ((HFF.out b).2 (Or.inl e)), fun e => h.2 ((HFF.out b).2 (Or.inr (Or.inl e))), fun e => h.2 ((HFF.out b).2 (Or.inr (Or.inr (Or.inl e)))), fun e => h.2 ((HFF.out b).2 (Or.inr (Or.inr (Or.inr e))))⟩
  have k3 : ∀ b, b ≠ w.heap.size → b ≠ w.heap.size + 1 → ((((V.setCell ⟨w.heap.size, 0, none⟩ (.string x.1.r.name)).setCell ⟨w.heap.size, 1, none⟩ (.slice ra x.1.r.args.length rc)).setCell ⟨w.heap.size, 2, none⟩ (.map (some q))).setCell ⟨w.heap.size + 1, 0, none⟩ (.bool true)).heap[b]? = V.heap[b]? := fun b h0 h1 => by
   rw [Below.heap_setCell _ _ _ _ (by simpa using h1)]
   rw [Below.heap_setCell _ _ _ _ (by simpa using h0)]; rw [Below.heap_setCell _ _ _ _ (by simpa using h0)]; rw [Below.heap_setCell _ _ _ _ (by simpa using h0)]
  have hA3 : Blk ((((V.setCell ⟨w.heap.size, 0, none⟩ (.string x.1.r.name)).setCell ⟨w.heap.size, 1, none⟩ (.slice ra x.1.r.args.length rc)).setCell ⟨w.heap.size, 2, none⟩ (.map (some q))).setCell ⟨w.heap.size + 1, 0, none⟩ (.bool true)) w.heap.size #[.string x.1.r.name, .slice ra x.1.r.args.length rc, .map (some q)] 144 := by
   refine Blk.setOther ?_ _ _ (by omega)
   exact ((HAV.out.set 0 (.string x.1.r.name)).set 1 (.slice ra x.1.r.args.length rc)).set 2 (.map (some q))
  have hB3 : Blk ((((V.setCell ⟨w.heap.size, 0, none⟩ (.string x.1.r.name)).setCell ⟨w.heap.size, 1, none⟩ (.slice ra x.1.r.args.length rc)).setCell ⟨w.heap.size, 2, none⟩ (.map (some q))).setCell ⟨w.heap.size + 1, 0, none⟩ (.bool true)) (w.heap.size + 1) #[.bool true] 4 := Blk.set1R (Blk.setOther (Blk.setOther (Blk.setOther HBV.out 0 _ (by omega)) 1 _ (by omega)) 2 _ (by omega))
  have hz3 : ((((V.setCell ⟨w.heap.size, 0, none⟩ (.string x.1.r.name)).setCell ⟨w.heap.size, 1, none⟩ (.slice ra x.1.r.args.length rc)).setCell ⟨w.heap.size, 2, none⟩ (.map (some q))).setCell ⟨w.heap.size + 1, 0, none⟩ (.bool true)).heap.size = W.heap.size + 1 := by simp [World.setCell]; omega
  have ho3 : ((((V.setCell ⟨w.heap.size, 0, none⟩ (.string x.1.r.name)).setCell ⟨w.heap.size, 1, none⟩ (.slice ra x.1.r.args.length rc)).setCell ⟨w.heap.size, 2, none⟩ (.map (some q))).setCell ⟨w.heap.size + 1, 0, none⟩ (.bool true)).os = W.os ∧ ((((V.setCell ⟨w.heap.size, 0, none⟩ (.string x.1.r.name)).setCell ⟨w.heap.size, 1, none⟩ (.slice ra x.1.r.args.length rc)).setCell ⟨w.heap.size, 2, none⟩ (.map (some q))).setCell ⟨w.heap.size + 1, 0, none⟩ (.bool true)).tape = W.tape ∧ ((((V.setCell ⟨w.heap.size, 0, none⟩ (.string x.1.r.name)).setCell ⟨w.heap.size, 1, none⟩ (.slice ra x.1.r.args.length rc)).setCell ⟨w.heap.size, 2, none⟩ (.map (some q))).setCell ⟨w.heap.size + 1, 0, none⟩ (.bool true)).output = W.output := by
   simp only [os_set, tape_set, output_set]
   exact HOSV.out
  generalize ((((V.setCell ⟨w.heap.size, 0, none⟩ (.string x.1.r.name)).setCell ⟨w.heap.size, 1, none⟩ (.slice ra x.1.r.args.length rc)).setCell ⟨w.heap.size, 2, none⟩ (.map (some q))).setCell ⟨w.heap.size + 1, 0, none⟩ (.bool true)) = W3 at *
  have kF : ∀ b, b < W.heap.size → b ≠ w.heap.size + 3 → b ≠ w.heap.size → b ≠ w.heap.size + 1 → (W3.putObj (w.heap.size + 3) (.loop rd)).heap[b]? = W.heap[b]? := fun b h0 h1 h2 h3 => (World.putObj_heap_other h1).trans ((k3 b h2 h3).trans (HKV.out b h0 h1))
  have hGn : ∀ b, G b → b < W.heap.size ∧ b ≠ w.heap.size + 3 ∧ b ≠ w.heap.size ∧ b ≠ w.heap.size + 1 := fun b hb => by have := (HG.out b hb).1; omega
  refine ⟨(k3 _ (by omega) (by omega)).trans HLV.out, f, ⟨HFF.out, HGZ.out, by simp; omega, fun b hb => (kF b (hGn b hb).1 (hGn b hb).2.1 (hGn b hb).2.2.1 (hGn b hb).2.2.2).trans (HC.out b hb), World.putObj_heap_same (by omega), by simp; omega, by simp; omega, fun h => by cases h⟩, ⟨ho3.1, ho3.2.1, ho3.2.2, by simp; omega, fun b hb hn => kF b hb (fun e => hn ((HFF.out b).2 (Or.inl e))) (fun e => hn ((HFF.out b).2 (Or.inr (Or.inl e)))) (fun e => hn ((HFF.out b).2 (Or.inr (Or.inr (Or.inl e)))))⟩, (fun b hb => Or.inl hb), fun _ => ?_⟩
  refine ⟨x, #[.string x.1.r.name, .slice ra x.1.r.args.length rc, .map (some q)], Z, HPF.out, (World.putObj_heap_other (by omega)).trans hA3, (World.putObj_heap_other (by omega)).trans hB3, HLP.out _ fun b hb => ?_, fun b hb => ?_⟩
  ·have h := HZN.out b hb
   exact kF b h.1 h.2.1 h.2.2.1 h.2.2.2.1
  ·have h := HZN.out b hb
   exact ⟨by simp; omega, h.2.2.2.2⟩
 have hst : (JF (α := Ft) w.heap.size (w.heap.size + 1) (w.heap.size + 3) 144 #[.string ⟨#[]⟩, .slice none 0 0, .map none] G r rd W5) [] true (fun b => b = w.heap.size + 3 ∨ b = w.heap.size ∨ b = w.heap.size + 1 ∨ G b) W5 := ⟨fun b => Iff.rfl, fun b hb => by have := (HG.out b hb).1; omega, Nat.le_refl _, fun b _ => rfl, H3.out, by omega, by omega, fun _ => ⟨rfl, H0.out, H1.out⟩⟩
 have hXf : ∀ b, X b → b < W5.heap.size ∧ ¬ (b = w.heap.size + 3 ∨ b = w.heap.size ∨ b = w.heap.size + 1 ∨ G b) := fun b hb => by
  have h := HX.out b hb
  refine ⟨by omega, fun h2 => ?_⟩
  rcases h2 with h2 | h2 | h2 | h2
  ·omega
  ·omega
  ·omega
  ·exact h.2 h2
 refine (fits1S_any JF.ok (w.heap.size + 3) RH rs x0 R T uv aa ca [] _ W5 X (HR.out.below HB5.out HR.out.lt) (HU.out.later HB5.out) (HT.out.below HB5.out HT.out.lt) (HS.out.later HB5.out) hXf (fun h => by
  have hlt := HR.out.lt
  rcases h with h | h | h | h
  ·omega
  ·omega
  ·omega
  ·exact (HG.out _ h).2.1 rfl) (fun h => by
  have hlt := HT.out.lt
  rcases h with h | h | h | h
  ·omega
  ·omega
  ·omega
  ·exact (HG.out _ h).2.2 rfl) hst (by simp)).mono ?_
 rintro e Wf ⟨hret, s, ⟨m, f', hm, hms, hj, he, hff⟩, hS⟩
 rw [List.nil_append] at hj
 obtain ⟨hf9, hG9, hz9, hC9, hL9, hA9, hB9, hs9⟩ := hj
 have HD9 : Hid (Wf.heap[w.heap.size + 2]? = some (.deferred (some []))) := (he.block _ (by omega) (fun h => by
  rcases h with (h | h | h | h) | h
  ·omega
  ·omega
  ·omega
  ·have := (HG.out _ h).1; omega
  ·exact h)).trans H2.out
 have HBF : Hid (∀ b, b < w.heap.size → Wf.heap[b]? = w.heap[b]?) := fun b hb => by
  by_cases hg : G b
  ·exact (hC9 b hg).trans (HB5.out.block b hb)
  ·exact (he.block b (by omega) (fun h => by
    rcases h with (h | h | h | h) | h
    ·omega
    ·omega
    ·omega
    ·exact hg h
    ·exact h)).trans (HB5.out.block b hb)
 have HOSF : Hid (Wf.os = w.os ∧ Wf.tape = w.tape ∧ Wf.output = w.output) := ⟨he.os.trans HB5.out.os, he.tape.trans HB5.out.tape, he.output.trans HB5.out.output⟩
 have HL9 := hide hL9
 have HRET := hide hret
 clear he hff hst hXf RH hret hr1 hr2 hr3 hr4 hr5 hr6 hz2 hf9 hG9 hC9
 refine ⟨HRET.out, ?_⟩
 cases s with
 | true =>
  left
  refine ⟨HL9.out, ?_⟩
  obtain ⟨hp9, hA, hB⟩ := hs9 rfl
  have em := hms rfl
  subst em
  rw [List.take_length] at hp9
  have HP9 := hide hp9
  clear hp9 hms hm hS hs9
  have kg : ∀ b, b ≠ w.heap.size + 3 → (Wf.putObj (w.heap.size + 3) (.loop { r with state := .exhausted })).heap[b]? = Wf.heap[b]? := fun b h => World.putObj_heap_other h
  have zg : (Wf.putObj (w.heap.size + 3) (.loop { r with state := .exhausted })).heap.size = Wf.heap.size := by simp
  have og : (Wf.putObj (w.heap.size + 3) (.loop { r with state := .exhausted })).os = Wf.os ∧ (Wf.putObj (w.heap.size + 3) (.loop { r with state := .exhausted })).tape = Wf.tape ∧ (Wf.putObj (w.heap.size + 3) (.loop { r with state := .exhausted })).output = Wf.output := ⟨rfl, rfl, rfl⟩
  generalize (Wf.putObj (w.heap.size + 3) (.loop { r with state := .exhausted })) = Wg at *
  have q0 : Blk Wg w.heap.size #[.string ⟨#[]⟩, .slice none 0 0, .map none] 144 := (kg _ (by omega)).trans hA
  have q1 : Blk Wg (w.heap.size + 1) #[.bool false] 4 := (kg _ (by omega)).trans hB
  have qd : Wg.heap[w.heap.size + 2]? = some (.deferred (some [])) := (kg _ (by omega)).trans HD9.out
  have qb : Below w.heap.size w Wg := ⟨og.1.trans HOSF.out.1, og.2.1.trans HOSF.out.2.1, og.2.2.trans HOSF.out.2.2, by omega, fun b hb => (kg b (by omega)).trans (HBF.out b hb)⟩
  clear kg og hA hB
  have a0 := q0.c0
  have a1 := q0.c1
  have a2 := q0.c2
  have af := q0.frozen
  have b0 := q1.c0
  have bf := q1.frozen
  have Q0 : Blk ((((Wg.setCell ⟨w.heap.size, 0, none⟩ (.string ⟨#[]⟩)).setCell ⟨w.heap.size, 1, none⟩ (.slice none 0 0)).setCell ⟨w.heap.size, 2, none⟩ (.map none)).setCell ⟨w.heap.size + 1, 0, none⟩ (.bool false)) w.heap.size #[.string ⟨#[]⟩, .slice none 0 0, .map none] 144 := by
   refine Blk.setOther ?_ _ _ (by omega)
   exact ((q0.set 0 (.string ⟨#[]⟩)).set 1 (.slice none 0 0)).set 2 (.map none)
  have Q1 : Blk ((((Wg.setCell ⟨w.heap.size, 0, none⟩ (.string ⟨#[]⟩)).setCell ⟨w.heap.size, 1, none⟩ (.slice none 0 0)).setCell ⟨w.heap.size, 2, none⟩ (.map none)).setCell ⟨w.heap.size + 1, 0, none⟩ (.bool false)) (w.heap.size + 1) #[.bool false] 4 := Blk.set1R (Blk.setOther (Blk.setOther (Blk.setOther q1 0 _ (by omega)) 1 _ (by omega)) 2 _ (by omega))
  have QD : ((((Wg.setCell ⟨w.heap.size, 0, none⟩ (.string ⟨#[]⟩)).setCell ⟨w.heap.size, 1, none⟩ (.slice none 0 0)).setCell ⟨w.heap.size, 2, none⟩ (.map none)).setCell ⟨w.heap.size + 1, 0, none⟩ (.bool false)).heap[w.heap.size + 2]? = some (.deferred (some [])) := by
   rw [Below.heap_setCell _ _ _ _ (by simp)]
   rw [Below.heap_setCell _ _ _ _ (by simp)]; rw [Below.heap_setCell _ _ _ _ (by simp)]; rw [Below.heap_setCell _ _ _ _ (by simp)]
   exact qd
  have QB : Below w.heap.size w ((((Wg.setCell ⟨w.heap.size, 0, none⟩ (.string ⟨#[]⟩)).setCell ⟨w.heap.size, 1, none⟩ (.slice none 0 0)).setCell ⟨w.heap.size, 2, none⟩ (.map none)).setCell ⟨w.heap.size + 1, 0, none⟩ (.bool false)) := ((((qb.setCell (by simp) _).setCell (by simp) _).setCell (by simp) _).setCell (by simp) _)
  have HQ0 := hide Q0
  have HQ1 := hide Q1
  have HQD := hide QD
  have HQB := hide QB
  have hlA : w.heap.size < Wg.heap.size := by omega
  have hlB : w.heap.size + 1 < Wg.heap.size := by omega
  clear Q0 Q1 QD QB q0 q1 qd qb
  gi_wp2
  clear a0 a1 a2 af bf b0
  generalize ((((Wg.setCell ⟨w.heap.size, 0, none⟩ (.string ⟨#[]⟩)).setCell ⟨w.heap.size, 1, none⟩ (.slice none 0 0)).setCell ⟨w.heap.size, 2, none⟩ (.map none)).setCell ⟨w.heap.size + 1, 0, none⟩ (.bool false)) = Wh at *
  have E0 : Blk (Wh.putObj (w.heap.size + 2) (.deferred none)) w.heap.size #[.string ⟨#[]⟩, .slice none 0 0, .map none] 144 := (World.putObj_heap_other (by omega)).trans HQ0.out
  have E1 : Blk (Wh.putObj (w.heap.size + 2) (.deferred none)) (w.heap.size + 1) #[.bool false] 4 := (World.putObj_heap_other (by omega)).trans HQ1.out
  have EB : Below w.heap.size w (Wh.putObj (w.heap.size + 2) (.deferred none)) := ⟨HQB.out.os, HQB.out.tape, HQB.out.output, by simp; exact HQB.out.size, fun b hb => (World.putObj_heap_other (by omega)).trans (HQB.out.block b hb)⟩
  refine ⟨by simp, .inl ⟨_, _, rfl, run_takeDeferred HQD.out, ?_⟩⟩
  refine ⟨.tuple #[.agg #[.string ⟨#[]⟩, .slice none 0 0, .map none], .bool false], ?_, EB, Or.inl ⟨HP9.out, rfl⟩⟩
  have e0 := E0.cell 0
  have e1 := E0.cell 1
  have e2 := E0.cell 2
  have h2 := E1.cell 0
  simp [results, Tryz.results93, go_sem, e0, e1, e2, h2]
 | false =>
  right
  refine ⟨by rw [← hrd]; exact HL9.out, ?_⟩
  obtain ⟨y, cs, Z, hpf, hA, hB, hl, hZ⟩ := hS rfl
  have HPF := hide hpf
  have HLP := hide hl
  have HZ := hide hZ
  have HA := hide hA
  have HB := hide hB
  clear hpf hl hZ hms hm hS hs9 hA hB
  have HLP2 : Hid (∃ ra rc q, cs = #[.string y.1.r.name, .slice ra y.1.r.args.length rc, .map (some q)] ∧ LpF y #[.agg cs] Wf Z) := by
   have h0 := HLP.out
   obtain ⟨ra, rc, q, Lm, e1, _⟩ := HLP.out
   simp at e1
   exact ⟨ra, rc, q, e1, h0⟩
  obtain ⟨ra, rc, q, rfl, hl2⟩ := HLP2.out
  clear hl2 HLP2
  have kg : ∀ b, b ≠ w.heap.size + 3 → (Wf.putObj (w.heap.size + 3) (.loop { r with state := .exhausted, pending := some .ret })).heap[b]? = Wf.heap[b]? := fun b h => World.putObj_heap_other h
  have zg : (Wf.putObj (w.heap.size + 3) (.loop { r with state := .exhausted, pending := some .ret })).heap.size = Wf.heap.size := by simp
  have og : (Wf.putObj (w.heap.size + 3) (.loop { r with state := .exhausted, pending := some .ret })).os = Wf.os ∧ (Wf.putObj (w.heap.size + 3) (.loop { r with state := .exhausted, pending := some .ret })).tape = Wf.tape ∧ (Wf.putObj (w.heap.size + 3) (.loop { r with state := .exhausted, pending := some .ret })).output = Wf.output := ⟨rfl, rfl, rfl⟩
  generalize (Wf.putObj (w.heap.size + 3) (.loop { r with state := .exhausted, pending := some .ret })) = Wg at *
  have qd : Wg.heap[w.heap.size + 2]? = some (.deferred (some [])) := (kg _ (by omega)).trans HD9.out
  have hso := lpF_solid HLP.out
  have kb : ∀ b, Z b ∧ Solid Wf b → (Wg.putObj (w.heap.size + 2) (.deferred none)).heap[b]? = Wf.heap[b]? := fun b hb => (World.putObj_heap_other (fun e => hb.2.2 _ ((congrArg (fun i => Wf.heap[i]?) e).trans HD9.out))).trans (kg b (fun e => hb.2.1 _ ((congrArg (fun i => Wf.heap[i]?) e).trans HL9.out)))
  have HL2 := hide (lpF_kept hso kb)
  have HZ2 : Hid (∀ b, Z b ∧ Solid Wf b → b < (Wg.putObj (w.heap.size + 2) (.deferred none)).heap.size ∧ ¬ G b) := fun b hb => ⟨by have := (HZ.out b hb.1).1; simp; omega, (HZ.out b hb.1).2⟩
  have E0 : Blk (Wg.putObj (w.heap.size + 2) (.deferred none)) w.heap.size #[.string y.1.r.name, .slice ra y.1.r.args.length rc, .map (some q)] 144 := (World.putObj_heap_other (by omega)).trans ((kg _ (by omega)).trans HA.out)
  have E1 : Blk (Wg.putObj (w.heap.size + 2) (.deferred none)) (w.heap.size + 1) #[.bool true] 4 := (World.putObj_heap_other (by omega)).trans ((kg _ (by omega)).trans HB.out)
  have EB : Below w.heap.size w (Wg.putObj (w.heap.size + 2) (.deferred none)) := ⟨og.1.trans HOSF.out.1, og.2.1.trans HOSF.out.2.1, og.2.2.trans HOSF.out.2.2, by simp; omega, fun b hb => (World.putObj_heap_other (by omega)).trans ((kg b (by omega)).trans (HBF.out b hb))⟩
  have HE0 := hide E0
  have HE1 := hide E1
  have HEB := hide EB
  have HQD := hide qd
  clear E0 E1 EB qd kb hso kg og
  gi_wp2
  refine ⟨by simp, .inl ⟨_, _, rfl, run_takeDeferred HQD.out, ?_⟩⟩
  refine ⟨.tuple #[.agg #[.string y.1.r.name, .slice ra y.1.r.args.length rc, .map (some q)], .bool true], ?_, HEB.out, Or.inr ⟨y, _, _, HPF.out, rfl, HL2.out, HZ2.out⟩⟩
  have e0 := HE0.out.cell 0
  have e1 := HE0.out.cell 1
  have e2 := HE0.out.cell 2
  have h2 := HE1.out.cell 0
  simp [results, Tryz.results93, go_sem, e0, e1, e2, h2]
end Go.Proofs.YtbnmlkaejdpigaaGreatDoor
