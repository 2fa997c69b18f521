/- Walks: the first step of a lambda term. -/
import Derived.Test.YtaifameeoipjjaaLn5
namespace Go.Proofs.Ytaifameeoipjjaa
open Go.RowKit Go.Shelf
attribute [local go_sem] Oper.semAt_some
set_option linter.unusedSimpArgs false
set_option linter.unusedVariables false
set_option maxRecDepth 8000

def allocsM (w : World) (os : List Obj) : World := os.foldl (fun w o => w.alloc o) w
theorem allocsM_facts : ∀ (os : List Obj) (w : World), Below w.heap.size w (allocsM w os) ∧ (allocsM w os).heap.size = w.heap.size + os.length ∧ ∀ (i : Nat) (o : Obj), os[i]? = some o → (allocsM w os).heap[w.heap.size + i]? = some o
  | [], w => ⟨Below.refl _ _, rfl, fun i o h => by simp at h⟩
  | o :: os, w => by
    obtain ⟨h1, h2, h3⟩ := allocsM_facts os (w.alloc o)
    have e : allocsM w (o :: os) = allocsM (w.alloc o) os := rfl
    rw [e]
    refine ⟨((Below.refl _ _).alloc (Nat.le_refl _) o).trans (h1.mono (by simp)), by rw [h2]; simp; omega, fun i q h => ?_⟩
    match i, h with
    | 0, h =>
      simp at h
      subst h
      rw [Nat.add_zero, h1.block _ (by simp)]
      exact heap_alloc_new w o
    | i + 1, h =>
      have := h3 i q (by simpa using h)
      rw [World.size_alloc] at this
      rw [show w.heap.size + (i + 1) = w.heap.size + 1 + i by omega]
      exact this
theorem Blk.set1M {w : World} {A T : Nat} {q v : Value} (h : Blk w A #[q] T) : Blk (w.setCell ⟨A, 0, none⟩ v) A #[v] T := by
  have := h.set 0 v
  simpa using this
/-- What stays till the first comes. -/
structure FiJ (w : World) (r : Loop) (W : World) : Prop where
  lp : W.heap[w.heap.size + 4]? = some (.loop r)
  df : W.heap[w.heap.size + 3]? = some (.deferred (some []))
  ba : Blk W (w.heap.size) #[.int .i64 0, .int .i64 0, .slice none 0 0] 24
  bb : Blk W (w.heap.size + 1) #[.bool false] 4
  bc : Blk W (w.heap.size + 2) #[.bool false] 4
  bl : Below w.heap.size w W
theorem FiJ.stay (w : World) (r : Loop) : StayJ (FiJ w r) := fun W W' h hb => by
  have hl : w.heap.size + 4 < W.heap.size := (Array.getElem?_eq_some_iff.1 h.lp).1
  exact ⟨(hb.block _ hl).trans h.lp, (hb.block _ (by omega)).trans h.df, h.ba.below hb (by omega), h.bb.below hb (by omega), h.bc.below hb (by omega), h.bl.trans (hb.mono h.bl.size)⟩
/-- What it has come to then. -/
structure FiS (X : Nat → Prop) (w : World) (rd : Loop) (x : Lm) (ok : Bool) (W : World) : Prop where
  lp : W.heap[w.heap.size + 4]? = some (.loop rd)
  df : W.heap[w.heap.size + 3]? = some (.deferred (some []))
  ex : ∃ (va : Option Addr) (vc : Nat) (Z : Nat → Prop), Blk W (w.heap.size) #[.int .i64 x.kind, .int .i64 x.idx, .slice va x.subs.length vc] 24 ∧ SlM W Z va x.subs ∧ ∀ b, Z b → b < W.heap.size ∧ ((X b ∧ b < w.heap.size) ∨ w.heap.size + 5 ≤ b)
  bb : Blk W (w.heap.size + 1) #[.bool ok] 4
  bc : Blk W (w.heap.size + 2) #[.bool true] 4
  bl : Below w.heap.size w W
def FiPost (n : Nat) (t : Lm) (X : Nat → Prop) (w : World) (e : Ending) (w' : World) : Prop :=
  Below w.heap.size w w' ∧ ((stepM [t] = false ∧ e = .returned (.tuple #[.agg #[.int .i64 0, .int .i64 0, .slice none 0 0], .bool false, .bool false])) ∨
    (stepM [t] = true ∧ ∃ x ok a c, e = .returned (.tuple #[.agg #[.int .i64 x.kind, .int .i64 x.idx, .slice a x.subs.length c], .bool ok, .bool true]) ∧ FsOk false n t x ok ∧ SlM w' (fun b => (X b ∧ b < w.heap.size) ∨ w.heap.size ≤ b) a x.subs))

set_option maxHeartbeats 1000000 in
theorem outer1_any {n : Nat} {t : Lm} (hO : OuAt n t) {y : Value} {P : Nat → Prop} {hi : Nat} {J : World → Prop} {S : Lm → Bool → World → Prop} (hP : ∀ b, hi ≤ b → P b) (hT : StopTk y P J S) (hJ : StayJ J) (T : Nat) (a : Option Addr) (c : Nat) (w : World) (X : Nat → Prop) (hB : Blk w T #[.int .i64 t.kind, .int .i64 t.idx, .slice a t.subs.length c] 24) (hs : SlM w X a t.subs) (hX : ∀ b, X b → b < w.heap.size ∧ P b) (hhi : hi ≤ w.heap.size) (hjw : J w) :
    Calls Try.prog 32 #[y, .pointer (some ⟨T, 0, none⟩)] w fun e w' => (∃ v, e = .returned v) ∧ ((stepM [t] = false ∧ Below w.heap.size w w') ∨ (stepM [t] = true ∧ ∃ x ok, FsOk false n t x ok ∧ S x ok w')) := by
  have HC := hide (hO y P hi J S hP hT hJ (.agg #[.int .i64 t.kind, .int .i64 t.idx, .slice a t.subs.length c]) w X ⟨a, c, rfl, hs⟩ hX hhi hjw)
  have c0 : w.cell? ⟨T, 0, none⟩ = some (.int .i64 t.kind) := hB.cell 0
  have c1 : w.cell? ⟨T, 1, none⟩ = some (.int .i64 t.idx) := hB.cell 1
  have c2 : w.cell? ⟨T, 2, none⟩ = some (.slice a t.subs.length c) := hB.cell 2
  clear hO hT hJ hB hs hX hjw hP
  go_enter Try.func32, Try.ntmps32
  go_wp2_with fail
  refine HC.out.mono ?_
  rintro e w1 (⟨h1, rfl, hb1⟩ | ⟨h1, rfl, x, ok, h2, h3⟩)
  · have H := hide (And.intro h1 hb1)
    clear h1 hb1
    go_wp2_with fail
    go_end0
    exact ⟨⟨_, rfl⟩, Or.inl ⟨H.out.1, H.out.2⟩⟩
  · have H := hide (And.intro h1 (And.intro h2 h3))
    clear h1 h2 h3
    go_wp2_with fail
    go_end0
    exact ⟨⟨_, rfl⟩, Or.inr ⟨H.out.1, x, ok, H.out.2.1, H.out.2.2⟩⟩

set_option maxHeartbeats 40000000 in
theorem firstM_any {n : Nat} {t : Lm} (hO : OuAt n t) (T : Nat) (a : Option Addr) (c : Nat) (w : World) (X : Nat → Prop) (hB : Blk w T #[.int .i64 t.kind, .int .i64 t.idx, .slice a t.subs.length c] 24) (hs : SlM w X a t.subs) :
    Calls Try.prog 30 #[.func (.func 32) #[] #[.pointer (some ⟨T, 0, none⟩)]] w fun e w' => FiPost n t X w e w' := by
  have HO := hide hO
  have HS : Hid (SlM w (fun b => X b ∧ b < w.heap.size) a t.subs) := hs.mono fun b h1 h2 => ⟨h1, h2⟩
  have HT := hide hB
  clear hO hs hB
  refine (callsIn_wide (n := 3)).1 ?_
  refine callsIn_of_wp_marks Try.func30 rfl trivial ?_ rfl
  simp only [Try.ntmps30, List.size_toArray, List.length_cons, List.length_nil, Nat.reduceAdd, Nat.reduceSub, Array.replicate_succ, Array.replicate_zero, List.push_toArray, List.append_toArray, List.nil_append, List.cons_append]
  gi_wp2
  refine wp_range2 (gf := 32) (lb := #[.pointer (some ⟨T, 0, none⟩)]) rfl (enters_of Try.func32 (by kernel_rfl) rfl) ?_
  intro r hr1 hr2 hr3 hr4 hr5 hr6
  have hz2 : ((((w.alloc (.cells #[.int .i64 0, .int .i64 0, .slice none 0 0] 24)).alloc (.cells #[.bool false] 4)).alloc (.cells #[.bool false] 4))).heap.size = w.heap.size + 3 := by simp
  rw [hz2]
  have e21 : w.heap.size + 3 + 1 = w.heap.size + 4 := rfl
  rw [e21]
  clear e21
  have hW4 : (((((w.alloc (.cells #[.int .i64 0, .int .i64 0, .slice none 0 0] 24)).alloc (.cells #[.bool false] 4)).alloc (.cells #[.bool false] 4)).alloc (.deferred (some []))).alloc (.loop r)) = allocsM w [(.cells #[.int .i64 0, .int .i64 0, .slice none 0 0] 24 : Obj), (.cells #[.bool false] 4 : Obj), (.cells #[.bool false] 4 : Obj), (.deferred (some []) : Obj), (.loop r : Obj)] := rfl
  have HAF := hide (allocsM_facts [(.cells #[.int .i64 0, .int .i64 0, .slice none 0 0] 24 : Obj), (.cells #[.bool false] 4 : Obj), (.cells #[.bool false] 4 : Obj), (.deferred (some []) : Obj), (.loop r : Obj)] w)
  rw [← hW4] at HAF
  clear hW4
  generalize (((((w.alloc (.cells #[.int .i64 0, .int .i64 0, .slice none 0 0] 24)).alloc (.cells #[.bool false] 4)).alloc (.cells #[.bool false] 4)).alloc (.deferred (some []))).alloc (.loop r)) = W5 at *
  have hz5 : W5.heap.size = w.heap.size + 5 := HAF.out.2.1
  have HB5 : Hid (Below w.heap.size w W5) := HAF.out.1
  have HJ5 : Hid (FiJ w r W5) := ⟨HAF.out.2.2 4 _ rfl, HAF.out.2.2 3 _ rfl, HAF.out.2.2 0 _ rfl, HAF.out.2.2 1 _ rfl, HAF.out.2.2 2 _ rfl, HAF.out.1⟩
  clear HAF
  obtain ⟨rd, hrd⟩ : ∃ rd : Loop, rd = { r with state := .done, pending := some .ret } := ⟨_, rfl⟩
  obtain ⟨rb, hrb⟩ : ∃ rb : Loop, rb = { r with state := .busy } := ⟨_, rfl⟩
  have RH : StopTk (.func (.yield (w.heap.size + 4)) #[] #[]) (fun b => (X b ∧ b < w.heap.size) ∨ w.heap.size + 5 ≤ b) (FiJ w r) (FiS X w rd) := by
    have HR1 := hide hr1
    have HR2 := hide hr2
    have HR3 := hide hr3
    have HR4 := hide hr4
    have HR5 := hide hr5
    have HR6 := hide hr6
    clear hr1 hr2 hr3 hr4 hr5 hr6 hz2
    refine Or.inr ⟨w.heap.size + 4, rfl, fun W v x ok Z hj hv hZ n' => ?_⟩
    obtain ⟨va, vc, rfl, hsx⟩ := hv
    have hL := hj.lp
    have hlL : w.heap.size + 4 < W.heap.size := (Array.getElem?_eq_some_iff.1 hL).1
    have HSX := hide hsx
    have HZ := hide hZ
    have HJJ := hide hj
    clear hsx hZ hj
    have Y : YieldAt Fence.wide n' Try.prog (w.heap.size + 4) #[.agg #[.int .i64 x.kind, .int .i64 x.idx, .slice va x.subs.length vc], .bool ok] W fun e W' => ∃ s, e = .returned (.bool s) ∧ (s = false ∧ FiS X w rd x ok W') := by
      refine yield_two hrb hrd HR5.out HR6.out HR4.out HR3.out hL HR1.out HR2.out rfl ?_
      have hL2 : (W.alloc (.cells #[.int .i64 x.kind, .int .i64 x.idx, .slice va x.subs.length vc] 24)).heap[w.heap.size + 4]? = some (.loop r) := (Below.heap_alloc _ _ _ hlL).trans hL
      have kV : ∀ b, b < W.heap.size → b ≠ w.heap.size + 4 → ((W.alloc (.cells #[.int .i64 x.kind, .int .i64 x.idx, .slice va x.subs.length vc] 24)).putObj (w.heap.size + 4) (.loop rb)).heap[b]? = W.heap[b]? := fun b hb hne => (World.putObj_heap_other hne).trans (Below.heap_alloc _ _ _ hb)
      have hzV : ((W.alloc (.cells #[.int .i64 x.kind, .int .i64 x.idx, .slice va x.subs.length vc] 24)).putObj (w.heap.size + 4) (.loop rb)).heap.size = W.heap.size + 1 := by simp
      have hCB : Blk ((W.alloc (.cells #[.int .i64 x.kind, .int .i64 x.idx, .slice va x.subs.length vc] 24)).putObj (w.heap.size + 4) (.loop rb)) W.heap.size #[.int .i64 x.kind, .int .i64 x.idx, .slice va x.subs.length vc] 24 := (World.putObj_heap_other (by omega)).trans (Blk.new W _ _)
      have hLV : ((W.alloc (.cells #[.int .i64 x.kind, .int .i64 x.idx, .slice va x.subs.length vc] 24)).putObj (w.heap.size + 4) (.loop rb)).heap[w.heap.size + 4]? = some (.loop rb) := World.putObj_heap_same (by simp; omega)
      have hAV : Blk ((W.alloc (.cells #[.int .i64 x.kind, .int .i64 x.idx, .slice va x.subs.length vc] 24)).putObj (w.heap.size + 4) (.loop rb)) (w.heap.size) #[.int .i64 0, .int .i64 0, .slice none 0 0] 24 := (kV _ (by omega) (by omega)).trans HJJ.out.ba
      have hBV : Blk ((W.alloc (.cells #[.int .i64 x.kind, .int .i64 x.idx, .slice va x.subs.length vc] 24)).putObj (w.heap.size + 4) (.loop rb)) (w.heap.size + 1) #[.bool false] 4 := (kV _ (by omega) (by omega)).trans HJJ.out.bb
      have hCV : Blk ((W.alloc (.cells #[.int .i64 x.kind, .int .i64 x.idx, .slice va x.subs.length vc] 24)).putObj (w.heap.size + 4) (.loop rb)) (w.heap.size + 2) #[.bool false] 4 := (kV _ (by omega) (by omega)).trans HJJ.out.bc
      have hDV : ((W.alloc (.cells #[.int .i64 x.kind, .int .i64 x.idx, .slice va x.subs.length vc] 24)).putObj (w.heap.size + 4) (.loop rb)).heap[w.heap.size + 3]? = some (.deferred (some [])) := (kV _ (by omega) (by omega)).trans HJJ.out.df
      have hEV : Below w.heap.size w ((W.alloc (.cells #[.int .i64 x.kind, .int .i64 x.idx, .slice va x.subs.length vc] 24)).putObj (w.heap.size + 4) (.loop rb)) := ⟨HJJ.out.bl.os, HJJ.out.bl.tape, HJJ.out.bl.output, by rw [hzV]; have := HJJ.out.bl.size; omega, fun b hb => (kV b (by omega) (by omega)).trans (HJJ.out.bl.block b hb)⟩
      have c0 : ((W.alloc (.cells #[.int .i64 x.kind, .int .i64 x.idx, .slice va x.subs.length vc] 24)).putObj (w.heap.size + 4) (.loop rb)).cell? ⟨W.heap.size, 0, none⟩ = some (.int .i64 x.kind) := hCB.cell 0
      have c1 : ((W.alloc (.cells #[.int .i64 x.kind, .int .i64 x.idx, .slice va x.subs.length vc] 24)).putObj (w.heap.size + 4) (.loop rb)).cell? ⟨W.heap.size, 1, none⟩ = some (.int .i64 x.idx) := hCB.cell 1
      have c2 : ((W.alloc (.cells #[.int .i64 x.kind, .int .i64 x.idx, .slice va x.subs.length vc] 24)).putObj (w.heap.size + 4) (.loop rb)).cell? ⟨W.heap.size, 2, none⟩ = some (.slice va x.subs.length vc) := hCB.cell 2
      have a0 : ((W.alloc (.cells #[.int .i64 x.kind, .int .i64 x.idx, .slice va x.subs.length vc] 24)).putObj (w.heap.size + 4) (.loop rb)).cell? ⟨w.heap.size, 0, none⟩ = some (.int .i64 0) := hAV.cell 0
      have a1 : ((W.alloc (.cells #[.int .i64 x.kind, .int .i64 x.idx, .slice va x.subs.length vc] 24)).putObj (w.heap.size + 4) (.loop rb)).cell? ⟨w.heap.size, 1, none⟩ = some (.int .i64 0) := hAV.cell 1
      have a2 : ((W.alloc (.cells #[.int .i64 x.kind, .int .i64 x.idx, .slice va x.subs.length vc] 24)).putObj (w.heap.size + 4) (.loop rb)).cell? ⟨w.heap.size, 2, none⟩ = some (.slice none 0 0) := hAV.cell 2
      have b0 : ((W.alloc (.cells #[.int .i64 x.kind, .int .i64 x.idx, .slice va x.subs.length vc] 24)).putObj (w.heap.size + 4) (.loop rb)).cell? ⟨w.heap.size + 1, 0, none⟩ = some (.bool false) := hBV.cell 0
      have b1 : ((W.alloc (.cells #[.int .i64 x.kind, .int .i64 x.idx, .slice va x.subs.length vc] 24)).putObj (w.heap.size + 4) (.loop rb)).cell? ⟨w.heap.size + 2, 0, none⟩ = some (.bool false) := hCV.cell 0
      have af := hAV.frozen
      have bf := hBV.frozen
      have cf := hCV.frozen
      have HLV := hide hLV
      have HKV := hide kV
      have HAV := hide hAV
      have HBV := hide hBV
      have HCV := hide hCV
      have HDV := hide hDV
      have HEV := hide hEV
      clear hrb hrd hCB hLV kV hAV hBV hCV hDV hEV
      gi_wp2
      refine ⟨(Array.getElem?_eq_some_iff.1 hL2).2, ?_⟩
      clear hL2
      generalize ((W.alloc (.cells #[.int .i64 x.kind, .int .i64 x.idx, .slice va x.subs.length vc] 24)).putObj (w.heap.size + 4) (.loop rb)) = V at *
      have hlA : w.heap.size < V.heap.size := by omega
      have hlB : w.heap.size + 1 < V.heap.size := by omega
      have hlC : w.heap.size + 2 < V.heap.size := by omega
      gi_wp2
      clear c0 c1 c2 a0 a1 a2 af bf cf b0 b1
      have k3 : ∀ b, b ≠ w.heap.size → b ≠ w.heap.size + 1 → b ≠ w.heap.size + 2 → (((((V.setCell ⟨w.heap.size, 0, none⟩ (.int .i64 x.kind)).setCell ⟨w.heap.size, 1, none⟩ (.int .i64 x.idx)).setCell ⟨w.heap.size, 2, none⟩ (.slice va x.subs.length vc)).setCell ⟨w.heap.size + 1, 0, none⟩ (.bool ok)).setCell ⟨w.heap.size + 2, 0, none⟩ (.bool true)).heap[b]? = V.heap[b]? := fun b h0 h1 h2 => by
        rw [Below.heap_setCell _ _ _ _ (by simpa using h2)]; rw [Below.heap_setCell _ _ _ _ (by simpa using h1)]; rw [Below.heap_setCell _ _ _ _ (by simpa using h0)]; rw [Below.heap_setCell _ _ _ _ (by simpa using h0)]; rw [Below.heap_setCell _ _ _ _ (by simpa using h0)]
      have hA3 : Blk (((((V.setCell ⟨w.heap.size, 0, none⟩ (.int .i64 x.kind)).setCell ⟨w.heap.size, 1, none⟩ (.int .i64 x.idx)).setCell ⟨w.heap.size, 2, none⟩ (.slice va x.subs.length vc)).setCell ⟨w.heap.size + 1, 0, none⟩ (.bool ok)).setCell ⟨w.heap.size + 2, 0, none⟩ (.bool true)) (w.heap.size) #[.int .i64 x.kind, .int .i64 x.idx, .slice va x.subs.length vc] 24 := by
        refine Blk.setOther (Blk.setOther ?_ _ _ (by omega)) _ _ (by omega)
        exact ((HAV.out.set 0 (.int .i64 x.kind)).set 1 (.int .i64 x.idx)).set 2 (.slice va x.subs.length vc)
      have hB3 : Blk (((((V.setCell ⟨w.heap.size, 0, none⟩ (.int .i64 x.kind)).setCell ⟨w.heap.size, 1, none⟩ (.int .i64 x.idx)).setCell ⟨w.heap.size, 2, none⟩ (.slice va x.subs.length vc)).setCell ⟨w.heap.size + 1, 0, none⟩ (.bool ok)).setCell ⟨w.heap.size + 2, 0, none⟩ (.bool true)) (w.heap.size + 1) #[.bool ok] 4 := Blk.setOther (Blk.set1M (Blk.setOther (Blk.setOther (Blk.setOther HBV.out 0 _ (by omega)) 1 _ (by omega)) 2 _ (by omega))) _ _ (by omega)
      have hC3 : Blk (((((V.setCell ⟨w.heap.size, 0, none⟩ (.int .i64 x.kind)).setCell ⟨w.heap.size, 1, none⟩ (.int .i64 x.idx)).setCell ⟨w.heap.size, 2, none⟩ (.slice va x.subs.length vc)).setCell ⟨w.heap.size + 1, 0, none⟩ (.bool ok)).setCell ⟨w.heap.size + 2, 0, none⟩ (.bool true)) (w.heap.size + 2) #[.bool true] 4 := Blk.set1M (Blk.setOther (Blk.setOther (Blk.setOther (Blk.setOther HCV.out 0 _ (by omega)) 1 _ (by omega)) 2 _ (by omega)) 0 _ (by omega))
      have hE3 : Below w.heap.size w (((((V.setCell ⟨w.heap.size, 0, none⟩ (.int .i64 x.kind)).setCell ⟨w.heap.size, 1, none⟩ (.int .i64 x.idx)).setCell ⟨w.heap.size, 2, none⟩ (.slice va x.subs.length vc)).setCell ⟨w.heap.size + 1, 0, none⟩ (.bool ok)).setCell ⟨w.heap.size + 2, 0, none⟩ (.bool true)) := (((((HEV.out.setCell (by simp) _).setCell (by simp) _).setCell (by simp) _).setCell (by simp) _).setCell (by simp) _)
      have hz3 : (((((V.setCell ⟨w.heap.size, 0, none⟩ (.int .i64 x.kind)).setCell ⟨w.heap.size, 1, none⟩ (.int .i64 x.idx)).setCell ⟨w.heap.size, 2, none⟩ (.slice va x.subs.length vc)).setCell ⟨w.heap.size + 1, 0, none⟩ (.bool ok)).setCell ⟨w.heap.size + 2, 0, none⟩ (.bool true)).heap.size = W.heap.size + 1 := by simp [World.setCell]; omega
      generalize (((((V.setCell ⟨w.heap.size, 0, none⟩ (.int .i64 x.kind)).setCell ⟨w.heap.size, 1, none⟩ (.int .i64 x.idx)).setCell ⟨w.heap.size, 2, none⟩ (.slice va x.subs.length vc)).setCell ⟨w.heap.size + 1, 0, none⟩ (.bool ok)).setCell ⟨w.heap.size + 2, 0, none⟩ (.bool true)) = W3 at *
      have kF : ∀ b, b < W.heap.size → b ≠ w.heap.size + 4 → b ≠ w.heap.size → b ≠ w.heap.size + 1 → b ≠ w.heap.size + 2 → (W3.putObj (w.heap.size + 4) (.loop rd)).heap[b]? = W.heap[b]? := fun b h0 h1 h2 h3 h4 => (World.putObj_heap_other h1).trans ((k3 b h2 h3 h4).trans (HKV.out b h0 h1))
      refine ⟨(k3 _ (by omega) (by omega) (by omega)).trans HLV.out, rfl, World.putObj_heap_same (by omega), (World.putObj_heap_other (by omega)).trans ((k3 _ (by omega) (by omega) (by omega)).trans HDV.out), ⟨va, vc, Z, (World.putObj_heap_other (by omega)).trans hA3, HSX.out.kept fun b hb => ?_, fun b hb => ?_⟩, (World.putObj_heap_other (by omega)).trans hB3, (World.putObj_heap_other (by omega)).trans hC3, ⟨hE3.os, hE3.tape, hE3.output, by simp; have := hE3.size; omega, fun b hb => (World.putObj_heap_other (by omega)).trans (hE3.block b hb)⟩⟩
      · have h := HZ.out b hb
        exact kF b h.1 (by omega) (by omega) (by omega) (by omega)
      · have h := HZ.out b hb
        refine ⟨?_, h.2⟩
        simp
        omega
    obtain ⟨hfn, htmps, hasg, hbody, hy, hR⟩ := Y
    refine ⟨hfn, htmps, hasg, hbody, hy, RoundIn.mono hR ?_⟩
    rintro e W' ⟨s, he, h1, h2⟩
    subst h1
    exact ⟨he, h2⟩
  refine (outer1_any (hi := w.heap.size + 5) HO.out (fun b h => Or.inr h) RH (FiJ.stay w r) T a c W5 (fun b => X b ∧ b < w.heap.size) (HT.out.below HB5.out HT.out.lt) (HS.out.later HB5.out) (fun b hb => ⟨by omega, Or.inl hb⟩) (by omega) HJ5.out).mono ?_
  rintro e Wf ⟨hret, hcase⟩
  have HRET := hide hret
  refine ⟨HRET.out, ?_⟩
  rcases hcase with ⟨h1, hb1⟩ | ⟨h1, x, ok, h2, hS⟩
  · left
    have J9 := FiJ.stay w r _ _ HJ5.out hb1
    refine ⟨J9.lp, ?_⟩
    have HP9 := hide h1
    clear h1 hb1 hret RH hr1 hr2 hr3 hr4 hr5 hr6 hz2
    have kg : ∀ b, b ≠ w.heap.size + 4 → (Wf.putObj (w.heap.size + 4) (.loop { r with state := .exhausted })).heap[b]? = Wf.heap[b]? := fun b h => World.putObj_heap_other h
    have zg : (Wf.putObj (w.heap.size + 4) (.loop { r with state := .exhausted })).heap.size = Wf.heap.size := by simp
    have og : (Wf.putObj (w.heap.size + 4) (.loop { r with state := .exhausted })).os = Wf.os ∧ (Wf.putObj (w.heap.size + 4) (.loop { r with state := .exhausted })).tape = Wf.tape ∧ (Wf.putObj (w.heap.size + 4) (.loop { r with state := .exhausted })).output = Wf.output := ⟨rfl, rfl, rfl⟩
    have hlW : w.heap.size + 4 < Wf.heap.size := (Array.getElem?_eq_some_iff.1 J9.lp).1
    generalize (Wf.putObj (w.heap.size + 4) (.loop { r with state := .exhausted })) = Wg at *
    have q0 : Blk Wg (w.heap.size) #[.int .i64 0, .int .i64 0, .slice none 0 0] 24 := (kg _ (by omega)).trans J9.ba
    have q1 : Blk Wg (w.heap.size + 1) #[.bool false] 4 := (kg _ (by omega)).trans J9.bb
    have q2 : Blk Wg (w.heap.size + 2) #[.bool false] 4 := (kg _ (by omega)).trans J9.bc
    have qd : Wg.heap[w.heap.size + 3]? = some (.deferred (some [])) := (kg _ (by omega)).trans J9.df
    have qb : Below w.heap.size w Wg := ⟨og.1.trans J9.bl.os, og.2.1.trans J9.bl.tape, og.2.2.trans J9.bl.output, by have := J9.bl.size; omega, fun b hb => (kg b (by omega)).trans (J9.bl.block b hb)⟩
    clear kg og J9
    have a0 : Wg.cell? ⟨w.heap.size, 0, none⟩ = some (.int .i64 0) := q0.cell 0
    have a1 : Wg.cell? ⟨w.heap.size, 1, none⟩ = some (.int .i64 0) := q0.cell 1
    have a2 : Wg.cell? ⟨w.heap.size, 2, none⟩ = some (.slice none 0 0) := q0.cell 2
    have af := q0.frozen
    have b0 : Wg.cell? ⟨w.heap.size + 1, 0, none⟩ = some (.bool false) := q1.cell 0
    have bf := q1.frozen
    have b1 : Wg.cell? ⟨w.heap.size + 2, 0, none⟩ = some (.bool false) := q2.cell 0
    have cf := q2.frozen
    have Q0 : Blk (((((Wg.setCell ⟨w.heap.size, 0, none⟩ (.int .i64 0)).setCell ⟨w.heap.size, 1, none⟩ (.int .i64 0)).setCell ⟨w.heap.size, 2, none⟩ (.slice none 0 0)).setCell ⟨w.heap.size + 1, 0, none⟩ (.bool false)).setCell ⟨w.heap.size + 2, 0, none⟩ (.bool false)) (w.heap.size) #[.int .i64 0, .int .i64 0, .slice none 0 0] 24 := by
      refine Blk.setOther (Blk.setOther ?_ _ _ (by omega)) _ _ (by omega)
      exact ((q0.set 0 (.int .i64 0)).set 1 (.int .i64 0)).set 2 (.slice none 0 0)
    have Q1 : Blk (((((Wg.setCell ⟨w.heap.size, 0, none⟩ (.int .i64 0)).setCell ⟨w.heap.size, 1, none⟩ (.int .i64 0)).setCell ⟨w.heap.size, 2, none⟩ (.slice none 0 0)).setCell ⟨w.heap.size + 1, 0, none⟩ (.bool false)).setCell ⟨w.heap.size + 2, 0, none⟩ (.bool false)) (w.heap.size + 1) #[.bool false] 4 := Blk.setOther (Blk.set1M (Blk.setOther (Blk.setOther (Blk.setOther q1 0 _ (by omega)) 1 _ (by omega)) 2 _ (by omega))) _ _ (by omega)
    have Q2 : Blk (((((Wg.setCell ⟨w.heap.size, 0, none⟩ (.int .i64 0)).setCell ⟨w.heap.size, 1, none⟩ (.int .i64 0)).setCell ⟨w.heap.size, 2, none⟩ (.slice none 0 0)).setCell ⟨w.heap.size + 1, 0, none⟩ (.bool false)).setCell ⟨w.heap.size + 2, 0, none⟩ (.bool false)) (w.heap.size + 2) #[.bool false] 4 := Blk.set1M (Blk.setOther (Blk.setOther (Blk.setOther (Blk.setOther q2 0 _ (by omega)) 1 _ (by omega)) 2 _ (by omega)) 0 _ (by omega))
    have QD : (((((Wg.setCell ⟨w.heap.size, 0, none⟩ (.int .i64 0)).setCell ⟨w.heap.size, 1, none⟩ (.int .i64 0)).setCell ⟨w.heap.size, 2, none⟩ (.slice none 0 0)).setCell ⟨w.heap.size + 1, 0, none⟩ (.bool false)).setCell ⟨w.heap.size + 2, 0, none⟩ (.bool false)).heap[w.heap.size + 3]? = some (.deferred (some [])) := by
      rw [Below.heap_setCell _ _ _ _ (by simp)]; rw [Below.heap_setCell _ _ _ _ (by simp)]; rw [Below.heap_setCell _ _ _ _ (by simp)]; rw [Below.heap_setCell _ _ _ _ (by simp)]; rw [Below.heap_setCell _ _ _ _ (by simp)]
      exact qd
    have QB : Below w.heap.size w (((((Wg.setCell ⟨w.heap.size, 0, none⟩ (.int .i64 0)).setCell ⟨w.heap.size, 1, none⟩ (.int .i64 0)).setCell ⟨w.heap.size, 2, none⟩ (.slice none 0 0)).setCell ⟨w.heap.size + 1, 0, none⟩ (.bool false)).setCell ⟨w.heap.size + 2, 0, none⟩ (.bool false)) := (((((qb.setCell (by simp) _).setCell (by simp) _).setCell (by simp) _).setCell (by simp) _).setCell (by simp) _)
    have HQ0 := hide Q0
    have HQ1 := hide Q1
    have HQ2 := hide Q2
    have HQD := hide QD
    have HQB := hide QB
    have hlA : w.heap.size < Wg.heap.size := by omega
    have hlB : w.heap.size + 1 < Wg.heap.size := by omega
    have hlC : w.heap.size + 2 < Wg.heap.size := by omega
    clear Q0 Q1 Q2 QD QB q0 q1 q2 qd qb
    gi_wp2
    clear a0 a1 a2 af bf cf b0 b1
    generalize (((((Wg.setCell ⟨w.heap.size, 0, none⟩ (.int .i64 0)).setCell ⟨w.heap.size, 1, none⟩ (.int .i64 0)).setCell ⟨w.heap.size, 2, none⟩ (.slice none 0 0)).setCell ⟨w.heap.size + 1, 0, none⟩ (.bool false)).setCell ⟨w.heap.size + 2, 0, none⟩ (.bool false)) = Wh at *
    have E0 : Blk (Wh.putObj (w.heap.size + 3) (.deferred none)) (w.heap.size) #[.int .i64 0, .int .i64 0, .slice none 0 0] 24 := (World.putObj_heap_other (by omega)).trans HQ0.out
    have E1 : Blk (Wh.putObj (w.heap.size + 3) (.deferred none)) (w.heap.size + 1) #[.bool false] 4 := (World.putObj_heap_other (by omega)).trans HQ1.out
    have E2 : Blk (Wh.putObj (w.heap.size + 3) (.deferred none)) (w.heap.size + 2) #[.bool false] 4 := (World.putObj_heap_other (by omega)).trans HQ2.out
    have EB : Below w.heap.size w (Wh.putObj (w.heap.size + 3) (.deferred none)) := ⟨HQB.out.os, HQB.out.tape, HQB.out.output, by simp; exact HQB.out.size, fun b hb => (World.putObj_heap_other (by omega)).trans (HQB.out.block b hb)⟩
    refine ⟨by simp, .inl ⟨_, _, rfl, run_takeDeferred HQD.out, ?_⟩⟩
    refine ⟨.tuple #[.agg #[.int .i64 0, .int .i64 0, .slice none 0 0], .bool false, .bool false], ?_, EB, Or.inl ⟨HP9.out, rfl⟩⟩
    have e0 := E0.cell 0
    have e1 := E0.cell 1
    have e2 := E0.cell 2
    have h2 := E1.cell 0
    have h3 := E2.cell 0
    simp [results, Try.results30, go_sem, e0, e1, e2, h2, h3]
  · right
    have HL9 := hide hS.lp
    refine ⟨by rw [← hrd]; exact HL9.out, ?_⟩
    have HD9 := hide hS.df
    obtain ⟨va, vc, Z, hA, hsl, hZ⟩ := hS.ex
    have hlW : w.heap.size + 4 < Wf.heap.size := (Array.getElem?_eq_some_iff.1 hS.lp).1
    have HF := hide (And.intro h1 h2)
    have HSL := hide hsl
    have HZ := hide hZ
    have kg : ∀ b, b ≠ w.heap.size + 4 → (Wf.putObj (w.heap.size + 4) (.loop { r with state := .exhausted, pending := some .ret })).heap[b]? = Wf.heap[b]? := fun b h => World.putObj_heap_other h
    have zg : (Wf.putObj (w.heap.size + 4) (.loop { r with state := .exhausted, pending := some .ret })).heap.size = Wf.heap.size := by simp
    have og : (Wf.putObj (w.heap.size + 4) (.loop { r with state := .exhausted, pending := some .ret })).os = Wf.os ∧ (Wf.putObj (w.heap.size + 4) (.loop { r with state := .exhausted, pending := some .ret })).tape = Wf.tape ∧ (Wf.putObj (w.heap.size + 4) (.loop { r with state := .exhausted, pending := some .ret })).output = Wf.output := ⟨rfl, rfl, rfl⟩
    generalize (Wf.putObj (w.heap.size + 4) (.loop { r with state := .exhausted, pending := some .ret })) = Wg at *
    have qd : Wg.heap[w.heap.size + 3]? = some (.deferred (some [])) := (kg _ (by omega)).trans HD9.out
    have E0 : Blk (Wg.putObj (w.heap.size + 3) (.deferred none)) (w.heap.size) #[.int .i64 x.kind, .int .i64 x.idx, .slice va x.subs.length vc] 24 := (World.putObj_heap_other (by omega)).trans ((kg _ (by omega)).trans hA)
    have E1 : Blk (Wg.putObj (w.heap.size + 3) (.deferred none)) (w.heap.size + 1) #[.bool ok] 4 := (World.putObj_heap_other (by omega)).trans ((kg _ (by omega)).trans hS.bb)
    have E2 : Blk (Wg.putObj (w.heap.size + 3) (.deferred none)) (w.heap.size + 2) #[.bool true] 4 := (World.putObj_heap_other (by omega)).trans ((kg _ (by omega)).trans hS.bc)
    have EB : Below w.heap.size w (Wg.putObj (w.heap.size + 3) (.deferred none)) := ⟨og.1.trans hS.bl.os, og.2.1.trans hS.bl.tape, og.2.2.trans hS.bl.output, by simp; have := hS.bl.size; omega, fun b hb => (World.putObj_heap_other (by omega)).trans ((kg b (by omega)).trans (hS.bl.block b hb))⟩
    have ES : SlM (Wg.putObj (w.heap.size + 3) (.deferred none)) (fun b => (X b ∧ b < w.heap.size) ∨ w.heap.size ≤ b) va x.subs := (HSL.out.kept fun b hb => by
      have h := HZ.out b hb
      exact (World.putObj_heap_other (by omega)).trans (kg b (by omega))).mono fun b hb _ => (HZ.out b hb).2.imp id fun h => by omega
    have HE0 := hide E0
    have HE1 := hide E1
    have HE2 := hide E2
    have HEB := hide EB
    have HES := hide ES
    have HQD := hide qd
    clear E0 E1 E2 EB ES qd kg og hA hsl hZ hS h1 h2 hret RH hr1 hr2 hr3 hr4 hr5 hr6 hz2
    gi_wp2
    refine ⟨by simp, .inl ⟨_, _, rfl, run_takeDeferred HQD.out, ?_⟩⟩
    refine ⟨.tuple #[.agg #[.int .i64 x.kind, .int .i64 x.idx, .slice va x.subs.length vc], .bool ok, .bool true], ?_, HEB.out, Or.inr ⟨HF.out.1, x, ok, va, vc, rfl, HF.out.2, HES.out⟩⟩
    have e0 := HE0.out.cell 0
    have e1 := HE0.out.cell 1
    have e2 := HE0.out.cell 2
    have h2 := HE1.out.cell 0
    have h3 := HE2.out.cell 0
    simp [results, Try.results30, go_sem, e0, e1, e2, h2, h3]
end Go.Proofs.Ytaifameeoipjjaa
