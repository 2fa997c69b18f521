/- Walks: a term is filled with what stands for variables; what stands for one is looked for. -/
import Derived.Test.YtdcimaobkeaenaaGreatZBIndexSaysOwn
import Derived.Test.YtdcimaobkeaenaaGreatZCIndexSaysOwn
namespace Go.Proofs.YtdcimaobkeaenaaGreat
open Go.RowKit
set_option linter.unusedSimpArgs false
set_option linter.unusedVariables false
set_option maxRecDepth 8000

/-- What filling gives. -/
def FsPost (S q : Nat) (td : Value) (h : List (ByteArray × Tm)) (tgt : Tm) (f : Bool) (Y : Nat → Prop) (w : World) (e : Ending) (w' : World) : Prop :=
  ∃ (y : Tm) (a' : Option Addr) (c' : Nat) (ok : Bool) (f' : Bool) (Y' : Nat → Prop), e = .returned (.tuple #[.agg #[.string y.name, .slice a' y.args.length c'], .bool ok]) ∧ SolE S q td h f' Y' w' ∧ (∀ b, Y' b → Y b ∨ w.heap.size ≤ b) ∧ (f = true → f' = true) ∧ ExQ (SolM S q) w w' ∧ Sl w' (fun b => w.heap.size ≤ b) a' y.args ∧
    (ok = true → f' = false ∧ y = tgt ∧ sizeL [y] ≤ 2000) ∧ (ok = false → f' = true ∨ 2000 < sizeL [tgt])

theorem fs_end {S q : Nat} {td : Value} {h : List (ByteArray × Tm)} {f f' : Bool} {Y Y' : Nat → Prop} {w w1 : World} {o : Obj} {y tgt : Tm} {a' : Option Addr} {c' : Nat} {ok : Bool} {v0 v1 : Value} (hE : SolE S q td h f' Y' w1) (hY : ∀ b, Y b → b < w.heap.size) (hsub : ∀ b, Y' b → Y b ∨ w.heap.size + 2 ≤ b) (hff : f = true → f' = true) (hx : ExQ (SolM S q) w w1) (hs : Sl w1 (fun b => w.heap.size + 2 ≤ b) a' y.args)
    (h1 : ok = true → f' = false ∧ y = tgt ∧ sizeL [y] ≤ 2000) (h2 : ok = false → f' = true ∨ 2000 < sizeL [tgt]) :
    FsPost S q td h tgt f Y w (.returned (.tuple #[.agg #[.string y.name, .slice a' y.args.length c'], .bool ok])) (((w1.alloc o).setCell ⟨w.heap.size + 1, 0, none⟩ v0).setCell ⟨w.heap.size + 1, 1, none⟩ v1).drew := by
  have hk : ∀ b, b < w1.heap.size → b ≠ w.heap.size + 1 → ((((w1.alloc o).setCell ⟨w.heap.size + 1, 0, none⟩ v0).setCell ⟨w.heap.size + 1, 1, none⟩ v1).drew).heap[b]? = w1.heap[b]? := fun b hb hn => by
    show (((w1.alloc o).setCell ⟨w.heap.size + 1, 0, none⟩ v0).setCell ⟨w.heap.size + 1, 1, none⟩ v1).heap[b]? = _
    rw [Below.heap_setCell _ _ _ _ (by simpa using hn), Below.heap_setCell _ _ _ _ (by simpa using hn), Below.heap_alloc _ _ _ hb]
  refine ⟨y, a', c', ok, f', Y', rfl, (solE_ok S q td h).keep _ _ _ _ hE fun b hb => hk b (hE.2.2.2.1 b hb) fun e => ?_, fun b hb => (hsub b hb).imp id fun h => by omega, hff, (((hx.alloc o).setNew (by omega) _ _).setNew (by omega) _ _).drew, ((hs.mono (Y := fun b => w.heap.size + 2 ≤ b ∧ b < w1.heap.size) fun b h1 h2 => ⟨h1, h2⟩).kept fun b hb => hk b hb.2 (by omega)).mono fun b hb _ => by omega, h1, h2⟩
  rcases hsub b hb with h | h
  · have := hY b h; omega
  · omega

set_option maxHeartbeats 1000000 in
theorem sfill_of (S q : Nat) (td : Value) (h : List (ByteArray × Tm)) (t : Tm) (a : Option Addr) (c : Nat) (w : World) (X Y : Nat → Prop) (f : Bool) (hXM : ∀ b, X b → ¬ SolM S q b) (hs : Sl w X a t.args) (hEv : SolE S q td h f Y w)
    (hL : ∀ nm, occL nm [t] → varB nm = true → LkC (SolE S q td h) (SolM S q) S (forT (sAt h) nm) nm) :
    Calls Tryz.prog 96 #[.pointer (some ⟨S, 0, none⟩), .agg #[.string t.name, .slice a t.args.length c]] w fun e w' => FsPost S q td h (gT (forT (sAt h)) t) f Y w e w' := by
  have hmf : ∀ (fn : Fn) (first cap : Array Value) (w : World), (Instr.makeFunc fn first cap).run Tryz.prog w = .ok (.func fn first cap) w := fun _ _ _ _ => rfl
  have HS := hide hs
  have HE := hide hEv
  have HL := hide hL
  have HXM := hide hXM
  have hSl : S < w.heap.size := hEv.2.2.2.1 S hEv.2.1
  clear hs hEv hL hXM
  have HYW : Hid (∀ b, Y b → b < w.heap.size) := HE.out.2.2.2.1
  have HMT : Hid (∀ b, SolM S q b → b < w.heap.size) := fun b hb => HYW.out b ((solE_ok S q td h).mt _ _ _ HE.out b hb)
  have FA : Hid (∀ w', Below w.heap.size w w' → Calls Tryz.prog 102 #[.agg #[.string t.name, .slice a t.args.length c], .int .i64 2000, .func (.func 103) #[.pointer (some ⟨S, 0, none⟩)] #[]] w' fun e w'' => FiPost (SolE S q td h) (SolM S q) (gT (forT (sAt h)) t) 2000 f Y w' e w'') := fun w' hb =>
    fillL_any (solE_ok S q td h) S (forT (sAt h)) t 2000 a c w' X Y f (by omega) HXM.out (HS.out.later hb) ((solE_ok S q td h).below HE.out hb) HL.out
  have HB2 : Hid (Below w.heap.size w ((w.alloc (.cells #[.string t.name, .slice a t.args.length c] 24)).alloc (.cells #[.string ⟨#[]⟩, .slice none 0 0] 24))) := below2 _ _
  have R2 : Hid (Blk ((w.alloc (.cells #[.string t.name, .slice a t.args.length c] 24)).alloc (.cells #[.string ⟨#[]⟩, .slice none 0 0] 24)) (w.heap.size + 1) #[.string ⟨#[]⟩, .slice none 0 0] 24) := by
    have h := Blk.new (w.alloc (.cells #[.string t.name, .slice a t.args.length c] 24)) #[.string ⟨#[]⟩, .slice none 0 0] 24
    unfold Hid
    simpa using h
  have z2 : ((w.alloc (.cells #[.string t.name, .slice a t.args.length c] 24)).alloc (.cells #[.string ⟨#[]⟩, .slice none 0 0] 24)).heap.size = w.heap.size + 2 := by simp
  go_enter Tryz.func96, Tryz.ntmps96
  go_wp2_with fail
  generalize ((w.alloc (.cells #[.string t.name, .slice a t.args.length c] 24)).alloc (.cells #[.string ⟨#[]⟩, .slice none 0 0] 24)) = w2 at *
  refine (FA.out _ HB2.out).mono ?_
  rintro e w1 ⟨s', a', l', c', ok, f', Y', rfl, hE1, hsub, hff, hx, hc⟩
  have HE1 := hide hE1
  have HSUB : Hid (∀ b, Y' b → Y b ∨ w.heap.size + 2 ≤ b) := fun b hb => (hsub b hb).imp id fun h => by omega
  have HFF := hide hff
  have HX : Hid (ExQ (SolM S q) w w1) := (ExQ.ofBelow HB2.out).trans hx
  have R1 := hide (R2.out.exq hx (fun h => by have := HMT.out _ h; omega))
  have HZ1 : Hid (w.heap.size + 2 ≤ w1.heap.size) := by have := hx.size; unfold Hid; omega
  have HC := hide hc
  obtain ⟨⟨L, hB1, _, _⟩, _⟩ := hE1
  have b2 : ∀ o, (w1.alloc o).cell? ⟨S, 2, none⟩ = some (.bool f') := fun o => (hB1.alloc o).cell 2
  have r0 : ∀ o, (w1.alloc o).cell? ⟨w.heap.size + 1, 0, none⟩ = some (.string ⟨#[]⟩) := fun o => (R1.out.alloc o).cell 0
  have r1 : ∀ o, (w1.alloc o).cell? ⟨w.heap.size + 1, 1, none⟩ = some (.slice none 0 0) := fun o => (R1.out.alloc o).cell 1
  have rf := R1.out.frozen
  clear hB1 hsub hff hx hc FA
  go_wp2_with fail
  have p0 : ∀ o, (w1.alloc o).frozen? ⟨w.heap.size + 1, 0, none⟩ = false := fun o => (R1.out.alloc o).frozen 0
  have p1 : ∀ o, (w1.alloc o).frozen? ⟨w.heap.size + 1, 1, none⟩ = false := fun o => (R1.out.alloc o).frozen 1
  rcases HC.out with ⟨rfl, y, rfl, rfl, hz, hsl, hgd⟩ | ⟨rfl, rfl, rfl, rfl, rfl, hgd⟩
  · have HSL : Hid (Sl w1 (fun b => w.heap.size + 2 ≤ b) a' y.args) := hsl.mono fun b hb _ => by omega
    have HGD := hide hgd
    have HZ := hide hz
    clear hsl hgd hz
    cases f' with
    | true =>
      go_region
      all_goals
        go_wp2_with fail
        refine bodyPost_ret (v := .tuple #[.agg #[.string y.name, .slice a' y.args.length c'], .bool false]) (by simp [results, Tryz.results96, go_sem, World.cell?_setCell_same, World.cell?_setCell_other, r0, r1]) rfl ?_
        exact fs_end HE1.out HYW.out HSUB.out (fun _ => rfl) HX.out HSL.out (fun h => by cases h) (fun _ => Or.inl rfl)
    | false =>
      go_region
      all_goals
        go_wp2_with fail
        refine bodyPost_ret (v := .tuple #[.agg #[.string y.name, .slice a' y.args.length c'], .bool true]) (by simp [results, Tryz.results96, go_sem, World.cell?_setCell_same, World.cell?_setCell_other, r0, r1]) rfl ?_
        exact fs_end HE1.out HYW.out HSUB.out HFF.out HX.out HSL.out (fun _ => ⟨rfl, HGD.out trivial, HZ.out⟩) (fun h => by cases h)
  · have HGD := hide hgd
    clear hgd
    have HSL : Hid (Sl w1 (fun b => w.heap.size + 2 ≤ b) none (⟨⟨#[]⟩, []⟩ : Tm).args) := ⟨by simp, Or.inl rfl⟩
    go_region
    all_goals
      go_wp2_with fail
      refine bodyPost_ret (v := .tuple #[.agg #[.string (⟨⟨#[]⟩, []⟩ : Tm).name, .slice none (⟨⟨#[]⟩, []⟩ : Tm).args.length 0], .bool false]) (by simp [results, Tryz.results96, go_sem, World.cell?_setCell_same, World.cell?_setCell_other, r0, r1]) rfl ?_
      exact fs_end HE1.out HYW.out HSUB.out HFF.out HX.out HSL.out (fun h => by cases h) (fun _ => by
        cases hf : f' with
        | true => exact Or.inl rfl
        | false => exact Or.inr (HGD.out hf))

theorem stE_lit {w : World} {Y : Nat → Prop} {h : List (ByteArray × Tm)} {i : Nat} {hi : i < h.length} {v : Value} (e : StE w Y h i hi v) : ∃ (T : Tm) (j : Nat) (a : Option Addr) (c : Nat), T = stood h i (max j (i + 1)) hi ∧ j ≤ h.length ∧ v = .agg #[.string T.name, .slice a T.args.length c, .int .i64 (j : Int)] ∧ Sl w Y a T.args := by
  obtain ⟨j, a, c, h1, h2, h3⟩ := e
  exact ⟨_, j, a, c, rfl, h1, h2, h3⟩
theorem run_len {P : Program} {w : World} {T kt et : TypeId} {r : Nat} {L : List (ByteArray × Value)} (hm : P.underlying T = some (.map kt et)) (h : MapAt w r L) (ty : TypeId) : (Builtin.len_ #[T] ty #[.map (some r)]).run P w = .ok (.int .i64 (L.length : Int)) w := by
  obtain ⟨es, clk, hb, he, _⟩ := h
  have hl : es.size = L.length := by have := congrArg List.length he; simpa using this
  simp [Builtin.len_, run_underlying hm, MapKept.run_getObj_map hb, goInt, Result.andThen, hl]

set_option maxHeartbeats 1000000 in
/-- What is not bound. -/
theorem look_free (S q : Nat) (td : Value) (h : List (ByteArray × Tm)) (g : GoodH h) (nm : ByteArray) (hn : ∀ i (hi : i < h.length), h[i].1 ≠ nm) : LkC (SolE S q td h) (SolM S q) S (forT (sAt h) nm) nm := by
  intro f Y w hE
  have HE := hide hE
  obtain ⟨⟨L, hB, hM, hSt⟩, hYS, hYq, hY, hg⟩ := hE
  have hz : ∀ w', (zeroValue 156).run Tryz.prog w' = .ok (.agg #[.string ⟨#[]⟩, .slice none 0 0, .int .i64 0]) w' := fun w' => Tryz.zeroValue156 w'
  have hml := hM.lt
  have hSl := hB.lt
  have HF := hide (forT_free g hn)
  have b1 : ∀ o, (w.alloc o).cell? ⟨S, 1, none⟩ = some (.map (some q)) := fun o => (hB.alloc o).cell 1
  have hlk : ∀ o, (Instr.lookup 127 (.map (some q)) (.string nm) true).run Tryz.prog (w.alloc o) = .ok (.tuple #[.agg #[.string ⟨#[]⟩, .slice none 0 0, .int .i64 0], .bool false]) (w.alloc o) := fun o => by
    rw [run_look (P := Tryz.prog) Tryz.underlying127 Tryz.underlying9 (hz _) (hM.kept (Below.heap_alloc _ _ _ hml)) nm, hSt.none hn]; rfl
  have HB := hide hB
  clear hB hM hSt hg
  go_enter Tryz.func103, Tryz.ntmps103
  go_wp2_with fail
  go_region
  all_goals go_wp2_with fail
  all_goals
    refine bodyPost_ret (v := .tuple #[.agg #[.string ⟨#[]⟩, .slice none 0 0], .bool false]) (by simp [results, Tryz.results103, go_sem]) rfl ?_
    exact ⟨⟨#[]⟩, none, 0, 0, false, f, Y, rfl, (solE_ok S q td h).below HE.out (((Below.refl _ _).alloc (Nat.le_refl _) _).alloc (by simp) _).drew, fun b hb => Or.inl hb, fun h => h, (((ExQ.refl _ _).alloc _).alloc _).drew, Or.inr ⟨rfl, fun _ => HF.out⟩⟩

/-- What stands for a variable is put anew. -/
theorem look_put {S q : Nat} {td : Value} {h : List (ByteArray × Tm)} (g : GoodH h) {i : Nat} (hi : i < h.length) {f' : Bool} {Y' Z : Nat → Prop} {w1 WS : World} (hE : SolE S q td h f' Y' w1) (hk : ∀ b, Y' b → WS.heap[b]? = w1.heap[b]?) {a' : Option Addr} {c' : Nat} {y : Tm} (hy : y = stood h i h.length hi) (hZ : ∀ b, Z b → b < WS.heap.size ∧ b ≠ S ∧ b ≠ q) (hs : Sl WS Z a' y.args) {nm : ByteArray} (hnm : h[i].1 = nm) :
    ∃ w5, (Instr.mapUpdate 127 (.map (some q)) (.string nm) (.agg #[.string y.name, .slice a' y.args.length c', .int .i64 (h.length : Int)])).run Tryz.prog WS = .ok () w5 ∧ SolE S q td h f' (fun b => Y' b ∨ Z b) w5 ∧ w5.heap.size = WS.heap.size ∧ w5.os = WS.os ∧ w5.tape = WS.tape ∧ w5.output = WS.output ∧ ∀ b, b ≠ q → w5.heap[b]? = WS.heap[b]? := by
  have hE2 := (solE_ok S q td h).keep _ _ _ _ hE hk
  obtain ⟨⟨L, e1, e2, e3⟩, e4, e5, e6, e7⟩ := hE2
  obtain ⟨v0, hv0, _⟩ := e3.get g hi
  have hSq : S ≠ q := fun e => by
    obtain ⟨es, clk, h1, _⟩ := e2
    subst e
    unfold Blk at e1
    rw [h1] at e1; cases e1
  obtain ⟨w5, h1, h2, h3, h4, h5, h6, h7⟩ := run_set (P := Tryz.prog) Tryz.underlying127 Tryz.underlying9 e2 h[i].1 (.agg #[.string y.name, .slice a' y.args.length c', .int .i64 (h.length : Int)]) v0 hv0
  refine ⟨w5, by rw [← hnm]; exact h1, ⟨⟨_, ?_, h2, ?_⟩, Or.inl e4, Or.inl e5, fun b hb => ?_, e7⟩, h3, h4, h5, h6, h7⟩
  · unfold Blk at *; rw [h7 S hSq]; exact e1
  · have kp : ∀ (X : Nat → Prop) a l, (∀ b, X b → (Y' b ∨ Z b) ∧ b ≠ S ∧ b ≠ q) → Sl WS X a l → Sl w5 (fun b => (Y' b ∨ Z b) ∧ b ≠ S ∧ b ≠ q) a l := fun X a l hX hsl => (hsl.kept fun b hb => h7 b (hX b hb).2.2).mono fun b hb _ => hX b hb
    refine (e3.imp fun a l hsl => kp _ a l (fun b hb => ⟨Or.inl hb.1, hb.2⟩) hsl).set g hi ⟨h.length, a', c', Nat.le_refl _, ?_, ?_⟩
    · rw [Nat.max_eq_left (by omega), ← hy]
    · rw [Nat.max_eq_left (by omega), ← hy]
      exact kp _ _ _ (fun b hb => ⟨Or.inr hb, (hZ b hb).2⟩) hs
  · rw [h3]
    rcases hb with hb | hb
    · exact e6 b hb
    · exact (hZ b hb).1
/-- Something was found to be too great. -/
theorem look_full {S q : Nat} {td : Value} {h : List (ByteArray × Tm)} {f' : Bool} {Y' Z : Nat → Prop} {w1 WS : World} (hE : SolE S q td h f' Y' w1) (hk : ∀ b, Y' b → WS.heap[b]? = w1.heap[b]?) (hg : grtB (sAt h) = true) (hZ : ∀ b, Z b → b < WS.heap.size ∧ b ≠ S ∧ b ≠ q) : SolE S q td h true (fun b => Y' b ∨ Z b) (WS.setCell ⟨S, 2, none⟩ (.bool true)) := by
  have hE2 := (solE_ok S q td h).keep _ _ _ _ hE hk
  obtain ⟨⟨L, e1, e2, e3⟩, e4, e5, e6, e7⟩ := hE2
  have hSq : S ≠ q := fun e => by
    obtain ⟨es, clk, h1, _⟩ := e2
    subst e
    unfold Blk at e1
    rw [h1] at e1; cases e1
  have hk2 : ∀ b, b ≠ S → (WS.setCell ⟨S, 2, none⟩ (.bool true)).heap[b]? = WS.heap[b]? := fun b hb => Below.heap_setCell _ _ _ _ (by simpa using hb)
  refine ⟨⟨L, ?_, e2.kept (hk2 q (Ne.symm hSq)), e3.imp fun a l hsl => (hsl.kept fun b hb => hk2 b hb.2.1).mono fun b hb _ => ⟨Or.inl hb.1, hb.2⟩⟩, Or.inl e4, Or.inl e5, fun b hb => ?_, fun _ => hg⟩
  · have := e1.set 2 (.bool true)
    simpa using this
  · have hz : (WS.setCell ⟨S, 2, none⟩ (.bool true)).heap.size = WS.heap.size := by simp [World.setCell]
    rw [hz]
    rcases hb with hb | hb
    · exact e6 b hb
    · exact (hZ b hb).1

set_option maxHeartbeats 1000000 in
/-- What is bound. -/
theorem look_at (S q : Nat) (td : Value) (h : List (ByteArray × Tm)) (g : GoodH h) (hN : NamesH h) (i : Nat) (hi : i < h.length)
    (hrec : ∀ k (hk : k < h.length), i < k → LkC (SolE S q td h) (SolM S q) S (forT (sAt h) h[k].1) h[k].1) : LkC (SolE S q td h) (SolM S q) S (forT (sAt h) h[i].1) h[i].1 := by
  intro f Y w hE
  have HE := hide hE
  obtain ⟨⟨L, hB, hM, hSt⟩, hYS, hYq, hY, hg⟩ := hE
  obtain ⟨v, hgv, hst⟩ := hSt.get g hi
  obtain ⟨T, j, a, c, hT, hj, rfl, hsl⟩ := stE_lit hst
  have HST := hide hSt
  have HSL := hide hsl
  have HGV := hide hgv
  have HMM := hide hM
  have HG := hide hg
  have HY := hide hY
  have hz : ∀ w', (zeroValue 156).run Tryz.prog w' = .ok (.agg #[.string ⟨#[]⟩, .slice none 0 0, .int .i64 0]) w' := fun w' => Tryz.zeroValue156 w'
  have hml := hM.lt
  have hSl := hB.lt
  have hF := forT_at g hi
  obtain ⟨nm, hnm⟩ : ∃ nm, h[i].1 = nm := ⟨_, rfl⟩
  rw [hnm] at hgv hF HGV ⊢
  have HF := hide hF
  clear hF
  have HNM := hide hnm
  have HT := hide hT
  have hSq : S ≠ q := fun e => by
    obtain ⟨es, clk, h1, _⟩ := hM
    subst e
    unfold Blk at hB
    rw [h1] at hB; cases hB
  have HB := hide hB
  have b1 : ∀ o o', ((w.alloc o).alloc o').cell? ⟨S, 1, none⟩ = some (.map (some q)) := fun o o' => ((hB.alloc o).alloc o').cell 1
  have b1' : ∀ o, (w.alloc o).cell? ⟨S, 1, none⟩ = some (.map (some q)) := fun o => (hB.alloc o).cell 1
  have b2 : ∀ o o', ((w.alloc o).alloc o').cell? ⟨S, 2, none⟩ = some (.bool f) := fun o o' => ((hB.alloc o).alloc o').cell 2
  have hlk : ∀ o, (Instr.lookup 127 (.map (some q)) (.string nm) true).run Tryz.prog (w.alloc o) = .ok (.tuple #[.agg #[.string T.name, .slice a T.args.length c, .int .i64 (j : Int)], .bool true]) (w.alloc o) := fun o => by
    rw [run_look (P := Tryz.prog) Tryz.underlying127 Tryz.underlying9 (hz _) (hM.kept (Below.heap_alloc _ _ _ hml)) nm, hgv]; rfl
  have hln : Hid (L.length = h.length) := hSt.1
  have hlen : ∀ o o', Sem.run Tryz.prog (Builtin.len_ #[127] 3 #[.map (some q)]) ((w.alloc o).alloc o').drew = .ok (.int .i64 (h.length : Int)) ((w.alloc o).alloc o').drew := fun o o' => by
    have h1 : MapAt ((w.alloc o).alloc o').drew q L := HMM.out.below ((((Below.refl w.heap.size w).alloc (Nat.le_refl _) o).alloc (by simp) o').drew) hml
    rw [run_len Tryz.underlying127 h1, hln.out]
  clear hB hSt hg hY hsl hgv hst hnm hT hM
  cases f with
  | true =>
    go_enter Tryz.func103, Tryz.ntmps103
    go_wp2_with fail
    go_region
    all_goals go_wp2_with fail
    all_goals
      refine bodyPost_ret (v := .tuple #[.agg #[.string T.name, .slice a T.args.length c], .bool true]) (by simp [results, Tryz.results103, go_sem]) rfl ?_
      exact ⟨T.name, a, T.args.length, c, true, true, Y, rfl, (solE_ok S q td h).below HE.out (((Below.refl _ _).alloc (Nat.le_refl _) _).alloc (by simp) _).drew, fun b hb => Or.inl hb, fun h => h, (((ExQ.refl _ _).alloc _).alloc _).drew, Or.inl ⟨rfl, T, rfl, rfl, (HSL.out.later (((Below.refl _ _).alloc (Nat.le_refl _) _).alloc (by simp) _).drew).mono fun b hb _ => hb.1, fun h => by cases h⟩⟩
  | false =>
    by_cases hjl : j = h.length
    · have HJ := hide hjl
      have hT2 : Hid (forT (sAt h) nm = some T) := by
        unfold Hid
        rw [HF.out, HT.out, hjl, Nat.max_eq_left (by omega)]
      have hje : ((j : Int) == (h.length : Int)) = true := by rw [hjl]; simp
      clear hjl
      go_enter Tryz.func103, Tryz.ntmps103
      go_wp2_with fail
      go_region
      all_goals go_wp2_with fail
      all_goals
        refine bodyPost_ret (v := .tuple #[.agg #[.string T.name, .slice a T.args.length c], .bool true]) (by simp [results, Tryz.results103, go_sem]) rfl ?_
        exact ⟨T.name, a, T.args.length, c, true, false, Y, rfl, (solE_ok S q td h).below HE.out (((Below.refl _ _).alloc (Nat.le_refl _) _).alloc (by simp) _).drew, fun b hb => Or.inl hb, fun h => h, (((ExQ.refl _ _).alloc _).alloc _).drew, Or.inl ⟨rfl, T, rfl, rfl, (HSL.out.later (((Below.refl _ _).alloc (Nat.le_refl _) _).alloc (by simp) _).drew).mono fun b hb _ => hb.1, fun _ => hT2.out⟩⟩
    · have HJ := hide hjl
      have hje : ((j : Int) == (h.length : Int)) = false := beq_eq_false_iff_ne.2 (by omega)
      clear hjl
      go_enter Tryz.func103, Tryz.ntmps103
      go_wp2_with fail
      go_region
      go_wp2_with fail
      have HB0 : Hid (Below w.heap.size w ((w.alloc (.cells #[.string ⟨#[]⟩, .slice none 0 0] 24)).alloc (.cells #[.string T.name, .slice a T.args.length c, .int .i64 (h.length : Int)] 156)).drew) := (((Below.refl _ _).alloc (Nat.le_refl _) _).alloc (by simp) _).drew
      have R0 : Hid (Blk ((w.alloc (.cells #[.string ⟨#[]⟩, .slice none 0 0] 24)).alloc (.cells #[.string T.name, .slice a T.args.length c, .int .i64 (h.length : Int)] 156)).drew w.heap.size #[.string ⟨#[]⟩, .slice none 0 0] 24) := ((Blk.new w _ _).alloc _).drewN 1
      have X0 : Hid (Blk ((w.alloc (.cells #[.string ⟨#[]⟩, .slice none 0 0] 24)).alloc (.cells #[.string T.name, .slice a T.args.length c, .int .i64 (h.length : Int)] 156)).drew (w.heap.size + 1) #[.string T.name, .slice a T.args.length c, .int .i64 (h.length : Int)] 156) := by
        have h1 := Blk.new (w.alloc (.cells #[.string ⟨#[]⟩, .slice none 0 0] 24)) #[.string T.name, .slice a T.args.length c, .int .i64 (h.length : Int)] 156
        rw [World.size_alloc] at h1
        exact h1
      have z0 : ((w.alloc (.cells #[.string ⟨#[]⟩, .slice none 0 0] 24)).alloc (.cells #[.string T.name, .slice a T.args.length c, .int .i64 (h.length : Int)] 156)).drew.heap.size = w.heap.size + 2 := by simp
      generalize ((w.alloc (.cells #[.string ⟨#[]⟩, .slice none 0 0] 24)).alloc (.cells #[.string T.name, .slice a T.args.length c, .int .i64 (h.length : Int)] 156)).drew = w0 at *
      have HTG : Hid (gT (forT (sAt h)) T = stood h i h.length hi) := by
        unfold Hid
        rw [HT.out]
        exact stood_fill g hN hi (Nat.max_le.2 ⟨hj, hi⟩)
      have SF := sfill_of S q td h T a c w0 (fun b => Y b ∧ b ≠ S ∧ b ≠ q) Y false (fun b hb hm => by rcases hm with h | h; exact hb.2.1 h; exact hb.2.2 h) (HSL.out.later HB0.out) ((solE_ok S q td h).below HE.out HB0.out) (fun n2 ho hv => by
        by_cases hbd : ∃ k, ∃ hk : k < h.length, h[k].1 = n2
        · obtain ⟨k, hk, rfl⟩ := hbd
          rw [HT.out] at ho
          have h1 := stood_later g hi (Nat.max_le.2 ⟨hj, hi⟩) (hN i hi) hk ho
          exact hrec k hk (by omega)
        · exact look_free S q td h g n2 fun k hk e => hbd ⟨k, hk, e⟩)
      rw [HTG.out] at SF
      refine SF.mono ?_
      clear SF
      rintro e w1 ⟨y, a', c', ok, f', Y', rfl, hE1, hsub, hff, hx, hs1, hk1, hk2⟩
      have HX1 : Hid (ExQ (SolM S q) w w1) := (ExQ.ofBelow HB0.out).trans hx
      have hmn : ∀ b, SolM S q b → b < w.heap.size := fun b hb => by rcases hb with rfl | rfl; exact hSl; exact hml
      have R1 := hide (R0.out.exq hx (fun h => by have := hmn _ h; omega))
      have X1 := hide (X0.out.exq hx (fun h => by have := hmn _ h; omega))
      have HZ1 : Hid (w.heap.size + 2 ≤ w1.heap.size) := by have := hx.size; unfold Hid; omega
      have HSUB : Hid (∀ b, Y' b → Y b ∨ w.heap.size + 2 ≤ b) := fun b hb => (hsub b hb).imp id fun h => by omega
      have HS1 : Hid (Sl w1 (fun b => w.heap.size + 2 ≤ b ∧ b < w1.heap.size) a' y.args) := hs1.mono fun b hb h2 => ⟨by omega, h2⟩
      have HE1 := hide hE1
      have HYX : Hid (∀ b, Y' b → b ≠ w.heap.size ∧ b ≠ w.heap.size + 1) := fun b hb => by
        rcases HSUB.out b hb with h1 | h1
        · have := HY.out b h1; omega
        · omega
      have x0 : w1.cell? ⟨w.heap.size + 1, 0, none⟩ = some (.string T.name) := X1.out.cell 0
      have x1 : w1.cell? ⟨w.heap.size + 1, 1, none⟩ = some (.slice a T.args.length c) := X1.out.cell 1
      have x2 : w1.cell? ⟨w.heap.size + 1, 2, none⟩ = some (.int .i64 (h.length : Int)) := X1.out.cell 2
      have xf := X1.out.frozen
      have HK1 := hide hk1
      have HK2 := hide hk2
      clear hsub hx hs1 hk1 hk2 hE1 hff hmn
      cases ok with
      | true =>
        obtain ⟨rfl, hyT, hyz⟩ := HK1.out rfl
        have HYT := hide hyT
        clear hyT hyz HK1 HK2
        have hkS : ∀ b, b ≠ w.heap.size + 1 → ((w1.setCell ⟨w.heap.size + 1, 0, none⟩ (.string y.name)).setCell ⟨w.heap.size + 1, 1, none⟩ (.slice a' y.args.length c')).drew.heap[b]? = w1.heap[b]? := fun b hb => by
          show ((w1.setCell ⟨w.heap.size + 1, 0, none⟩ (.string y.name)).setCell ⟨w.heap.size + 1, 1, none⟩ (.slice a' y.args.length c')).heap[b]? = _
          rw [Below.heap_setCell _ _ _ _ (by simpa using hb), Below.heap_setCell _ _ _ _ (by simpa using hb)]
        have hzS : ((w1.setCell ⟨w.heap.size + 1, 0, none⟩ (.string y.name)).setCell ⟨w.heap.size + 1, 1, none⟩ (.slice a' y.args.length c')).drew.heap.size = w1.heap.size := by simp [World.setCell]
        obtain ⟨w5, hput, hE5, hz5, ho5, ht5, hu5, hk5⟩ := look_put (WS := ((w1.setCell ⟨w.heap.size + 1, 0, none⟩ (.string y.name)).setCell ⟨w.heap.size + 1, 1, none⟩ (.slice a' y.args.length c')).drew) (Z := fun b => w.heap.size + 2 ≤ b ∧ b < w1.heap.size) (c' := c') g hi HE1.out (fun b hb => hkS b (HYX.out b hb).2) HYT.out (fun b hb => ⟨by rw [hzS]; exact hb.2, by omega, by omega⟩) (HS1.out.kept fun b hb => hkS b (by omega)) HNM.out
        have HE5 := hide hE5
        have XS : Hid (Blk w5 (w.heap.size + 1) #[.string y.name, .slice a' y.args.length c', .int .i64 (h.length : Int)] 156) := by
          have h1 := (X1.out.set 0 (.string y.name)).set 1 (.slice a' y.args.length c')
          unfold Hid Blk
          rw [hk5 _ (by omega)]
          show ((w1.setCell ⟨w.heap.size + 1, 0, none⟩ (.string y.name)).setCell ⟨w.heap.size + 1, 1, none⟩ (.slice a' y.args.length c')).heap[w.heap.size + 1]? = _
          unfold Blk at h1
          rw [h1]
          simp
        have RS : Hid (Blk w5 w.heap.size #[.string ⟨#[]⟩, .slice none 0 0] 24) := by
          unfold Hid Blk
          rw [hk5 _ (by omega), hkS _ (by omega)]
          exact R1.out
        have HX5 : Hid (ExQ (SolM S q) w w5) := by
          have h1 := ((HX1.out.setNew (b := w.heap.size + 1) (by omega) 0 (.string y.name)).setNew (b := w.heap.size + 1) (by omega) 1 (.slice a' y.args.length c')).drew
          exact ⟨ho5.trans h1.os, ht5.trans h1.tape, hu5.trans h1.output, by rw [hz5]; exact h1.size, fun b hb hn => (hk5 b (fun e => hn (Or.inr e))).trans (h1.block b hb hn)⟩
        have s1 : ((w1.setCell ⟨w.heap.size + 1, 0, none⟩ (.string y.name)).setCell ⟨w.heap.size + 1, 1, none⟩ (.slice a' y.args.length c')).cell? ⟨S, 1, none⟩ = some (.map (some q)) := by
          obtain ⟨⟨L1, hB1, _⟩, _⟩ := HE1.out
          exact ((hB1.setOther _ _ (by omega)).setOther _ _ (by omega)).cell 1
        have y0 : ((w1.setCell ⟨w.heap.size + 1, 0, none⟩ (.string y.name)).setCell ⟨w.heap.size + 1, 1, none⟩ (.slice a' y.args.length c')).cell? ⟨w.heap.size + 1, 0, none⟩ = some (.string y.name) := by
          have := ((X1.out.set 0 (.string y.name)).set 1 (.slice a' y.args.length c')).cell 0
          simpa using this
        have y1 : ((w1.setCell ⟨w.heap.size + 1, 0, none⟩ (.string y.name)).setCell ⟨w.heap.size + 1, 1, none⟩ (.slice a' y.args.length c')).cell? ⟨w.heap.size + 1, 1, none⟩ = some (.slice a' y.args.length c') := by
          have := ((X1.out.set 0 (.string y.name)).set 1 (.slice a' y.args.length c')).cell 1
          simpa using this
        have y2 : ((w1.setCell ⟨w.heap.size + 1, 0, none⟩ (.string y.name)).setCell ⟨w.heap.size + 1, 1, none⟩ (.slice a' y.args.length c')).cell? ⟨w.heap.size + 1, 2, none⟩ = some (.int .i64 (h.length : Int)) := by
          have := ((X1.out.set 0 (.string y.name)).set 1 (.slice a' y.args.length c')).cell 2
          simpa using this
        have q0 : w5.cell? ⟨w.heap.size + 1, 0, none⟩ = some (.string y.name) := XS.out.cell 0
        have q1 : w5.cell? ⟨w.heap.size + 1, 1, none⟩ = some (.slice a' y.args.length c') := XS.out.cell 1
        have r0 : w5.cell? ⟨w.heap.size, 0, none⟩ = some (.string ⟨#[]⟩) := RS.out.cell 0
        have r1 : w5.cell? ⟨w.heap.size, 1, none⟩ = some (.slice none 0 0) := RS.out.cell 1
        have rf := RS.out.frozen
        have HZ5 : Hid (w5.heap.size = w1.heap.size) := by unfold Hid; rw [hz5, hzS]
        have HS5 : Hid (Sl w5 (fun b => w.heap.size + 2 ≤ b ∧ b < w1.heap.size) a' y.args) := (HS1.out.kept fun b hb => hkS b (by omega)).kept fun b hb => hk5 b (by omega)
        clear hE5 hz5 ho5 ht5 hu5 hk5 hzS hkS
        go_wp2_with fail
        go_region
        all_goals go_wp2_with fail
        all_goals
          refine bodyPost_ret (v := .tuple #[.agg #[.string y.name, .slice a' y.args.length c'], .bool true]) (by simp [results, Tryz.results103, go_sem, World.cell?_setCell_same, World.cell?_setCell_other, r0, r1]) rfl ?_
          have hkF : ∀ b, b ≠ w.heap.size → ((w5.setCell ⟨w.heap.size, 0, none⟩ (.string y.name)).setCell ⟨w.heap.size, 1, none⟩ (.slice a' y.args.length c')).heap[b]? = w5.heap[b]? := fun b hb => by
            rw [Below.heap_setCell _ _ _ _ (by simpa using hb), Below.heap_setCell _ _ _ _ (by simpa using hb)]
          refine ⟨y.name, a', y.args.length, c', true, false, _, rfl, (solE_ok S q td h).keep _ _ _ _ HE5.out (fun b hb => hkF b ?_), fun b hb => ?_, fun h => h, (HX5.out.setNew (by omega) _ _).setNew (by omega) _ _, Or.inl ⟨rfl, y, rfl, rfl, (HS5.out.kept fun b hb => hkF b (by omega)).mono fun b hb _ => Or.inr hb, fun _ => by rw [HF.out, HYT.out]⟩⟩
          · rcases hb with hb | hb
            · exact (HYX.out b hb).1
            · omega
          · rcases hb with hb | hb
            · exact (HSUB.out b hb).imp id fun h => by omega
            · right; omega
      | false =>
        have HGR : Hid (grtB (sAt h) = true) := by
          rcases HK2.out rfl with h1 | h1
          · exact HE1.out.2.2.2.2 h1
          · exact stood_great g hi h1
        have hkS : ∀ b, b ≠ w.heap.size + 1 → ((w1.setCell ⟨w.heap.size + 1, 0, none⟩ (.string y.name)).setCell ⟨w.heap.size + 1, 1, none⟩ (.slice a' y.args.length c')).heap[b]? = w1.heap[b]? := fun b hb => by
          rw [Below.heap_setCell _ _ _ _ (by simpa using hb), Below.heap_setCell _ _ _ _ (by simpa using hb)]
        have hzS : ((w1.setCell ⟨w.heap.size + 1, 0, none⟩ (.string y.name)).setCell ⟨w.heap.size + 1, 1, none⟩ (.slice a' y.args.length c')).heap.size = w1.heap.size := by simp [World.setCell]
        have HE5 := hide (look_full (WS := ((w1.setCell ⟨w.heap.size + 1, 0, none⟩ (.string y.name)).setCell ⟨w.heap.size + 1, 1, none⟩ (.slice a' y.args.length c'))) (Z := fun b => w.heap.size + 2 ≤ b ∧ b < w1.heap.size) HE1.out (fun b hb => hkS b (HYX.out b hb).2) HGR.out (fun b hb => ⟨by rw [hzS]; exact hb.2, by omega, by omega⟩))
        obtain ⟨⟨L1, hB1, hM1, hST1⟩, hYS1, hrest1⟩ := HE1.out
        have BS := hide ((hB1.setOther (b' := w.heap.size + 1) 0 (.string y.name) (by omega)).setOther (b' := w.heap.size + 1) 1 (.slice a' y.args.length c') (by omega))
        have XS := hide ((X1.out.set 0 (.string y.name)).set 1 (.slice a' y.args.length c'))
        have RS := hide ((R1.out.setOther (b' := w.heap.size + 1) 0 (.string y.name) (by omega)).setOther (b' := w.heap.size + 1) 1 (.slice a' y.args.length c') (by omega))
        have HX5 := hide ((HX1.out.setNew (b := w.heap.size + 1) (by omega) 0 (.string y.name)).setNew (b := w.heap.size + 1) (by omega) 1 (.slice a' y.args.length c'))
        have HS5 : Hid (Sl ((w1.setCell ⟨w.heap.size + 1, 0, none⟩ (.string y.name)).setCell ⟨w.heap.size + 1, 1, none⟩ (.slice a' y.args.length c')) (fun b => w.heap.size + 2 ≤ b ∧ b < w1.heap.size) a' y.args) := HS1.out.kept fun b hb => hkS b (by omega)
        have s2 : ((w1.setCell ⟨w.heap.size + 1, 0, none⟩ (.string y.name)).setCell ⟨w.heap.size + 1, 1, none⟩ (.slice a' y.args.length c')).cell? ⟨S, 2, none⟩ = some (.bool f') := BS.out.cell 2
        have sf := BS.out.frozen 2
        have y0 : (((w1.setCell ⟨w.heap.size + 1, 0, none⟩ (.string y.name)).setCell ⟨w.heap.size + 1, 1, none⟩ (.slice a' y.args.length c')).setCell ⟨S, 2, none⟩ (.bool true)).cell? ⟨w.heap.size + 1, 0, none⟩ = some (.string y.name) := by
          have := (XS.out.setOther (b' := S) 2 (.bool true) (by omega)).cell 0
          simpa using this
        have y1 : (((w1.setCell ⟨w.heap.size + 1, 0, none⟩ (.string y.name)).setCell ⟨w.heap.size + 1, 1, none⟩ (.slice a' y.args.length c')).setCell ⟨S, 2, none⟩ (.bool true)).cell? ⟨w.heap.size + 1, 1, none⟩ = some (.slice a' y.args.length c') := by
          have := (XS.out.setOther (b' := S) 2 (.bool true) (by omega)).cell 1
          simpa using this
        have r0 : (((w1.setCell ⟨w.heap.size + 1, 0, none⟩ (.string y.name)).setCell ⟨w.heap.size + 1, 1, none⟩ (.slice a' y.args.length c')).setCell ⟨S, 2, none⟩ (.bool true)).cell? ⟨w.heap.size, 0, none⟩ = some (.string ⟨#[]⟩) := (RS.out.setOther (b' := S) 2 (.bool true) (by omega)).cell 0
        have r1 : (((w1.setCell ⟨w.heap.size + 1, 0, none⟩ (.string y.name)).setCell ⟨w.heap.size + 1, 1, none⟩ (.slice a' y.args.length c')).setCell ⟨S, 2, none⟩ (.bool true)).cell? ⟨w.heap.size, 1, none⟩ = some (.slice none 0 0) := (RS.out.setOther (b' := S) 2 (.bool true) (by omega)).cell 1
        have rf := R1.out.frozen
        have hnS : w.heap.size + 1 ≠ S := by omega
        have hnS2 : w.heap.size ≠ S := by omega
        clear hB1 hM1 hST1 hYS1 hrest1 HK2 hkS hzS
        go_wp2_with fail
        refine bodyPost_ret (v := .tuple #[.agg #[.string y.name, .slice a' y.args.length c'], .bool true]) (by simp [results, Tryz.results103, go_sem, World.cell?_setCell_same, World.cell?_setCell_other, r0, r1]) rfl ?_
        have hkF : ∀ b, b ≠ w.heap.size → (((((w1.setCell ⟨w.heap.size + 1, 0, none⟩ (.string y.name)).setCell ⟨w.heap.size + 1, 1, none⟩ (.slice a' y.args.length c')).setCell ⟨S, 2, none⟩ (.bool true)).setCell ⟨w.heap.size, 0, none⟩ (.string y.name)).setCell ⟨w.heap.size, 1, none⟩ (.slice a' y.args.length c')).heap[b]? = (((w1.setCell ⟨w.heap.size + 1, 0, none⟩ (.string y.name)).setCell ⟨w.heap.size + 1, 1, none⟩ (.slice a' y.args.length c')).setCell ⟨S, 2, none⟩ (.bool true)).heap[b]? := fun b hb => by
          rw [Below.heap_setCell _ _ _ _ (by simpa using hb), Below.heap_setCell _ _ _ _ (by simpa using hb)]
        refine ⟨y.name, a', y.args.length, c', true, true, _, rfl, (solE_ok S q td h).keep _ _ _ _ HE5.out (fun b hb => hkF b ?_), fun b hb => ?_, fun h => rfl, ((HX5.out.set (Or.inl rfl) _ _).setNew (by omega) _ _).setNew (by omega) _ _, Or.inl ⟨rfl, y, rfl, rfl, ((HS5.out.kept fun b hb => Below.heap_setCell _ _ _ _ (by simp; omega)).kept fun b hb => hkF b (by omega)).mono fun b hb _ => Or.inr hb, fun h => by cases h⟩⟩
        · rcases hb with hb | hb
          · exact (HYX.out b hb).1
          · omega
        · rcases hb with hb | hb
          · exact (HSUB.out b hb).imp id fun h => by omega
          · right; omega

/-- Whatever is looked for. -/
theorem look_all (S q : Nat) (td : Value) (h : List (ByteArray × Tm)) (g : GoodH h) (hN : NamesH h) : ∀ (d i : Nat) (hi : i < h.length), h.length - i ≤ d → LkC (SolE S q td h) (SolM S q) S (forT (sAt h) h[i].1) h[i].1
  | 0, i, hi, hd => by omega
  | d + 1, i, hi, hd => look_at S q td h g hN i hi fun k hk hik => look_all S q td h g hN d k hk (by omega)
theorem look_any2 (S q : Nat) (td : Value) (h : List (ByteArray × Tm)) (g : GoodH h) (hN : NamesH h) (nm : ByteArray) : LkC (SolE S q td h) (SolM S q) S (forT (sAt h) nm) nm := by
  by_cases hbd : ∃ k, ∃ hk : k < h.length, h[k].1 = nm
  · obtain ⟨k, hk, rfl⟩ := hbd
    exact look_all S q td h g hN _ k hk (Nat.le_refl _)
  · exact look_free S q td h g nm fun k hk e => hbd ⟨k, hk, e⟩
/-- A term is filled. -/
theorem ufill_any (S q : Nat) (td : Value) (h : List (ByteArray × Tm)) (g : GoodH h) (hN : NamesH h) (t : Tm) (he : errL [t] = 0) (a : Option Addr) (c : Nat) (w : World) (X Y : Nat → Prop) (f : Bool) (hXM : ∀ b, X b → ¬ SolM S q b) (hs : Sl w X a t.args) (hEv : SolE S q td h f Y w) :
    Calls Tryz.prog 96 #[.pointer (some ⟨S, 0, none⟩), .agg #[.string t.name, .slice a t.args.length c]] w fun e w' => FsPost S q td h (onT (sAt h) t) f Y w e w' := by
  have h1 := sfill_of S q td h t a c w X Y f hXM hs hEv fun nm _ _ => look_any2 S q td h g hN nm
  rw [gT_onT g.all.vars he] at h1
  exact h1
end Go.Proofs.YtdcimaobkeaenaaGreat
