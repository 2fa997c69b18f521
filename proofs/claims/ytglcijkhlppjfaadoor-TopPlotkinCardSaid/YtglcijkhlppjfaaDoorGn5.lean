/- Walks: what two terms have in common (general.common.of). -/
import Derived.Test.YtglcijkhlppjfaaDoorGn4
import Derived.Test.YtglcijkhlppjfaaDoorRn2
namespace Go.Proofs.YtglcijkhlppjfaaDoor
open Go.RowKit
set_option linter.unusedSimpArgs false
set_option linter.unusedVariables false
set_option maxRecDepth 8000

/-- How far it is. -/
structure GfI (w : World) (O B r r1 r2 : Nat) (Y : Nat → Prop) (s : ByteArray) (va vb : Array Value) (u : Value) (L : List Tm) (xs : List Value) (h : List Pr) (wr : World) : Prop where
  row : Row wr (O + 1) 25 (fun _ => False) u L xs
  ex : ExQ (Mps r r1 r2) w wr
  bc : Blk wr w.heap.size #[.func (.func 33) #[] #[.pointer (some ⟨B, 0, none⟩)], .map (some r1), .map (some r2)] 57
  ba : Blk wr (w.heap.size + 1) va 25
  bb : Blk wr (w.heap.size + 2) vb 25
  res : Blk wr (w.heap.size + 3) #[.string ⟨#[]⟩, .slice none 0 0] 25
  out : Blk wr O #[.string s, u] 25
  sz : O + 1 ≤ wr.heap.size
  ol : w.heap.size + 4 ≤ O
  gm : GmAt wr B r r1 r2 Y h
theorem gf_round {w wq w5 : World} {O B r r1 r2 : Nat} {Y : Nat → Prop} {s : ByteArray} {va vb : Array Value} {u : Value} {L : List Tm} {xs : List Value} {h h' : List Pr} {t : Tm} {a5 : Option Addr} {c5 : Nat} (hM : ∀ x, Mps r r1 r2 x → x < w.heap.size) (hBl : B < w.heap.size) (hYw : ∀ x, Y x → x < w.heap.size) (hI : GfI w O B r r1 r2 Y s va vb u L xs h wq) (hl : L.length ≤ 1000000)
    (h5 : ExQ (Mps r r1 r2) wq w5) (hs5 : Sl w5 (fun b => wq.heap.size ≤ b) a5 t.args) (hg5 : GmAt w5 B r r1 r2 Y h') :
    ∃ g cap w3, (Builtin.append_ #[23, 23] 23 #[u, .slice (some ⟨w5.heap.size, 0, none⟩) 1 1]).run Tryd.prog (w5.alloc (.cells #[.string t.name, .slice a5 t.args.length c5] 25)) = .ok (.slice (some ⟨g, 0, none⟩) (L.length + 1) cap) w3 ∧
      w5.cell? ⟨O, 1, none⟩ = some u ∧ (w5.alloc (.cells #[.string t.name, .slice a5 t.args.length c5] 25)).cell? ⟨O, 1, none⟩ = some u ∧ w3.cell? ⟨O, 1, none⟩ = some u ∧ w3.frozen? ⟨O, 1, none⟩ = false ∧ O < w3.heap.size ∧
      (∀ x, x < w.heap.size + 4 → ¬ Mps r r1 r2 x → w5.heap[x]? = wq.heap[x]? ∧ (w5.alloc (.cells #[.string t.name, .slice a5 t.args.length c5] 25)).heap[x]? = wq.heap[x]? ∧ w3.heap[x]? = wq.heap[x]? ∧ (w3.setCell ⟨O, 1, none⟩ (.slice (some ⟨g, 0, none⟩) (L.length + 1) cap)).heap[x]? = wq.heap[x]?) ∧
      GfI w O B r r1 r2 Y s va vb (.slice (some ⟨g, 0, none⟩) (L.length + 1) cap) (L ++ [t]) (xs ++ [.string t.name, .slice a5 t.args.length c5]) h' (w3.setCell ⟨O, 1, none⟩ (.slice (some ⟨g, 0, none⟩) (L.length + 1) cap)) := by
  obtain ⟨hrow, hex, hbc, hba, hbb, hres, hout, hsz, hol, hgm⟩ := hI
  obtain ⟨i0, hi, hz0, hz1, hz2⟩ := info_parts Tryd.infoTerm
  obtain ⟨wm, hbm, hsm, hem⟩ := h5.mid
  have hlt := hrow.own.lt
  have hrm := hrow.exq hem (fun b hb => by have := hM b hb; omega) (fun b _ h => h)
  have hsx := hbm.size
  obtain ⟨g, cap, w3, hr3, ho, hg, hat, hgl⟩ := run_append_lies (P := Tryd.prog) (w := w5.alloc (.cells #[.string t.name, .slice a5 t.args.length c5] 25)) 23 23 (O + 1) 25 i0 _ 2 40 Tryd.underlying23 hi hz0 hz1 hz2 rfl (by decide) u L.length xs ((hrm.below hbm).own.alloc _)
    ⟨w5.heap.size, 0, none⟩ 1 1 [.string t.name, .slice a5 t.args.length c5] rfl (cell_termZ _ _ _ _) (fun y hy => by simp at hy; rcases hy with rfl | rfl <;> rfl) (by decide) (by unfold maxLen; omega) (by omega) (by simp; omega) _ rfl
  have hp := hrm.push (w1 := w5) (w3 := w3) (t := t) (by omega) (fun b h => h.elim) hbm ⟨a5, c5, rfl, hs5.mono fun b h _ => Or.inr (by omega)⟩ _ rfl ho hg hat
  have hne : ∀ j, j < O + 1 → some j ≠ u.ownBlock := fun j hj e => by have := (hlt j e.symm).1; omega
  have hs3 := hg.size
  simp at hs3
  have hx5 : ExQ (Mps r r1 r2) w w5 := hex.transN h5 (fun i h _ => h)
  have hx3 : ExQ (Mps r r1 r2) w w3 := (hx5.alloc _).grown hg (fun k hk => Or.inl (by have := (hlt k hk).1; omega))
  have nM : ∀ x, w.heap.size ≤ x → ¬ Mps r r1 r2 x := fun x hx hm => by have := hM x hm; omega
  have hO5 := hout.exq h5 (nM _ (by omega))
  have hO3 := (hO5.alloc (.cells #[.string t.name, .slice a5 t.args.length c5] 25)).grown hg (hne _ (by omega))
  have keep : ∀ x, x < w.heap.size + 4 → ¬ Mps r r1 r2 x → w5.heap[x]? = wq.heap[x]? ∧ (w5.alloc (.cells #[.string t.name, .slice a5 t.args.length c5] 25)).heap[x]? = wq.heap[x]? ∧ w3.heap[x]? = wq.heap[x]? ∧ (w3.setCell ⟨O, 1, none⟩ (.slice (some ⟨g, 0, none⟩) (L.length + 1) cap)).heap[x]? = wq.heap[x]? := fun x hx hm => by
    have e1 := h5.block x (by omega) hm
    have e2 : (w5.alloc (.cells #[.string t.name, .slice a5 t.args.length c5] 25)).heap[x]? = wq.heap[x]? := (Below.heap_alloc _ _ _ (by omega)).trans e1
    have e3 : w3.heap[x]? = wq.heap[x]? := (hg.block x (by simp; omega) (hne x (by omega))).trans e2
    exact ⟨e1, e2, e3, (Below.heap_setCell _ _ _ _ (by simp; omega)).trans e3⟩
  have G3 : GmAt w3 B r r1 r2 Y h' := (hg5.alloc (.cells #[.string t.name, .slice a5 t.args.length c5] 25)).kept fun x hx hc => hg.block x hx (hne x (by
    rcases hc with h1 | h1 | h1
    · omega
    · have := hM x h1; omega
    · have := hYw x h1; omega))
  have G4 : GmAt (w3.setCell ⟨O, 1, none⟩ (.slice (some ⟨g, 0, none⟩) (L.length + 1) cap)) B r r1 r2 Y h' := G3.kept fun x hx hc => Below.heap_setCell _ _ _ _ (by
    have : x < w.heap.size := by
      rcases hc with h1 | h1 | h1
      · omega
      · exact hM x h1
      · exact hYw x h1
    simp; omega)
  refine ⟨g, cap, w3, hr3, hO5.cell 1, (hO5.alloc _).cell 1, hO3.cell 1, hO3.frozen 1, by omega, keep, ?_⟩
  refine ⟨hp.setCell (by omega) (fun h => h) _, hx3.setNew (by omega) _ _, (keep _ (by omega) (nM _ (by omega))).2.2.2.trans hbc, (keep _ (by omega) (nM _ (by omega))).2.2.2.trans hba, (keep _ (by omega) (nM _ (by omega))).2.2.2.trans hbb, (keep _ (by omega) (nM _ (by omega))).2.2.2.trans hres, hO3.set 1 _, by simp [World.setCell]; omega, hol, G4⟩
/-- What it tells. -/
def GfP (B r r1 r2 : Nat) (Y : Nat → Prop) (y : Tm × List Pr) (w : World) (e : Ending) (w' : World) : Prop :=
  ∃ a c, e = .returned (.agg #[.string y.1.name, .slice a y.1.args.length c]) ∧ Sl w' (fun b => w.heap.size ≤ b) a y.1.args ∧ GmAt w' B r r1 r2 Y y.2 ∧ ExQ (Mps r r1 r2) w w'
theorem mps_lt {w : World} {B r r1 r2 : Nat} {Y : Nat → Prop} {h : List Pr} (g : GmAt w B r r1 r2 Y h) : ∀ x, Mps r r1 r2 x → x < w.heap.size := fun x hx => by
  rcases hx with rfl | rfl | rfl
  · exact g.nm.map.lt
  · exact g.lf.lt
  · exact g.rt.lt
def GfS (C : Nat) (B r1 r2 : Nat) (aa ab : Option Addr) (na nb ca cb : Nat) (pa pb : Addr) (s1 : ByteArray) (v1 : Value) (s2 : ByteArray) (v2 : Value) (w' : World) : Prop :=
  (w'.cell? ⟨C, 0, none⟩ = some (.func (.func 33) #[] #[.pointer (some ⟨B, 0, none⟩)]) ∧ w'.cell? ⟨C, 1, none⟩ = some (.map (some r1)) ∧ w'.cell? ⟨C, 2, none⟩ = some (.map (some r2))) ∧ w'.cell? ⟨C + 1, 1, none⟩ = some (.slice aa na ca) ∧ w'.cell? ⟨C + 2, 1, none⟩ = some (.slice ab nb cb) ∧
    (w'.cell? pa = some (.string s1) ∧ w'.cell? ⟨pa.block, pa.off + 1, none⟩ = some v1) ∧ w'.cell? pb = some (.string s2) ∧ w'.cell? ⟨pb.block, pb.off + 1, none⟩ = some v2
theorem GfS.kept {C B r1 r2 : Nat} {aa ab : Option Addr} {na nb ca cb : Nat} {pa pb : Addr} {s1 s2 : ByteArray} {v1 v2 : Value} {w w' : World} (h : GfS C B r1 r2 aa ab na nb ca cb pa pb s1 v1 s2 v2 w) (hk : ∀ x, (x = C ∨ x = C + 1 ∨ x = C + 2 ∨ x = pa.block ∨ x = pb.block) → w'.heap[x]? = w.heap[x]?) : GfS C B r1 r2 aa ab na nb ca cb pa pb s1 v1 s2 v2 w' := by
  obtain ⟨⟨h1, h2, h3⟩, h4, h5, ⟨h6, h7⟩, h8, h9⟩ := h
  have hc : ∀ (p : Addr), (p.block = C ∨ p.block = C + 1 ∨ p.block = C + 2 ∨ p.block = pa.block ∨ p.block = pb.block) → w'.cell? p = w.cell? p := fun p hp => by simp [World.cell?, hk p.block hp]
  exact ⟨⟨(hc _ (by simp)).trans h1, (hc _ (by simp)).trans h2, (hc _ (by simp)).trans h3⟩, (hc _ (by simp)).trans h4, (hc _ (by simp)).trans h5, ⟨(hc _ (by simp)).trans h6, (hc _ (by simp)).trans h7⟩, (hc _ (by simp)).trans h8, (hc _ (by simp)).trans h9⟩

theorem lies_inZ {w : World} {X : Nat → Prop} : ∀ (l : List Tm) (b o : Nat), Lies w X b o l → ∀ (k : Nat), k < l.length → X b
  | ⟨s, m⟩ :: r, b, o, h, _, _ => by
    simp only [Lies] at h
    exact h.1
theorem errL_takeZ (k : Nat) : ∀ {l : List Tm}, errL l = 0 → errL (l.take k) = 0 := by
  induction k with
  | zero => intro l _; simp [errL]
  | succ k ih =>
    intro l h
    cases l with
    | nil => simpa using h
    | cons t r =>
      obtain ⟨h1, h2⟩ := errL_two h
      rw [List.take_succ_cons, errL_cons, if_pos h1]
      exact ih h2

set_option maxHeartbeats 8000000 in
theorem of_any (BT B r r1 r2 : Nat) (hBr : BT ≤ r ∧ BT ≤ r1 ∧ BT ≤ r2) (Y : Nat → Prop) (hY : ∀ x, Y x → ¬ Mps r r1 r2 x) (a : Tm) : ∀ (b : Tm) (h : List Pr) (va vb : Value) (w : World), TV w Y va a → TV w Y vb b → (∀ x, Y x → x < w.heap.size) → GmAt w B r r1 r2 Y h → Tb BT w → errL [a] = 0 → errL [b] = 0 → sizeL [a] ≤ 200 → sizeL [b] ≤ 200 → h.length + sizeL [a] ≤ 100000 →
    Calls Tryd.prog 20 #[.agg #[.func (.func 33) #[] #[.pointer (some ⟨B, 0, none⟩)], .map (some r1), .map (some r2)], va, vb] w fun e w' => GfP B r r1 r2 Y (gnT h a b) w e w' := by
  induction a using Tm.ind with
  | h s l ih =>
    intro b h va vb w ha hb hYw hg hT hea heb hza hzb hlh
    have IH := hide ih
    clear ih
    obtain ⟨a, hae⟩ : ∃ a : Tm, a = ⟨s, l⟩ := ⟨_, rfl⟩
    rw [← hae] at ha hea hza hlh ⊢
    have HAE : Hid (a.name = s ∧ a.args = l) := by rw [hae]; exact ⟨rfl, rfl⟩
    obtain ⟨aa, ca, rfl, hsa⟩ := ha
    obtain ⟨ab, cb, rfl, hsb⟩ := hb
    have HSA := hide hsa
    have HSB := hide hsb
    have HYW := hide hYw
    have HY := hide hY
    have HG := hide hg
    have HT := hide hT
    have HM := hide (mps_lt hg)
    have HBL : Hid (B < w.heap.size) := hg.nm.box.lt
    have hBw : BT ≤ w.heap.size := by have := hg.nm.map.lt; omega
    have hla := hsa.1
    have hlb := hsb.1
    have HEA := hide hea
    have HEB := hide heb
    have SYM := hide (sameSymbol_any a b (.agg #[.string a.name, .slice aa a.args.length ca]) (.agg #[.string b.name, .slice ab b.args.length cb]))
    have VAR := hide (variable_any BT B r r1 r2 hBr h a b (.agg #[.string a.name, .slice aa a.args.length ca]) (.agg #[.string b.name, .slice ab b.args.length cb]))
    have HLH := hide hlh
    have HZA := hide hza
    have HZB := hide hzb
    clear hsa hsb hYw hg hT hea heb hae hlh hza hzb
    have W4 : Hid (Below w.heap.size w ((((w.alloc (.cells #[.func (.func 33) #[] #[.pointer (some ⟨B, 0, none⟩)], .map (some r1), .map (some r2)] 57)).alloc (.cells #[.string a.name, .slice aa a.args.length ca] 25)).alloc (.cells #[.string b.name, .slice ab b.args.length cb] 25)).alloc (.cells #[.string ⟨#[]⟩, .slice none 0 0] 25))) := ((((Below.refl _ _).alloc (Nat.le_refl _) _).alloc (by simp) _).alloc (by simp; omega) _).alloc (by simp; omega) _
    have KC : Hid (Blk ((((w.alloc (.cells #[.func (.func 33) #[] #[.pointer (some ⟨B, 0, none⟩)], .map (some r1), .map (some r2)] 57)).alloc (.cells #[.string a.name, .slice aa a.args.length ca] 25)).alloc (.cells #[.string b.name, .slice ab b.args.length cb] 25)).alloc (.cells #[.string ⟨#[]⟩, .slice none 0 0] 25)) w.heap.size #[.func (.func 33) #[] #[.pointer (some ⟨B, 0, none⟩)], .map (some r1), .map (some r2)] 57) := (((Blk.new w _ _).alloc _).alloc _).alloc _
    have KA : Hid (Blk ((((w.alloc (.cells #[.func (.func 33) #[] #[.pointer (some ⟨B, 0, none⟩)], .map (some r1), .map (some r2)] 57)).alloc (.cells #[.string a.name, .slice aa a.args.length ca] 25)).alloc (.cells #[.string b.name, .slice ab b.args.length cb] 25)).alloc (.cells #[.string ⟨#[]⟩, .slice none 0 0] 25)) (w.heap.size + 1) #[.string a.name, .slice aa a.args.length ca] 25) := by
      have h := ((Blk.new (w.alloc (.cells #[.func (.func 33) #[] #[.pointer (some ⟨B, 0, none⟩)], .map (some r1), .map (some r2)] 57)) #[.string a.name, .slice aa a.args.length ca] 25).alloc (.cells #[.string b.name, .slice ab b.args.length cb] 25)).alloc (.cells #[.string ⟨#[]⟩, .slice none 0 0] 25)
      rw [World.size_alloc] at h
      exact h
    have KB : Hid (Blk ((((w.alloc (.cells #[.func (.func 33) #[] #[.pointer (some ⟨B, 0, none⟩)], .map (some r1), .map (some r2)] 57)).alloc (.cells #[.string a.name, .slice aa a.args.length ca] 25)).alloc (.cells #[.string b.name, .slice ab b.args.length cb] 25)).alloc (.cells #[.string ⟨#[]⟩, .slice none 0 0] 25)) (w.heap.size + 2) #[.string b.name, .slice ab b.args.length cb] 25) := by
      have h := (Blk.new ((w.alloc (.cells #[.func (.func 33) #[] #[.pointer (some ⟨B, 0, none⟩)], .map (some r1), .map (some r2)] 57)).alloc (.cells #[.string a.name, .slice aa a.args.length ca] 25)) #[.string b.name, .slice ab b.args.length cb] 25).alloc (.cells #[.string ⟨#[]⟩, .slice none 0 0] 25)
      rw [World.size_alloc, World.size_alloc] at h
      exact h
    have KR : Hid (Blk ((((w.alloc (.cells #[.func (.func 33) #[] #[.pointer (some ⟨B, 0, none⟩)], .map (some r1), .map (some r2)] 57)).alloc (.cells #[.string a.name, .slice aa a.args.length ca] 25)).alloc (.cells #[.string b.name, .slice ab b.args.length cb] 25)).alloc (.cells #[.string ⟨#[]⟩, .slice none 0 0] 25)) (w.heap.size + 3) #[.string ⟨#[]⟩, .slice none 0 0] 25) := by
      have h := Blk.new (((w.alloc (.cells #[.func (.func 33) #[] #[.pointer (some ⟨B, 0, none⟩)], .map (some r1), .map (some r2)] 57)).alloc (.cells #[.string a.name, .slice aa a.args.length ca] 25)).alloc (.cells #[.string b.name, .slice ab b.args.length cb] 25)) #[.string ⟨#[]⟩, .slice none 0 0] 25
      rw [World.size_alloc, World.size_alloc, World.size_alloc] at h
      exact h
    have c0 := KA.out.cell 0
    have c1 := KA.out.cell 1
    have d0 := KB.out.cell 0
    have d1 := KB.out.cell 1
    go_enter Tryd.func20, Tryd.ntmps20
    go_wp2_with fail
    generalize ((((w.alloc (.cells #[.func (.func 33) #[] #[.pointer (some ⟨B, 0, none⟩)], .map (some r1), .map (some r2)] 57)).alloc (.cells #[.string a.name, .slice aa a.args.length ca] 25)).alloc (.cells #[.string b.name, .slice ab b.args.length cb] 25)).alloc (.cells #[.string ⟨#[]⟩, .slice none 0 0] 25)) = w4 at *
    refine (SYM.out w4 _ _ ⟨aa, ca, rfl, HSA.out.later W4.out⟩ ⟨ab, cb, rfl, HSB.out.later W4.out⟩).mono ?_
    rintro e w5 ⟨rfl, hb5⟩
    have W5 := hide (W4.out.trans (hb5.mono W4.out.size))
    have KC5 := hide (KC.out.below hb5 KC.out.lt)
    have KA5 := hide (KA.out.below hb5 KA.out.lt)
    have KB5 := hide (KB.out.below hb5 KB.out.lt)
    have KR5 := hide (KR.out.below hb5 KR.out.lt)
    clear hb5 c0 c1 d0 d1 KC KA KB KR SYM
    cases hsy : symB a b with
    | false =>
      have HGN : Hid (gnT h a b = vrP h a b) := by unfold Hid gnT; rw [hsy]; simp
      have c0 := KC5.out.cell 0
      have c1 := KC5.out.cell 1
      have c2 := KC5.out.cell 2
      have d0 := KA5.out.cell 0
      have d1 := KA5.out.cell 1
      have e0 := KB5.out.cell 0
      have e1 := KB5.out.cell 1
      have VR := hide (VAR.out w5 Y ⟨aa, ca, rfl, HSA.out.later W5.out⟩ ⟨ab, cb, rfl, HSB.out.later W5.out⟩ HY.out (fun x hx => by have := HYW.out x hx; have := W5.out.size; omega) (HG.out.later W5.out) (HT.out.on (W5.out.mono hBw)) HEA.out HEB.out HZA.out HZB.out (by have := HLH.out; omega))
      clear hsy
      go_wp2_with fail
      refine VR.out.mono ?_
      rintro e w6 ⟨rfl, hg6, hx6⟩
      have X6 := hide ((ExQ.ofBelow (Q := Mps r r1 r2) W5.out).trans hx6)
      have R6 := hide (KR5.out.exq hx6 (fun hm => by have := HM.out _ hm; omega))
      have G6 := hide hg6
      clear hg6 hx6 c0 c1 c2 d0 d1 e0 e1 VR VAR
      have r0 : w6.cell? ⟨w.heap.size + 3, 0, none⟩ = some (.string ⟨#[]⟩) := R6.out.cell 0
      have q1 : w6.cell? ⟨w.heap.size + 3, 1, none⟩ = some (.slice none 0 0) := R6.out.cell 1
      have rf := R6.out.frozen
      have hRl : w.heap.size + 3 < w6.heap.size := R6.out.lt
      have HVE : Hid ((vrP h a b).1.args = []) := rfl
      generalize vrP h a b = y at *
      go_wp2_with fail
      refine bodyPost_ret (v := .agg #[.string y.1.name, .slice none 0 0]) (by simp [results, Tryd.results20, go_sem, World.cell?_setCell_same, World.cell?_setCell_other, r0, q1, hRl]) rfl ?_
      rw [HGN.out]
      refine ⟨none, 0, by rw [HVE.out]; rfl, by rw [HVE.out]; exact ⟨by simp, Or.inl rfl⟩, G6.out.kept fun x hx hc => ?_, (X6.out.setNew (by omega) _ _).setNew (by omega) _ _⟩
      have hlt : x < w.heap.size := by
        rcases hc with h1 | h1 | h1
        · have := HBL.out; omega
        · exact HM.out x h1
        · exact HYW.out x h1
      rw [Below.heap_setCell _ _ _ _ (by simp; omega), Below.heap_setCell _ _ _ _ (by simp; omega)]
    | true =>
      have HGN : Hid (gnT h a b = (⟨a.name, (gnL h a.args b.args).1⟩, (gnL h a.args b.args).2)) := by unfold Hid gnT; rw [hsy]; simp
      have HLE : Hid (a.args.length = b.args.length) := by
        unfold symB at hsy
        simp only [Bool.and_eq_true, decide_eq_true_eq] at hsy
        exact hsy.2
      have d0 := KA5.out.cell 0
      have d1 := KA5.out.cell 1
      have g1 := (KA5.out.alloc (.cells #[.string a.name, .slice none 0 0] 25)).cell 1
      have O6 : Hid (Blk (w5.alloc (.cells #[.string a.name, .slice none 0 0] 25)) w5.heap.size #[.string a.name, .slice none 0 0] 25) := Blk.new w5 _ _
      have W6 := hide (W5.out.alloc W5.out.size (.cells #[.string a.name, .slice none 0 0] 25))
      have KC6 := hide (KC5.out.alloc (.cells #[.string a.name, .slice none 0 0] 25))
      have KA6 := hide (KA5.out.alloc (.cells #[.string a.name, .slice none 0 0] 25))
      have KB6 := hide (KB5.out.alloc (.cells #[.string a.name, .slice none 0 0] 25))
      have KR6 := hide (KR5.out.alloc (.cells #[.string a.name, .slice none 0 0] 25))
      have G6 := hide (HG.out.later W6.out)
      have SZ6 : Hid (w5.heap.size + 1 ≤ (w5.alloc (.cells #[.string a.name, .slice none 0 0] 25)).heap.size ∧ w.heap.size + 4 ≤ w5.heap.size) := ⟨by simp, by have := KR5.out.lt; omega⟩
      clear hsy VAR
      go_wp2_with fail
      generalize (w5.alloc (.cells #[.string a.name, .slice none 0 0] 25)) = w6 at *
      generalize w5.heap.size = O at *
      clear d0 d1 g1 KC5 KA5 KB5 KR5
      go_loopw [23] (fun i wr => ∃ (k : Nat) (u : Value) (xs : List Value), k ≤ a.args.length ∧ i = .int .i64 (k : Int) ∧ GfI w O B r r1 r2 Y a.name #[.string a.name, .slice aa a.args.length ca] #[.string b.name, .slice ab b.args.length cb] u (gnL h (a.args.take k) (b.args.take k)).1 xs (gnL h (a.args.take k) (b.args.take k)).2 wr) (fun i wr => a.args.length - (intOf i).toNat)
      case atStart => exact ⟨0, .slice none 0 0, [], Nat.zero_le _, rfl, ⟨by have h := Row.start w6 (O + 1) 25 (fun _ => False); simpa [gnL_nil] using h, ExQ.ofBelow W6.out, KC6.out, KA6.out, KB6.out, KR6.out, O6.out, SZ6.out.1, SZ6.out.2, by simpa [gnL_nil] using G6.out⟩⟩
      case round =>
        obtain ⟨k, u9, xs, hk, rfl, hin⟩ := hrel
        have SET := hide hin
        clear hin
        by_cases hlt : k < a.args.length
        · have hltb : k < b.args.length := by have := HLE.out; omega
          obtain ⟨ba, oa, a1, c1, rfl, d0, d1, hxa⟩ := (((HSA.out.exq SET.out.ex HY.out)).mono (Y := fun b => Y b ∧ b < wr.heap.size) fun b h1 h2 => ⟨h1, h2⟩).get (Below.refl wr.heap.size wr) (fun b h _ => h.2) k hlt
          obtain ⟨bb, ob, a2, c2, rfl, e0, e1, hxb⟩ := (((HSB.out.exq SET.out.ex HY.out)).mono (Y := fun b => Y b ∧ b < wr.heap.size) fun b h1 h2 => ⟨h1, h2⟩).get (Below.refl wr.heap.size wr) (fun b h _ => h.2) k hltb
          have hYa : Y ba := by
            obtain ⟨_, h1⟩ := HSA.out
            rcases h1 with h1 | ⟨b', o', e', h1⟩
            · rw [h1] at hlt; simp at hlt
            · cases e'; exact lies_inZ _ _ _ h1 k hlt
          have hYb : Y bb := by
            obtain ⟨_, h1⟩ := HSB.out
            rcases h1 with h1 | ⟨b', o', e', h1⟩
            · rw [h1] at hltb; simp at hltb
            · cases e'; exact lies_inZ _ _ _ h1 k hltb
          have hlt2 : (k : Int) < (a.args.length : Int) := by omega
          have hlt3 : (k : Int) < (b.args.length : Int) := by omega
          have hz1 : sizeL [a.args[k]] ≤ sizeL a.args - sizeL (a.args.take k) := by
            have h1 := sizeL_take a.args k hlt
            have h2 := sizeL_take_le a.args (k + 1)
            omega
          have hz2 : sizeL (a.args.take k) ≤ sizeL a.args := sizeL_take_le a.args k
          have hz3 : sizeL [b.args[k]] ≤ sizeL b.args := by
            have h1 := sizeL_take b.args k hltb
            have h2 := sizeL_take_le b.args (k + 1)
            omega
          have hza : sizeL [a] = 1 + sizeL a.args := by obtain ⟨_, _⟩ := a; simp [sizeL]
          have hzb : sizeL [b] = 1 + sizeL b.args := by obtain ⟨_, _⟩ := b; simp [sizeL]
          have hA2 := HZA.out
          have hB2 := HZB.out
          have hH2 := HLH.out
          have hln := sizeL_len a.args
          have HLN : Hid ((gnL h (a.args.take k) (b.args.take k)).1.length ≤ 1000000) := by unfold Hid; rw [gnL_len _ _ _ (by simp; omega)]; simp; omega
          have hnn := (gn_ok (a.args.take k) (b.args.take k) h (errL_takeZ k (errL_args HEA.out)) (errL_takeZ k (errL_args HEB.out)) HG.out.ok).2
          have HTK := hide (gnL_take h a.args b.args HLE.out k hlt)
          have hea := errL_mem (errL_args HEA.out) k hlt
          have heb := errL_mem (errL_args HEB.out) k hltb
          have hsub : ∀ x, x ∈ a.args → x ∈ l := fun x hx => by rw [← HAE.out.2]; exact hx
          have hmem : a.args[k] ∈ l := hsub _ (List.getElem_mem hlt)
          have CC := SET.out.bc
          have CA := SET.out.ba
          have CB := SET.out.bb
          have HS8 : Hid (GfS w.heap.size B r1 r2 (some ⟨ba, oa, none⟩) (some ⟨bb, ob, none⟩) a.args.length b.args.length ca cb ⟨ba, oa + k * 2, none⟩ ⟨bb, ob + k * 2, none⟩ a.args[k].name (.slice a1 a.args[k].args.length c1) b.args[k].name (.slice a2 b.args[k].args.length c2) wr) := ⟨⟨CC.cell 0, CC.cell 1, CC.cell 2⟩, CA.cell 1, CB.cell 1, ⟨d0, d1⟩, e0, e1⟩
          have KPS : Hid (∀ w', (∀ x, x < w.heap.size + 4 → ¬ Mps r r1 r2 x → w'.heap[x]? = wr.heap[x]?) → GfS w.heap.size B r1 r2 (some ⟨ba, oa, none⟩) (some ⟨bb, ob, none⟩) a.args.length b.args.length ca cb ⟨ba, oa + k * 2, none⟩ ⟨bb, ob + k * 2, none⟩ a.args[k].name (.slice a1 a.args[k].args.length c1) b.args[k].name (.slice a2 b.args[k].args.length c2) w') := fun w' hw => HS8.out.kept fun x hx => by
            have nM : ∀ x, w.heap.size ≤ x → ¬ Mps r r1 r2 x := fun x hx hm => by have := HM.out x hm; omega
            rcases hx with rfl | rfl | rfl | rfl | rfl
            · exact hw _ (by omega) (nM _ (by omega))
            · exact hw _ (by omega) (nM _ (by omega))
            · exact hw _ (by omega) (nM _ (by omega))
            · exact hw _ (by have := HYW.out _ hYa; omega) (HY.out _ hYa)
            · exact hw _ (by have := HYW.out _ hYb; omega) (HY.out _ hYb)
          have IHQ : Hid (Calls Tryd.prog 20 #[.agg #[.func (.func 33) #[] #[.pointer (some ⟨B, 0, none⟩)], .map (some r1), .map (some r2)], .agg #[.string a.args[k].name, .slice a1 a.args[k].args.length c1], .agg #[.string b.args[k].name, .slice a2 b.args[k].args.length c2]] wr.drew fun e w'' => ∃ a' c', e = .returned (.agg #[.string (gnT (gnL h (a.args.take k) (b.args.take k)).2 a.args[k] b.args[k]).1.name, .slice a' (gnT (gnL h (a.args.take k) (b.args.take k)).2 a.args[k] b.args[k]).1.args.length c']) ∧ Sl w'' (fun b => wr.heap.size ≤ b) a' (gnT (gnL h (a.args.take k) (b.args.take k)).2 a.args[k] b.args[k]).1.args ∧ GmAt w'' B r r1 r2 Y (gnT (gnL h (a.args.take k) (b.args.take k)).2 a.args[k] b.args[k]).2 ∧ ExQ (Mps r r1 r2) wr w'') := (IH.out a.args[k] hmem b.args[k] _ _ _ wr.drew ((hxa.mono (Y := Y) fun b h _ => h.1).later ((Below.refl wr.heap.size wr).drew)) ((hxb.mono (Y := Y) fun b h _ => h.1).later ((Below.refl wr.heap.size wr).drew)) (fun x hx => by have := HYW.out x hx; have := SET.out.ex.size; show x < wr.heap.size; omega) (SET.out.gm.later ((Below.refl wr.heap.size wr).drew)) ((HT.out.on (SET.out.ex.below hBw (fun b hb => by rcases hb with rfl | rfl | rfl <;> omega))).on ((Below.refl BT wr).drew)) hea heb (by omega) (by omega) (by omega)).mono fun e w'' hp => by
              obtain ⟨a1, c1, h1, h2, h3, h4⟩ := hp
              exact ⟨a1, c1, h1, h2, h3, ((ExQ.refl _ wr).drew).trans h4⟩
          have hal := SET.out.ba.cell 1
          clear hln hsub hxa hxb d0 d1 e0 e1 hz1 hz2 hz3 hza hzb hA2 hB2 hH2 hnn hea heb hmem CC CA CB hYa hYb
          generalize gnT (gnL h (a.args.take k) (b.args.take k)).2 a.args[k] b.args[k] = y at *
          clear hal
          go_upto_region 7 with fail
          have HSd : Hid (GfS w.heap.size B r1 r2 (some ⟨ba, oa, none⟩) (some ⟨bb, ob, none⟩) a.args.length b.args.length ca cb ⟨ba, oa + k * 2, none⟩ ⟨bb, ob + k * 2, none⟩ a.args[k].name (.slice a1 a.args[k].args.length c1) b.args[k].name (.slice a2 b.args[k].args.length c2) wr.drew) := HS8.out
          refine wp_region_held_drew (S := GfS w.heap.size B r1 r2 (some ⟨ba, oa, none⟩) (some ⟨bb, ob, none⟩) a.args.length b.args.length ca cb ⟨ba, oa + k * 2, none⟩ ⟨bb, ob + k * 2, none⟩ a.args[k].name (.slice a1 a.args[k].args.length c1) b.args[k].name (.slice a2 b.args[k].args.length c2)) (by kernel_rfl) HSd.out (fun hHeld => ?_)
          refine wpAnyH_take (i := 0) (v := ?_) rfl (by kernel_rfl) (by kernel_rfl) (by kernel_rfl) (fun _ _ _ h => h) (Or.inl ⟨by rfl, ?_⟩) (by assumption) ?_
          rotate_left
          · intro w' hSw
            go_simp <;> with_reducible rfl
          try simp only [Act.put, List.setIfInBounds_toArray, List.set_cons_zero, List.set_cons_succ, List.getElem_toArray, List.getElem_cons_succ, List.getElem_cons_zero]
          refine wpAnyH_take (i := 2) (v := ?_) rfl (by kernel_rfl) (by kernel_rfl) (by kernel_rfl) (fun _ _ _ h => h) (Or.inl ⟨by rfl, ?_⟩) (by assumption) ?_
          rotate_left
          · intro w' hSw
            obtain ⟨⟨x0, x1, x2⟩, x3, x4, ⟨x5, x6⟩, x7, x8⟩ := hSw
            go_simp <;> with_reducible rfl
          try simp only [Act.put, List.setIfInBounds_toArray, List.set_cons_zero, List.set_cons_succ, List.getElem_toArray, List.getElem_cons_succ, List.getElem_cons_zero]
          refine wpAnyH_take (i := 3) (v := ?_) rfl (by kernel_rfl) (by kernel_rfl) (by kernel_rfl) (fun _ _ _ h => h) (Or.inl ⟨by rfl, ?_⟩) (by assumption) ?_
          rotate_left
          · intro w' hSw
            go_simp <;> with_reducible rfl
          try simp only [Act.put, List.setIfInBounds_toArray, List.set_cons_zero, List.set_cons_succ, List.getElem_toArray, List.getElem_cons_succ, List.getElem_cons_zero]
          refine wpAnyH_take (i := 4) (v := ?_) rfl (by kernel_rfl) (by kernel_rfl) (by kernel_rfl) (fun _ _ _ h => h) (Or.inl ⟨by rfl, ?_⟩) (by assumption) ?_
          rotate_left
          · intro w' hSw
            obtain ⟨⟨x0, x1, x2⟩, x3, x4, ⟨x5, x6⟩, x7, x8⟩ := hSw
            go_simp <;> with_reducible rfl
          try simp only [Act.put, List.setIfInBounds_toArray, List.set_cons_zero, List.set_cons_succ, List.getElem_toArray, List.getElem_cons_succ, List.getElem_cons_zero]
          refine wpAnyH_take (i := 5) (v := ?_) rfl (by kernel_rfl) (by kernel_rfl) (by kernel_rfl) (fun _ _ _ h => h) (Or.inl ⟨by rfl, ?_⟩) (by assumption) ?_
          rotate_left
          · intro w' hSw
            go_simp <;> with_reducible rfl
          try simp only [Act.put, List.setIfInBounds_toArray, List.set_cons_zero, List.set_cons_succ, List.getElem_toArray, List.getElem_cons_succ, List.getElem_cons_zero]
          refine wpAnyH_take (i := 6) (v := ?_) rfl (by kernel_rfl) (by kernel_rfl) (by kernel_rfl) (fun _ _ _ h => h) (Or.inl ⟨by rfl, ?_⟩) (by assumption) ?_
          rotate_left
          · intro w' hSw
            go_simp <;> with_reducible rfl
          try simp only [Act.put, List.setIfInBounds_toArray, List.set_cons_zero, List.set_cons_succ, List.getElem_toArray, List.getElem_cons_succ, List.getElem_cons_zero]
          refine wpAnyH_take (i := 7) (v := ?_) rfl (by kernel_rfl) (by kernel_rfl) (by kernel_rfl) (fun _ _ _ h => h) (Or.inl ⟨by rfl, ?_⟩) (by assumption) ?_
          rotate_left
          · intro w' hSw
            obtain ⟨⟨x0, x1, x2⟩, x3, x4, ⟨x5, x6⟩, x7, x8⟩ := hSw
            go_simp <;> with_reducible rfl
          try simp only [Act.put, List.setIfInBounds_toArray, List.set_cons_zero, List.set_cons_succ, List.getElem_toArray, List.getElem_cons_succ, List.getElem_cons_zero]
          refine wpAnyH_take (i := 8) (v := ?_) rfl (by kernel_rfl) (by kernel_rfl) (by kernel_rfl) (fun _ _ _ h => h) (Or.inl ⟨by rfl, ?_⟩) (by assumption) ?_
          rotate_left
          · intro w' hSw
            go_simp <;> with_reducible rfl
          try simp only [Act.put, List.setIfInBounds_toArray, List.set_cons_zero, List.set_cons_succ, List.getElem_toArray, List.getElem_cons_succ, List.getElem_cons_zero]
          refine wpAnyH_take (i := 9) (v := ?_) rfl (by kernel_rfl) (by kernel_rfl) (by kernel_rfl) (fun _ _ _ h => h) (Or.inl ⟨by rfl, ?_⟩) (by assumption) ?_
          rotate_left
          · intro w' hSw
            obtain ⟨⟨x0, x1, x2⟩, x3, x4, ⟨x5, x6⟩, x7, x8⟩ := hSw
            go_simp <;> with_reducible rfl
          try simp only [Act.put, List.setIfInBounds_toArray, List.set_cons_zero, List.set_cons_succ, List.getElem_toArray, List.getElem_cons_succ, List.getElem_cons_zero]
          refine wpAnyH_take (i := 10) (v := ?_) rfl (by kernel_rfl) (by kernel_rfl) (by kernel_rfl) (fun _ _ _ h => h) (Or.inl ⟨by rfl, ?_⟩) (by assumption) ?_
          rotate_left
          · intro w' hSw
            go_simp <;> with_reducible rfl
          try simp only [Act.put, List.setIfInBounds_toArray, List.set_cons_zero, List.set_cons_succ, List.getElem_toArray, List.getElem_cons_succ, List.getElem_cons_zero]
          refine wpAnyH_take (i := 11) (v := ?_) rfl (by kernel_rfl) (by kernel_rfl) (by kernel_rfl) (fun _ _ _ h => h) (Or.inl ⟨by rfl, ?_⟩) (by assumption) ?_
          rotate_left
          · intro w' hSw
            go_simp <;> with_reducible rfl
          try simp only [Act.put, List.setIfInBounds_toArray, List.set_cons_zero, List.set_cons_succ, List.getElem_toArray, List.getElem_cons_succ, List.getElem_cons_zero]
          refine wpAnyH_take (i := 12) (v := ?_) rfl (by kernel_rfl) (by kernel_rfl) (by kernel_rfl) (fun _ _ _ h => h) (Or.inl ⟨by rfl, ?_⟩) (by assumption) ?_
          rotate_left
          · intro w' hSw
            obtain ⟨⟨x0, x1, x2⟩, x3, x4, ⟨x5, x6⟩, x7, x8⟩ := hSw
            go_simp <;> with_reducible rfl
          try simp only [Act.put, List.setIfInBounds_toArray, List.set_cons_zero, List.set_cons_succ, List.getElem_toArray, List.getElem_cons_succ, List.getElem_cons_zero]
          have ob4 : wr.drew.cell? ⟨O, 1, none⟩ = some u9 := SET.out.out.cell 1
          refine wpAnyH_ready (rs := [1, 13]) (by kernel_rfl) (by simp) ?_
          refine AllReadyH.cons rfl (fun K hK => ?_) (AllReadyH.cons rfl (fun K hK => ?_) AllReadyH.nil)
          · go_simp
            refine hK.out _ _ (by exact HSd.out) (fun hHeld => ?_)
            clear hK K
            try simp only [Act.put, List.setIfInBounds_toArray, List.set_cons_zero, List.set_cons_succ, List.getElem_toArray, List.getElem_cons_succ, List.getElem_cons_zero]
            refine wpAnyH_ready (rs := [13]) (by kernel_rfl) (by simp) ?_
            refine AllReadyH.cons rfl (fun K hK => ?_) AllReadyH.nil
            go_simp
            go_at_call 20
            refine IHQ.out.mono ?_
            rintro e w7 ⟨a5, c5, rfl, hs5, hn5, hx5⟩
            obtain ⟨g, cap, w3, hrun, p5, p6, o3, of, ol, KK, hset⟩ := gf_round (t := y.1) (c5 := c5) HM.out HBL.out HYW.out SET.out HLN.out hx5 hs5 hn5
            have HRUN := hide hrun
            have HSET := hide hset
            have S1h := hide (KPS.out _ fun x h1 h2 => (KK x h1 h2).1)
            have S2h := hide (KPS.out _ fun x h1 h2 => (KK x h1 h2).2.1)
            have S3h := hide (KPS.out _ fun x h1 h2 => (KK x h1 h2).2.2.1)
            have S4h := hide (KPS.out _ fun x h1 h2 => (KK x h1 h2).2.2.2)
            clear hrun hset hs5 hn5 hx5 KK
            go_simp
            refine hK.out _ _ (by exact S1h.out) (fun hHeld => ?_)
            clear hK K
            try simp only [Act.put, List.setIfInBounds_toArray, List.set_cons_zero, List.set_cons_succ, List.getElem_toArray, List.getElem_cons_succ, List.getElem_cons_zero]
            refine wpAnyH_ready (rs := [14]) (by kernel_rfl) (by simp) ?_
            refine AllReadyH.cons rfl (fun K hK => ?_) AllReadyH.nil
            go_simp
            refine hK.out _ _ (by exact S2h.out) (fun hHeld => ?_)
            clear hK K
            try simp only [Act.put, List.setIfInBounds_toArray, List.set_cons_zero, List.set_cons_succ, List.getElem_toArray, List.getElem_cons_succ, List.getElem_cons_zero]
            refine wpAnyH_ready (rs := [15]) (by kernel_rfl) (by simp) ?_
            refine AllReadyH.cons rfl (fun K hK => ?_) AllReadyH.nil
            refine step_append_eqM rfl _ _ _ _ rfl rfl rfl HRUN.out ?_
            refine hK.out _ _ (by exact S3h.out) (fun hHeld => ?_)
            clear hK K
            try simp only [Act.put, List.setIfInBounds_toArray, List.set_cons_zero, List.set_cons_succ, List.getElem_toArray, List.getElem_cons_succ, List.getElem_cons_zero]
            refine wpAnyH_take (i := 16) (v := ?_) rfl (by kernel_rfl) (by kernel_rfl) (by kernel_rfl) (fun _ _ _ h => h) (Or.inl ⟨by rfl, ?_⟩) (by assumption) ?_
            rotate_left
            · intro w' hSw
              go_simp <;> with_reducible rfl
            try simp only [Act.put, List.setIfInBounds_toArray, List.set_cons_zero, List.set_cons_succ, List.getElem_toArray, List.getElem_cons_succ, List.getElem_cons_zero]
            refine wpAnyH_ready (rs := [17]) (by kernel_rfl) (by simp) ?_
            refine AllReadyH.cons rfl (fun K hK => ?_) AllReadyH.nil
            go_simp
            refine hK.out _ _ (by exact S4h.out) (fun hHeld => ?_)
            clear hK K
            try simp only [Act.put, List.setIfInBounds_toArray, List.set_cons_zero, List.set_cons_succ, List.getElem_toArray, List.getElem_cons_succ, List.getElem_cons_zero]
            refine wpAnyH_done (by kernel_rfl) ?_ _
            clear o3 of ol p5 p6 ob4
            go_wp2_with fail
            go_roundw
            case rel => exact ⟨k + 1, _, _, by omega, by go_num, by rw [HTK.out]; exact HSET.out⟩
            case measure => simp [intOf]; omega
          · go_simp
            go_at_call 20
            refine IHQ.out.mono ?_
            rintro e w7 ⟨a5, c5, rfl, hs5, hn5, hx5⟩
            obtain ⟨g, cap, w3, hrun, p5, p6, o3, of, ol, KK, hset⟩ := gf_round (t := y.1) (c5 := c5) HM.out HBL.out HYW.out SET.out HLN.out hx5 hs5 hn5
            have HRUN := hide hrun
            have HSET := hide hset
            have S1h := hide (KPS.out _ fun x h1 h2 => (KK x h1 h2).1)
            have S2h := hide (KPS.out _ fun x h1 h2 => (KK x h1 h2).2.1)
            have S3h := hide (KPS.out _ fun x h1 h2 => (KK x h1 h2).2.2.1)
            have S4h := hide (KPS.out _ fun x h1 h2 => (KK x h1 h2).2.2.2)
            clear hrun hset hs5 hn5 hx5 KK
            go_simp
            refine hK.out _ _ (by exact S1h.out) (fun hHeld => ?_)
            clear hK K
            try simp only [Act.put, List.setIfInBounds_toArray, List.set_cons_zero, List.set_cons_succ, List.getElem_toArray, List.getElem_cons_succ, List.getElem_cons_zero]
            refine wpAnyH_ready (rs := [1, 14]) (by kernel_rfl) (by simp) ?_
            refine AllReadyH.cons rfl (fun K hK => ?_) (AllReadyH.cons rfl (fun K hK => ?_) AllReadyH.nil)
            · go_simp
              refine hK.out _ _ (by exact S1h.out) (fun hHeld => ?_)
              clear hK K
              try simp only [Act.put, List.setIfInBounds_toArray, List.set_cons_zero, List.set_cons_succ, List.getElem_toArray, List.getElem_cons_succ, List.getElem_cons_zero]
              refine wpAnyH_ready (rs := [14]) (by kernel_rfl) (by simp) ?_
              refine AllReadyH.cons rfl (fun K hK => ?_) AllReadyH.nil
              go_simp
              refine hK.out _ _ (by exact S2h.out) (fun hHeld => ?_)
              clear hK K
              try simp only [Act.put, List.setIfInBounds_toArray, List.set_cons_zero, List.set_cons_succ, List.getElem_toArray, List.getElem_cons_succ, List.getElem_cons_zero]
              refine wpAnyH_ready (rs := [15]) (by kernel_rfl) (by simp) ?_
              refine AllReadyH.cons rfl (fun K hK => ?_) AllReadyH.nil
              refine step_append_eqM rfl _ _ _ _ rfl rfl rfl HRUN.out ?_
              refine hK.out _ _ (by exact S3h.out) (fun hHeld => ?_)
              clear hK K
              try simp only [Act.put, List.setIfInBounds_toArray, List.set_cons_zero, List.set_cons_succ, List.getElem_toArray, List.getElem_cons_succ, List.getElem_cons_zero]
              refine wpAnyH_take (i := 16) (v := ?_) rfl (by kernel_rfl) (by kernel_rfl) (by kernel_rfl) (fun _ _ _ h => h) (Or.inl ⟨by rfl, ?_⟩) (by assumption) ?_
              rotate_left
              · intro w' hSw
                go_simp <;> with_reducible rfl
              try simp only [Act.put, List.setIfInBounds_toArray, List.set_cons_zero, List.set_cons_succ, List.getElem_toArray, List.getElem_cons_succ, List.getElem_cons_zero]
              refine wpAnyH_ready (rs := [17]) (by kernel_rfl) (by simp) ?_
              refine AllReadyH.cons rfl (fun K hK => ?_) AllReadyH.nil
              go_simp
              refine hK.out _ _ (by exact S4h.out) (fun hHeld => ?_)
              clear hK K
              try simp only [Act.put, List.setIfInBounds_toArray, List.set_cons_zero, List.set_cons_succ, List.getElem_toArray, List.getElem_cons_succ, List.getElem_cons_zero]
              refine wpAnyH_done (by kernel_rfl) ?_ _
              clear o3 of ol p5 p6 ob4
              go_wp2_with fail
              go_roundw
              case rel => exact ⟨k + 1, _, _, by omega, by go_num, by rw [HTK.out]; exact HSET.out⟩
              case measure => simp [intOf]; omega
            · go_simp
              refine hK.out _ _ (by exact S2h.out) (fun hHeld => ?_)
              clear hK K
              try simp only [Act.put, List.setIfInBounds_toArray, List.set_cons_zero, List.set_cons_succ, List.getElem_toArray, List.getElem_cons_succ, List.getElem_cons_zero]
              refine wpAnyH_ready (rs := [1]) (by kernel_rfl) (by simp) ?_
              refine AllReadyH.cons rfl (fun K hK => ?_) AllReadyH.nil
              go_simp
              refine hK.out _ _ (by exact S2h.out) (fun hHeld => ?_)
              clear hK K
              try simp only [Act.put, List.setIfInBounds_toArray, List.set_cons_zero, List.set_cons_succ, List.getElem_toArray, List.getElem_cons_succ, List.getElem_cons_zero]
              refine wpAnyH_ready (rs := [15]) (by kernel_rfl) (by simp) ?_
              refine AllReadyH.cons rfl (fun K hK => ?_) AllReadyH.nil
              refine step_append_eqM rfl _ _ _ _ rfl rfl rfl HRUN.out ?_
              refine hK.out _ _ (by exact S3h.out) (fun hHeld => ?_)
              clear hK K
              try simp only [Act.put, List.setIfInBounds_toArray, List.set_cons_zero, List.set_cons_succ, List.getElem_toArray, List.getElem_cons_succ, List.getElem_cons_zero]
              refine wpAnyH_take (i := 16) (v := ?_) rfl (by kernel_rfl) (by kernel_rfl) (by kernel_rfl) (fun _ _ _ h => h) (Or.inl ⟨by rfl, ?_⟩) (by assumption) ?_
              rotate_left
              · intro w' hSw
                go_simp <;> with_reducible rfl
              try simp only [Act.put, List.setIfInBounds_toArray, List.set_cons_zero, List.set_cons_succ, List.getElem_toArray, List.getElem_cons_succ, List.getElem_cons_zero]
              refine wpAnyH_ready (rs := [17]) (by kernel_rfl) (by simp) ?_
              refine AllReadyH.cons rfl (fun K hK => ?_) AllReadyH.nil
              go_simp
              refine hK.out _ _ (by exact S4h.out) (fun hHeld => ?_)
              clear hK K
              try simp only [Act.put, List.setIfInBounds_toArray, List.set_cons_zero, List.set_cons_succ, List.getElem_toArray, List.getElem_cons_succ, List.getElem_cons_zero]
              refine wpAnyH_done (by kernel_rfl) ?_ _
              clear o3 of ol p5 p6 ob4
              go_wp2_with fail
              go_roundw
              case rel => exact ⟨k + 1, _, _, by omega, by go_num, by rw [HTK.out]; exact HSET.out⟩
              case measure => simp [intOf]; omega
        · have hge : ¬ ((k : Int) < (a.args.length : Int)) := by omega
          have htk : a.args.take k = a.args := List.take_of_length_le (by omega)
          have htb : b.args.take k = b.args := List.take_of_length_le (by have := HLE.out; omega)
          rw [htk, htb] at SET
          obtain ⟨ae, ce, rfl, hse⟩ := SET.out.row.sl
          have HSE := hide hse
          clear hse htk htb
          have o0 : wr.cell? ⟨O, 0, none⟩ = some (.string a.name) := SET.out.out.cell 0
          have o1 := SET.out.out.cell 1
          have r0 : wr.cell? ⟨w.heap.size + 3, 0, none⟩ = some (.string ⟨#[]⟩) := SET.out.res.cell 0
          have q1 : wr.cell? ⟨w.heap.size + 3, 1, none⟩ = some (.slice none 0 0) := SET.out.res.cell 1
          have rf := SET.out.res.frozen
          have hRl : w.heap.size + 3 < wr.heap.size := SET.out.res.lt
          go_wp2_with fail
          refine bodyPost_ret (v := .agg #[.string a.name, .slice ae (gnL h a.args b.args).1.length ce]) (by simp [results, Tryd.results20, go_sem, World.cell?_setCell_same, World.cell?_setCell_other, r0, q1, hRl]) rfl ?_
          rw [HGN.out]
          have hbs := SET.out.ol
          refine ⟨ae, ce, rfl, (HSE.out.kept fun b hb => ?_).mono fun b hb _ => ?_, SET.out.gm.kept fun x hx hc => ?_, (SET.out.ex.setNew (by omega) _ _).setNew (by omega) _ _⟩
          · have hbn : b ≠ w.heap.size + 3 := by
              rcases hb with h | h
              · exact h.elim
              · omega
            rw [Below.heap_setCell _ _ _ _ (by simpa using hbn), Below.heap_setCell _ _ _ _ (by simpa using hbn)]
          · rcases hb with h | h
            · exact h.elim
            · omega
          · have hlt : x < w.heap.size := by
              rcases hc with h1 | h1 | h1
              · have := HBL.out; omega
              · exact HM.out x h1
              · exact HYW.out x h1
            rw [Below.heap_setCell _ _ _ _ (by simp; omega), Below.heap_setCell _ _ _ _ (by simp; omega)]
end Go.Proofs.YtglcijkhlppjfaaDoor
