import Derived.Test.YtbnmlkaejdpigaaGreatDoorZTopLocalOwn
import Derived.Test.YtbnmlkaejdpigaaGreatDoorOv7
import Derived.Test.YtbnmlkaejdpigaaGreatDoorW114
import Derived.Test.YtbnmlkaejdpigaaGreatDoorW120
namespace Go.Proofs.YtbnmlkaejdpigaaGreatDoor
open Go.RowKit Go.Shelf
attribute [local go_sem] Oper.semAt_some
set_option linter.unusedSimpArgs false
set_option linter.unusedVariables false
set_option maxRecDepth 8000
def OnlyO (Q : Exit → Act → World → Prop) : Exit → Act → World → Prop
  | .normal, a, w => Q .normal a w
  | _, _, _ => False
theorem wp_onlyO {P : Program} {c : Code} {Q : Exit → Act → World → Prop} {a : Act} {w : World} (h : c.wp P (OnlyO Q) a w) : c.wp P Q a w :=
  Code.wp_mono (fun e a w q => by cases e <;> first | exact q | exact q.elim) h
theorem atT_sizeO {zs : List Int} : ∀ {t x : Tm}, atT t zs = some x → sizeL [x] ≤ sizeL [t] := by
  induction zs with
  | nil => intro t x h; simp only [atT, Option.some.injEq] at h; subst h; exact Nat.le_refl _
  | cons z zs ih =>
    intro t x h
    simp only [atT] at h
    split at h
    · rename_i hh
      have h1 := ih h
      have h2 := sizeL_take t.args z.toNat hh.2
      have h3 := sizeL_take_le t.args (z.toNat + 1)
      obtain ⟨s, l⟩ := t
      have : sizeL [(⟨s, l⟩ : Tm)] = 1 + sizeL l := by simp [sizeL]
      simp only at *
      omega
    · cases h
theorem may_at {t x : Tm} {p : List Int} (h : mayE t = 0) (hp : atT t p = some x) : mayE x = 0 := by
  have h1 := atT_err p t x (err_mayD h) hp
  have h2 := atT_sizeO hp
  have h3 := may200 h
  unfold mayE
  rw [if_neg (by omega)]
  exact h1
theorem pairs_two {x y : Tm} (hx : mayE x = 0) (hy : mayE y = 0) : pairsE [⟨x, y⟩] = 0 := by
  unfold pairsE
  simp [pmT, twoE, hx, hy]
def OvM (oa nb : Pr) (W : World) (o : Value) (w' : World) : Prop :=
  ∃ B x y b1 d1 b2 d2 b3 d3 b4 d4, o = .pointer (some ⟨B, 0, none⟩) ∧ W.heap.size ≤ B ∧ (x, y) = apR oa nb ∧ Blk w' B #[.string x.l.name, .slice b1 x.l.args.length d1, .string x.r.name, .slice b2 x.r.args.length d2, .string y.l.name, .slice b3 y.l.args.length d3, .string y.r.name, .slice b4 y.r.args.length d4] 54 ∧ Below W.heap.size W w' ∧ Sl w' (fun b => W.heap.size ≤ b ∧ b ≠ B) b1 x.l.args ∧ Sl w' (fun b => W.heap.size ≤ b ∧ b ≠ B) b2 x.r.args ∧ Sl w' (fun b => W.heap.size ≤ b ∧ b ≠ B) b3 y.l.args ∧ Sl w' (fun b => W.heap.size ≤ b ∧ b ≠ B) b4 y.r.args
set_option maxHeartbeats 1000000 in
theorem ovM_of {oa nb : Pr} {W wz : World} {B : Nat} {x y : Pr} {b1 b2 b3 b4 : Option Addr} {d1 d2 d3 d4 : Nat} (hB : W.heap.size ≤ B) (he : (x, y) = apR oa nb) (h : Blk wz B #[.string ⟨#[]⟩, .slice none 0 0, .string ⟨#[]⟩, .slice none 0 0, .string ⟨#[]⟩, .slice none 0 0, .string ⟨#[]⟩, .slice none 0 0] 54) (hb : Below W.heap.size W wz) (h1 : Sl wz (fun b => W.heap.size ≤ b ∧ b ≠ B) b1 x.l.args) (h2 : Sl wz (fun b => W.heap.size ≤ b ∧ b ≠ B) b2 x.r.args) (h3 : Sl wz (fun b => W.heap.size ≤ b ∧ b ≠ B) b3 y.l.args) (h4 : Sl wz (fun b => W.heap.size ≤ b ∧ b ≠ B) b4 y.r.args) :
    Below W.heap.size W ((((((((wz.setCell ⟨B, 0, none⟩ (.string x.l.name)).setCell ⟨B, 1, none⟩ (.slice b1 x.l.args.length d1)).setCell ⟨B, 2, none⟩ (.string x.r.name)).setCell ⟨B, 3, none⟩ (.slice b2 x.r.args.length d2)).setCell ⟨B, 4, none⟩ (.string y.l.name)).setCell ⟨B, 5, none⟩ (.slice b3 y.l.args.length d3)).setCell ⟨B, 6, none⟩ (.string y.r.name)).setCell ⟨B, 7, none⟩ (.slice b4 y.r.args.length d4)) ∧ OvM oa nb W (.pointer (some ⟨B, 0, none⟩)) ((((((((wz.setCell ⟨B, 0, none⟩ (.string x.l.name)).setCell ⟨B, 1, none⟩ (.slice b1 x.l.args.length d1)).setCell ⟨B, 2, none⟩ (.string x.r.name)).setCell ⟨B, 3, none⟩ (.slice b2 x.r.args.length d2)).setCell ⟨B, 4, none⟩ (.string y.l.name)).setCell ⟨B, 5, none⟩ (.slice b3 y.l.args.length d3)).setCell ⟨B, 6, none⟩ (.string y.r.name)).setCell ⟨B, 7, none⟩ (.slice b4 y.r.args.length d4)) := by
  have hbb : Below W.heap.size W ((((((((wz.setCell ⟨B, 0, none⟩ (.string x.l.name)).setCell ⟨B, 1, none⟩ (.slice b1 x.l.args.length d1)).setCell ⟨B, 2, none⟩ (.string x.r.name)).setCell ⟨B, 3, none⟩ (.slice b2 x.r.args.length d2)).setCell ⟨B, 4, none⟩ (.string y.l.name)).setCell ⟨B, 5, none⟩ (.slice b3 y.l.args.length d3)).setCell ⟨B, 6, none⟩ (.string y.r.name)).setCell ⟨B, 7, none⟩ (.slice b4 y.r.args.length d4)) := ((((((((hb.setCell (p := ⟨B, 0, none⟩) hB _).setCell (p := ⟨B, 1, none⟩) hB _).setCell (p := ⟨B, 2, none⟩) hB _).setCell (p := ⟨B, 3, none⟩) hB _).setCell (p := ⟨B, 4, none⟩) hB _).setCell (p := ⟨B, 5, none⟩) hB _).setCell (p := ⟨B, 6, none⟩) hB _).setCell (p := ⟨B, 7, none⟩) hB _)
  have kp : ∀ {a : Option Addr} {l : List Tm}, Sl wz (fun b => W.heap.size ≤ b ∧ b ≠ B) a l → Sl ((((((((wz.setCell ⟨B, 0, none⟩ (.string x.l.name)).setCell ⟨B, 1, none⟩ (.slice b1 x.l.args.length d1)).setCell ⟨B, 2, none⟩ (.string x.r.name)).setCell ⟨B, 3, none⟩ (.slice b2 x.r.args.length d2)).setCell ⟨B, 4, none⟩ (.string y.l.name)).setCell ⟨B, 5, none⟩ (.slice b3 y.l.args.length d3)).setCell ⟨B, 6, none⟩ (.string y.r.name)).setCell ⟨B, 7, none⟩ (.slice b4 y.r.args.length d4)) (fun b => W.heap.size ≤ b ∧ b ≠ B) a l := fun h => h.kept fun b hb => by
    have hne : b ≠ B := hb.2
    rw [Below.heap_setCell _ _ _ _ (by simpa using hne), Below.heap_setCell _ _ _ _ (by simpa using hne), Below.heap_setCell _ _ _ _ (by simpa using hne), Below.heap_setCell _ _ _ _ (by simpa using hne), Below.heap_setCell _ _ _ _ (by simpa using hne), Below.heap_setCell _ _ _ _ (by simpa using hne), Below.heap_setCell _ _ _ _ (by simpa using hne), Below.heap_setCell _ _ _ _ (by simpa using hne)]
  exact ⟨hbb, B, x, y, b1, d1, b2, d2, b3, d3, b4, d4, rfl, hB, he, ((((((((h.set 0 _).set 1 _).set 2 _).set 3 _).set 4 _).set 5 _).set 6 _).set 7 _), hbb, kp h1, kp h2, kp h3, kp h4⟩
theorem Tb.heap {B : Nat} {w w' : World} (h : Tb B w) (hs : w.heap.size ≤ w'.heap.size) (hk : ∀ b, b < B → w'.heap[b]? = w.heap[b]?) : Tb B w' := fun w'' h2 => by
  have h3 := h { w'' with os := w.os, tape := w.tape, output := w.output } ⟨rfl, rfl, rfl, Nat.le_trans hs h2.size, fun b hb => (h2.block b hb).trans (hk b hb)⟩
  exact h3
theorem wpListIn_append_eqO {F : Fence} {nF : Nat} {P : Program} {ops : Array Oper} {rest : List Oper} {o : Oper} {a : Act} {Q : Exit → Act → World → Prop} {w w' : World} {v u v' : Value} (hgd : o.guard = none) (s x : Operand) (t t' : TypeId)
    (ho : o.op = .call { callee := .builtin .append, args := #[s, x], argTypes := #[t, t'] }) (hs : a.eval s = v) (hx : a.eval x = u)
    (hr : (Builtin.append_ #[t, t'] o.type #[v, u]).run P w = .ok v' w') (h : wpListIn F nF P ops Q rest (a.put o.dst v') w') : wpListIn F nF P ops Q (o :: rest) a w := by
  refine wpListIn_plain hgd fun K hK => ?_
  unfold Oper.wpIn
  refine ⟨by simp [Oper.about, ho, resolve, Target.leads, Sem.run_pure], ?_⟩
  rw [Oper.semAt_plain F _ _ (by rw [ho]; intro c hc'; cases hc')]
  simp [execOp, ho, resolve, invoke, builtin, hs, hx, hr, Result.andThen]
  exact hK _ _ h
def Frm (W1 : World) (L : Nat) (rb : Loop) (V : World) : Prop :=
  W1.heap.size ≤ V.heap.size ∧ (V.os = W1.os ∧ V.tape = W1.tape ∧ V.output = W1.output) ∧ (∀ q, q < W1.heap.size → q ≠ L → V.heap[q]? = W1.heap[q]?) ∧ V.heap[L]? = some (.loop rb)
theorem Frm.later {W1 V V' : World} {L : Nat} {rb : Loop} (h : Frm W1 L rb V) (hb : Below V.heap.size V V') : Frm W1 L rb V' := by
  obtain ⟨h1, h2, h3, h4⟩ := h
  exact ⟨Nat.le_trans h1 hb.size, ⟨hb.os.trans h2.1, hb.tape.trans h2.2.1, hb.output.trans h2.2.2⟩, fun q hq hne => (hb.block q (by omega)).trans (h3 q hq hne), (hb.block L (Array.getElem?_eq_some_iff.1 h4).1).trans h4⟩
theorem Frm.alloc {W1 V : World} {L : Nat} {rb : Loop} (h : Frm W1 L rb V) (o : Obj) : Frm W1 L rb (V.alloc o) := h.later ((Below.refl _ _).alloc (Nat.le_refl _) o)
theorem Frm.blk {W1 V : World} {L : Nat} {rb : Loop} (h : Frm W1 L rb V) {q T : Nat} {c : Array Value} (hb : Blk W1 q c T) (hne : q ≠ L) : Blk V q c T := (h.2.2.1 q hb.lt hne).trans hb
theorem jo_full2 {U : List Pr → Int × List Bd} {ab : Pr × Pr} {same : Bool} {K : Nat → Prop} {A R4 R5 L : Nat} {r rd rb : Loop} {W0 : World} (hd : Ap4 A R4 R5 L W0.heap.size) {pre : List Dn} {f : Nat → Prop} {W V : World} {v : Value} {cs : List Pc} {F : Nat → Prop} (h : JoS U ab same K A R4 R5 L r W0 pre true f W v cs F) (hF : Frm W L rb V) {d : Dn} (hs : ovF U ab same d) :
    ((V.setCell ⟨R4, 0, none⟩ (.slice none 0 0)).setCell ⟨R5, 0, none⟩ (.int .i64 8)).heap[L]? = some (.loop rb) ∧ ∃ f', JO U ab same K A R4 R5 L r rd W0 (pre ++ [d]) false f' (((V.setCell ⟨R4, 0, none⟩ (.slice none 0 0)).setCell ⟨R5, 0, none⟩ (.int .i64 8)).putObj L (.loop rd)) ∧ ExQ f W (((V.setCell ⟨R4, 0, none⟩ (.slice none 0 0)).setCell ⟨R5, 0, none⟩ (.int .i64 8)).putObj L (.loop rd)) ∧ ∀ b, f' b → f b ∨ W.heap.size ≤ b := by
  have hh := hd
  obtain ⟨d1, d2, d3, d4, d5, d6, d7, d8, d9, d10⟩ := hd
  have B4 := hF.blk h.b4 d9
  have B5 := hF.blk h.b5 d10
  refine jo_full (V := ((V.setCell ⟨R4, 0, none⟩ (.slice none 0 0)).setCell ⟨R5, 0, none⟩ (.int .i64 8))) hh h (by simp [World.setCell]; exact hF.1) hF.2.1 (fun q hq h1 h2 h3 => ?_) ?_ ((Blk.set1R B4).setOther _ _ d8) (Blk.set1R (B5.setOther _ _ (Ne.symm d8))) hs
  · rw [Below.heap_setCell _ _ _ _ (by simpa using h3), Below.heap_setCell _ _ _ _ (by simpa using h2)]
    exact hF.2.2.1 q hq h1
  · rw [Below.heap_setCell _ _ _ _ (by simpa using Ne.symm d10), Below.heap_setCell _ _ _ _ (by simpa using Ne.symm d9)]
    exact hF.2.2.2
theorem jo_full3 {U : List Pr → Int × List Bd} {ab : Pr × Pr} {same : Bool} {K : Nat → Prop} {A R4 R5 L : Nat} {r rd rb : Loop} {W0 : World} (hd : Ap4 A R4 R5 L W0.heap.size) {pre : List Dn} {f : Nat → Prop} {W V : World} {v : Value} {cs : List Pc} {F : Nat → Prop} (h : JoS U ab same K A R4 R5 L r W0 pre true f W v cs F) (hF : Frm W L rb V) {d : Dn} (o : Obj) (hs : ovF U ab same d) :
    (((V.setCell ⟨R4, 0, none⟩ (.slice none 0 0)).setCell ⟨R5, 0, none⟩ (.int .i64 8)).alloc o).heap[L]? = some (.loop rb) ∧ ∃ f', JO U ab same K A R4 R5 L r rd W0 (pre ++ [d]) false f' ((((V.setCell ⟨R4, 0, none⟩ (.slice none 0 0)).setCell ⟨R5, 0, none⟩ (.int .i64 8)).alloc o).putObj L (.loop rd)) ∧ ExQ f W ((((V.setCell ⟨R4, 0, none⟩ (.slice none 0 0)).setCell ⟨R5, 0, none⟩ (.int .i64 8)).alloc o).putObj L (.loop rd)) ∧ ∀ b, f' b → f b ∨ W.heap.size ≤ b := by
  have hh := hd
  obtain ⟨d1, d2, d3, d4, d5, d6, d7, d8, d9, d10⟩ := hd
  have B4 := hF.blk h.b4 d9
  have B5 := hF.blk h.b5 d10
  refine jo_full (V := (((V.setCell ⟨R4, 0, none⟩ (.slice none 0 0)).setCell ⟨R5, 0, none⟩ (.int .i64 8)).alloc o)) hh h (by have := hF.1; simp [World.setCell]; omega) hF.2.1 (fun q hq h1 h2 h3 => ?_) ?_ (((Blk.set1R B4).setOther _ _ d8).alloc o) ((Blk.set1R (B5.setOther _ _ (Ne.symm d8))).alloc o) hs
  · rw [Below.heap_alloc _ _ _ (by have := hF.1; simp [World.setCell]; omega), Below.heap_setCell _ _ _ _ (by simpa using h3), Below.heap_setCell _ _ _ _ (by simpa using h2)]
    exact hF.2.2.1 q hq h1
  · rw [Below.heap_alloc _ _ _ (by have := (Array.getElem?_eq_some_iff.1 hF.2.2.2).1; simp [World.setCell]; omega), Below.heap_setCell _ _ _ _ (by simpa using Ne.symm d10), Below.heap_setCell _ _ _ _ (by simpa using Ne.symm d9)]
    exact hF.2.2.2
def OvP (U : List Pr → Int × List Bd) (oa nb : Pr) (same : Bool) (w : World) (e : Ending) (w' : World) : Prop :=
  Below w.heap.size w w' ∧ (((∀ d ∈ dnT [] [] (apR oa nb).1.l, ¬ ovF U (apR oa nb) same d) ∧ ∃ v cs, e = .returned (.tuple #[v, .int .i64 0]) ∧ QRow w' w.heap.size (fun _ => False) v cs ∧ cs.map (·.1) = ovL U oa nb same) ∨
    ((∃ d ∈ dnT [] [] (apR oa nb).1.l, ovF U (apR oa nb) same d) ∧ e = .returned (.tuple #[.slice none 0 0, .int .i64 8])))
set_option maxHeartbeats 4000000 in
theorem pairsO_any (BT : Nat) (U : List Pr → Int × List Bd) (hU : ∀ ls, pairsE ls = 0 → ∃ g, uRun false g [] ls = some (U ls)) (hUo : ∀ ls, pairsE ls = 0 → (U ls).1 = 0 → Once (U ls).2) (rs : List Pr) (i j : Nat) (hi : i < rs.length) (hj : j < rs.length) (u : Value) (w : World) (X0 : Nat → Prop) (hu : QV w X0 u rs) (ho : mayE rs[i].l = 0 ∧ mayE rs[i].r = 0) (hn : mayE rs[j].l = 0 ∧ mayE rs[j].r = 0) (hT : Tb BT w) (hBw : BT ≤ w.heap.size) :
    Calls Tryz.prog 12 #[u, .agg #[.int .i64 (i : Int), .int .i64 (j : Int)]] w fun e w' => OvP U rs[i] rs[j] (decide (i = j)) w e w' := by
  have HT := hide hT
  have HO := hide ho
  have HNB := hide hn
  have HUU := hide hU
  have HUO := hide hUo
  obtain ⟨ua, uc, hue, hul, -⟩ := id hu
  subst hue
  obtain ⟨b, o, a1, c1, a2, c2, hua, p0, p1, p2, p3, s1, s2⟩ := hu.get i hi
  obtain ⟨b', o', a3, c3, a4, c4, hua', p4, p5, p6, p7, s3, s4⟩ := hu.get j hj
  subst hua
  cases hua'
  have HS1 := hide s1
  have HS2 := hide s2
  have HS3 := hide s3
  have HS4 := hide s4
  have hbl : b < w.heap.size := cell_lt p0
  have HPP : Hid (w.cell? ⟨b, o + i * 4, none⟩ = some (.string rs[i].l.name) ∧ w.cell? ⟨b, o + i * 4 + 1, none⟩ = some (.slice a1 rs[i].l.args.length c1) ∧ w.cell? ⟨b, o + i * 4 + 2, none⟩ = some (.string rs[i].r.name) ∧ w.cell? ⟨b, o + i * 4 + 3, none⟩ = some (.slice a2 rs[i].r.args.length c2) ∧ w.cell? ⟨b, o + j * 4, none⟩ = some (.string rs[j].l.name) ∧ w.cell? ⟨b, o + j * 4 + 1, none⟩ = some (.slice a3 rs[j].l.args.length c3) ∧ w.cell? ⟨b, o + j * 4 + 2, none⟩ = some (.string rs[j].r.name) ∧ w.cell? ⟨b, o + j * 4 + 3, none⟩ = some (.slice a4 rs[j].r.args.length c4)) := ⟨p0, p1, p2, p3, p4, p5, p6, p7⟩
  obtain ⟨same, hsame⟩ : ∃ s, s = decide (i = j) := ⟨_, rfl⟩
  have HSM : Hid (((i : Int) == (j : Int)) = same) := by unfold Hid; rw [hsame, Bool.eq_iff_iff]; simp; omega
  have hii : (i : Int) < (rs.length : Int) := by omega
  have hjj : (j : Int) < (rs.length : Int) := by omega
  rw [← hsame]
  clear hsame
  clear hT ho hn hU hUo p0 p1 p2 p3 p4 p5 p6 p7 s1 s2 s3 s4 hu
  generalize rs[i] = oa at *
  generalize rs[j] = nb at *
  generalize rs.length = nr at *
  clear hi hj
  refine (callsIn_wide (n := 3)).1 ?_
  refine callsIn_of_wp_marks Tryz.func12 rfl trivial ?_ rfl
  simp only [Tryz.ntmps12, List.size_toArray, List.length_cons, List.length_nil, Nat.reduceAdd, Nat.reduceSub, Array.replicate_succ, Array.replicate_zero, List.push_toArray, List.append_toArray, List.nil_append, List.cons_append]
  refine wpIn_wide.2 ?_
  go_upto_region 1 with fail
  have HB3 : Hid (Below w.heap.size w (((w.alloc (.cells #[.int .i64 (i : Int), .int .i64 (j : Int)] 44)).alloc (.cells #[.slice none 0 0] 22)).alloc (.cells #[.int .i64 0] 24))) := (((Below.refl _ _).alloc (Nat.le_refl _) _).alloc (by simp) _).alloc (by simp; omega) _
  have hz3 : (((w.alloc (.cells #[.int .i64 (i : Int), .int .i64 (j : Int)] 44)).alloc (.cells #[.slice none 0 0] 22)).alloc (.cells #[.int .i64 0] 24)).heap.size = w.heap.size + 3 := by simp
  have HAF := hide (allocs_facts [(.cells #[.int .i64 (i : Int), .int .i64 (j : Int)] 44 : Obj), (.cells #[.slice none 0 0] 22 : Obj), (.cells #[.int .i64 0] 24 : Obj)] w)
  have eW : allocs w [(.cells #[.int .i64 (i : Int), .int .i64 (j : Int)] 44 : Obj), (.cells #[.slice none 0 0] 22 : Obj), (.cells #[.int .i64 0] 24 : Obj)] = ((w.alloc (.cells #[.int .i64 (i : Int), .int .i64 (j : Int)] 44)).alloc (.cells #[.slice none 0 0] 22)).alloc (.cells #[.int .i64 0] 24) := rfl
  rw [eW] at HAF
  clear eW
  generalize ((w.alloc (.cells #[.int .i64 (i : Int), .int .i64 (j : Int)] 44)).alloc (.cells #[.slice none 0 0] 22)).alloc (.cells #[.int .i64 0] 24) = W at *
  have HP3 : Hid (Blk W w.heap.size #[.int .i64 (i : Int), .int .i64 (j : Int)] 44) := HAF.out.2.2 0 _ rfl
  have H4 : Hid (Blk W (w.heap.size + 1) #[.slice none 0 0] 22) := HAF.out.2.2 1 _ rfl
  have H5 : Hid (Blk W (w.heap.size + 2) #[.int .i64 0] 24) := HAF.out.2.2 2 _ rfl
  clear HAF
  have KP : Hid (∀ w', Below W.heap.size W w' → (w'.cell? ⟨w.heap.size, 0, none⟩ = some (.int .i64 (i : Int)) ∧ w'.cell? ⟨w.heap.size, 1, none⟩ = some (.int .i64 (j : Int))) ∧ (w'.cell? ⟨b, o + i * 4, none⟩ = some (.string oa.l.name) ∧ w'.cell? ⟨b, o + i * 4 + 1, none⟩ = some (.slice a1 oa.l.args.length c1) ∧ w'.cell? ⟨b, o + i * 4 + 2, none⟩ = some (.string oa.r.name) ∧ w'.cell? ⟨b, o + i * 4 + 3, none⟩ = some (.slice a2 oa.r.args.length c2) ∧ w'.cell? ⟨b, o + j * 4, none⟩ = some (.string nb.l.name) ∧ w'.cell? ⟨b, o + j * 4 + 1, none⟩ = some (.slice a3 nb.l.args.length c3) ∧ w'.cell? ⟨b, o + j * 4 + 2, none⟩ = some (.string nb.r.name) ∧ w'.cell? ⟨b, o + j * 4 + 3, none⟩ = some (.slice a4 nb.r.args.length c4))) := fun w' hb => by
    have hbb := HB3.out.trans (hb.mono HB3.out.size)
    have k : ∀ q, w'.cell? ⟨b, q, none⟩ = w.cell? ⟨b, q, none⟩ := fun q => hbb.cell (p := ⟨b, q, none⟩) hbl
    have hP := HP3.out.below hb HP3.out.lt
    refine ⟨⟨hP.cell 0, hP.cell 1⟩, ?_⟩
    simp only [k]
    exact HPP.out
  have kd : Below W.heap.size W W.drew := (Below.refl _ _).drew
  go_cut [6] from 13 to 25 (fun o w' => OvM oa nb W o w')
  case first =>
    refine wp_onlyO ?_
    refine wp_region_held_drew (S := Below W.heap.size W) (by kernel_rfl) kd (fun hHeld => ?_)
    have hkz := kd.size
    generalize W.drew = wd at *
    refine tkq (v := ?_) 0 rfl ?_ ?_
    rotate_left
    · intro w' hSw
      go_simp <;> with_reducible rfl
    try simp only [Act.put, sq]
    refine tkq (v := ?_) 1 rfl ?_ ?_
    rotate_left
    · intro w' hSw
      obtain ⟨⟨e0, e1⟩, p0, p1, p2, p3, p4, p5, p6, p7⟩ := KP.out w' hSw
      go_simp <;> with_reducible rfl
    try simp only [Act.put, sq]
    refine tkq (v := ?_) 2 rfl ?_ ?_
    rotate_left
    · intro w' hSw
      obtain ⟨⟨e0, e1⟩, p0, p1, p2, p3, p4, p5, p6, p7⟩ := KP.out w' hSw
      go_simp <;> with_reducible rfl
    try simp only [Act.put, sq]
    refine tkq (v := ?_) 3 rfl ?_ ?_
    rotate_left
    · intro w' hSw
      obtain ⟨⟨e0, e1⟩, p0, p1, p2, p3, p4, p5, p6, p7⟩ := KP.out w' hSw
      go_simp <;> with_reducible rfl
    try simp only [Act.put, sq]
    refine tkq (v := ?_) 4 rfl ?_ ?_
    rotate_left
    · intro w' hSw
      obtain ⟨⟨e0, e1⟩, p0, p1, p2, p3, p4, p5, p6, p7⟩ := KP.out w' hSw
      go_simp <;> with_reducible rfl
    try simp only [Act.put, sq]
    refine tkq (v := ?_) 5 rfl ?_ ?_
    rotate_left
    · intro w' hSw
      go_simp <;> with_reducible rfl
    try simp only [Act.put, sq]
    refine tkq (v := ?_) 6 rfl ?_ ?_
    rotate_left
    · intro w' hSw
      obtain ⟨⟨e0, e1⟩, p0, p1, p2, p3, p4, p5, p6, p7⟩ := KP.out w' hSw
      go_simp <;> with_reducible rfl
    try simp only [Act.put, sq]
    refine tkq (v := ?_) 7 rfl ?_ ?_
    rotate_left
    · intro w' hSw
      obtain ⟨⟨e0, e1⟩, p0, p1, p2, p3, p4, p5, p6, p7⟩ := KP.out w' hSw
      go_simp <;> with_reducible rfl
    try simp only [Act.put, sq]
    refine tkq (v := ?_) 8 rfl ?_ ?_
    rotate_left
    · intro w' hSw
      obtain ⟨⟨e0, e1⟩, p0, p1, p2, p3, p4, p5, p6, p7⟩ := KP.out w' hSw
      go_simp <;> with_reducible rfl
    try simp only [Act.put, sq]
    refine tkq (v := ?_) 9 rfl ?_ ?_
    rotate_left
    · intro w' hSw
      obtain ⟨⟨e0, e1⟩, p0, p1, p2, p3, p4, p5, p6, p7⟩ := KP.out w' hSw
      go_simp <;> with_reducible rfl
    try simp only [Act.put, sq]
    refine tkq (v := ?_) 10 rfl ?_ ?_
    rotate_left
    · intro w' hSw
      go_simp <;> with_reducible rfl
    try simp only [Act.put, sq]
    refine wpAnyH_ready (rs := [11, 12]) (by kernel_rfl) (by simp) ?_
    refine AllReadyH.cons rfl (fun K hK => ?_) (AllReadyH.cons rfl (fun K hK => ?_) AllReadyH.nil)
    · go_simp
      go_at_call 19
      refine (apart_any BT oa nb a1 a2 a3 a4 c1 c2 c3 c4 wd X0 (HS1.out.later (HB3.out.trans (kd.mono HB3.out.size))) (HS2.out.later (HB3.out.trans (kd.mono HB3.out.size))) (HS3.out.later (HB3.out.trans (kd.mono HB3.out.size))) (HS4.out.later (HB3.out.trans (kd.mono HB3.out.size))) HO.out HNB.out (HT.out.on ((HB3.out.trans (kd.mono HB3.out.size)).mono hBw)) (by have h1 := HB3.out.size; have h2 := Below.size kd; omega)).mono ?_
      rintro e w6 ⟨hb6, x, y, b1, d1, b2, d2, b3, d3, b4, d4, hxy, rfl, t1, t2, t3, t4⟩
      have k6 : Below W.heap.size W w6 := kd.trans (hb6.mono kd.size)
      have HT6 : Hid ((x, y) = apR oa nb ∧ Below wd.heap.size wd w6 ∧ Sl w6 (fun b => wd.heap.size ≤ b) b1 x.l.args ∧ Sl w6 (fun b => wd.heap.size ≤ b) b2 x.r.args ∧ Sl w6 (fun b => wd.heap.size ≤ b) b3 y.l.args ∧ Sl w6 (fun b => wd.heap.size ≤ b) b4 y.r.args) := ⟨hxy, hb6, t1, t2, t3, t4⟩
      clear hb6 hxy t1 t2 t3 t4
      go_simp
      refine hK.out _ _ (by exact k6) (fun hHeld => ?_)
      clear hK K
      try simp only [Act.put, sq]
      refine rdq 12 rfl fun K hK => ?_
      go_simp
      have kz : Below W.heap.size W (w6.alloc (.cells #[.string ⟨#[]⟩, .slice none 0 0, .string ⟨#[]⟩, .slice none 0 0, .string ⟨#[]⟩, .slice none 0 0, .string ⟨#[]⟩, .slice none 0 0] 54)) := k6.alloc k6.size _
      have HZ8 : Hid (Blk (w6.alloc (.cells #[.string ⟨#[]⟩, .slice none 0 0, .string ⟨#[]⟩, .slice none 0 0, .string ⟨#[]⟩, .slice none 0 0, .string ⟨#[]⟩, .slice none 0 0] 54)) w6.heap.size #[.string ⟨#[]⟩, .slice none 0 0, .string ⟨#[]⟩, .slice none 0 0, .string ⟨#[]⟩, .slice none 0 0, .string ⟨#[]⟩, .slice none 0 0] 54) := Blk.new w6 _ _
      have k6z : Below w6.heap.size w6 (w6.alloc (.cells #[.string ⟨#[]⟩, .slice none 0 0, .string ⟨#[]⟩, .slice none 0 0, .string ⟨#[]⟩, .slice none 0 0, .string ⟨#[]⟩, .slice none 0 0] 54)) := (Below.refl _ _).alloc (Nat.le_refl _) _
      refine hK.out _ _ (by exact kz) (fun hHeld => ?_)
      clear hK K
      try simp only [Act.put, sq]
      generalize (w6.alloc (.cells #[.string ⟨#[]⟩, .slice none 0 0, .string ⟨#[]⟩, .slice none 0 0, .string ⟨#[]⟩, .slice none 0 0, .string ⟨#[]⟩, .slice none 0 0] 54)) = wz at *
      have HFN := hide (ovM_of (d1 := d1) (d2 := d2) (d3 := d3) (d4 := d4) k6.size HT6.out.1 HZ8.out kz (((HT6.out.2.2.1.mono fun b h1 h2 => ⟨by omega, by omega⟩).later k6z)) (((HT6.out.2.2.2.1.mono fun b h1 h2 => ⟨by omega, by omega⟩).later k6z)) (((HT6.out.2.2.2.2.1.mono fun b h1 h2 => ⟨by omega, by omega⟩).later k6z)) (((HT6.out.2.2.2.2.2.mono fun b h1 h2 => ⟨by omega, by omega⟩).later k6z)))
      generalize w6.heap.size = B6 at *
      have q0 := HZ8.out.cell 0
      have q1 := HZ8.out.cell 1
      have q2 := HZ8.out.cell 2
      have q3 := HZ8.out.cell 3
      have q4 := HZ8.out.cell 4
      have q5 := HZ8.out.cell 5
      have q6 := HZ8.out.cell 6
      have q7 := HZ8.out.cell 7
      have qf := HZ8.out.frozen
      have ql := HZ8.out.lt
      refine rdq 13 rfl fun K hK => ?_
      go_simp
      refine hK.out _ _ (by exact HFN.out.1) (fun hHeld => ?_)
      clear hK K
      try simp only [Act.put, sq]
      refine wpAnyH_done (by kernel_rfl) ?_ _
      clear q0 q1 q2 q3 q4 q5 q6 q7
      simp only [OnlyO]
      go_wp2_with fail
      go_meet
      exact HFN.out.2
    · go_simp
      have kz : Below W.heap.size W (wd.alloc (.cells #[.string ⟨#[]⟩, .slice none 0 0, .string ⟨#[]⟩, .slice none 0 0, .string ⟨#[]⟩, .slice none 0 0, .string ⟨#[]⟩, .slice none 0 0] 54)) := kd.alloc kd.size _
      have HZ0 : Hid (Blk (wd.alloc (.cells #[.string ⟨#[]⟩, .slice none 0 0, .string ⟨#[]⟩, .slice none 0 0, .string ⟨#[]⟩, .slice none 0 0, .string ⟨#[]⟩, .slice none 0 0] 54)) wd.heap.size #[.string ⟨#[]⟩, .slice none 0 0, .string ⟨#[]⟩, .slice none 0 0, .string ⟨#[]⟩, .slice none 0 0, .string ⟨#[]⟩, .slice none 0 0] 54) := Blk.new wd _ _
      have hz1 : wd.heap.size < (wd.alloc (.cells #[.string ⟨#[]⟩, .slice none 0 0, .string ⟨#[]⟩, .slice none 0 0, .string ⟨#[]⟩, .slice none 0 0, .string ⟨#[]⟩, .slice none 0 0] 54)).heap.size := by simp
      refine hK.out _ _ (by exact kz) (fun hHeld => ?_)
      clear hK K
      try simp only [Act.put, sq]
      generalize (wd.alloc (.cells #[.string ⟨#[]⟩, .slice none 0 0, .string ⟨#[]⟩, .slice none 0 0, .string ⟨#[]⟩, .slice none 0 0, .string ⟨#[]⟩, .slice none 0 0] 54)) = wz at *
      refine rdq 11 rfl fun K hK => ?_
      go_simp
      go_at_call 19
      refine (apart_any BT oa nb a1 a2 a3 a4 c1 c2 c3 c4 wz X0 (HS1.out.later (HB3.out.trans (kz.mono HB3.out.size))) (HS2.out.later (HB3.out.trans (kz.mono HB3.out.size))) (HS3.out.later (HB3.out.trans (kz.mono HB3.out.size))) (HS4.out.later (HB3.out.trans (kz.mono HB3.out.size))) HO.out HNB.out (HT.out.on ((HB3.out.trans (kz.mono HB3.out.size)).mono hBw)) (by have h1 := HB3.out.size; have h2 := Below.size kz; omega)).mono ?_
      rintro e w6 ⟨hb6, x, y, b1, d1, b2, d2, b3, d3, b4, d4, hxy, rfl, t1, t2, t3, t4⟩
      have k6 : Below W.heap.size W w6 := kz.trans (hb6.mono kz.size)
      have HT6 : Hid ((x, y) = apR oa nb ∧ Below wz.heap.size wz w6 ∧ Sl w6 (fun b => wz.heap.size ≤ b) b1 x.l.args ∧ Sl w6 (fun b => wz.heap.size ≤ b) b2 x.r.args ∧ Sl w6 (fun b => wz.heap.size ≤ b) b3 y.l.args ∧ Sl w6 (fun b => wz.heap.size ≤ b) b4 y.r.args) := ⟨hxy, hb6, t1, t2, t3, t4⟩
      clear hb6 hxy t1 t2 t3 t4
      go_simp
      refine hK.out _ _ (by exact k6) (fun hHeld => ?_)
      clear hK K
      try simp only [Act.put, sq]
      have HZ8 := hide (HZ0.out.below HT6.out.2.1 HZ0.out.lt)
      have HFN := hide (ovM_of (d1 := d1) (d2 := d2) (d3 := d3) (d4 := d4) kd.size HT6.out.1 HZ8.out k6 (HT6.out.2.2.1.mono fun b h1 h2 => ⟨by omega, by omega⟩) (HT6.out.2.2.2.1.mono fun b h1 h2 => ⟨by omega, by omega⟩) (HT6.out.2.2.2.2.1.mono fun b h1 h2 => ⟨by omega, by omega⟩) (HT6.out.2.2.2.2.2.mono fun b h1 h2 => ⟨by omega, by omega⟩))
      generalize wd.heap.size = B6 at *
      have q0 := HZ8.out.cell 0
      have q1 := HZ8.out.cell 1
      have q2 := HZ8.out.cell 2
      have q3 := HZ8.out.cell 3
      have q4 := HZ8.out.cell 4
      have q5 := HZ8.out.cell 5
      have q6 := HZ8.out.cell 6
      have q7 := HZ8.out.cell 7
      have qf := HZ8.out.frozen
      have ql := HZ8.out.lt
      refine rdq 13 rfl fun K hK => ?_
      go_simp
      refine hK.out _ _ (by exact HFN.out.1) (fun hHeld => ?_)
      clear hK K
      try simp only [Act.put, sq]
      refine wpAnyH_done (by kernel_rfl) ?_ _
      clear q0 q1 q2 q3 q4 q5 q6 q7
      simp only [OnlyO]
      go_wp2_with fail
      go_meet
      exact HFN.out.2
  case rest =>
    obtain ⟨B, x, y, b1, d1, b2, d2, b3, d3, b4, d4, rfl, hBW, hxy, hBB, hbc, t1, t2, t3, t4⟩ := hcut
    have HXY := hide hxy
    have HBB := hide hBB
    have HBC := hide hbc
    have HT1 := hide t1
    have HT2 := hide t2
    have HT3 := hide t3
    have HT4 := hide t4
    obtain ⟨R5, hR5⟩ : ∃ R5, R5 = w.heap.size + 1 + 1 := ⟨_, rfl⟩
    obtain ⟨R4, hR4⟩ : ∃ R4, R4 = w.heap.size + 1 := ⟨_, rfl⟩
    obtain ⟨P3, hP3⟩ : ∃ P3, P3 = w.heap.size := ⟨_, rfl⟩
    have HRR : Hid (P3 = w.heap.size ∧ R4 = w.heap.size + 1 ∧ R5 = w.heap.size + 2 ∧ W.heap.size = w.heap.size + 3 ∧ W.heap.size ≤ wc.heap.size ∧ B < wc.heap.size ∧ W.heap.size ≤ B) := ⟨hP3, hR4, hR5, hz3, hbc.size, hBB.lt, hBW⟩
    have HPc : Hid (Blk wc P3 #[.int .i64 (i : Int), .int .i64 (j : Int)] 44) := by rw [hP3]; exact HP3.out.below hbc HP3.out.lt
    have H4c : Hid (Blk wc R4 #[.slice none 0 0] 22) := by rw [hR4]; exact H4.out.below hbc H4.out.lt
    have H5c : Hid (Blk wc R5 #[.int .i64 0] 24) := by rw [hR5]; exact H5.out.below hbc H5.out.lt
    rw [← hR5, ← hR4, ← hP3]
    have e0 : ∀ o, (wc.alloc o).cell? ⟨B, 0, none⟩ = some (.string x.l.name) := fun o => (hBB.alloc o).cell 0
    have e1 : ∀ o, (wc.alloc o).cell? ⟨B, 1, none⟩ = some (.slice b1 x.l.args.length d1) := fun o => (hBB.alloc o).cell 1
    clear hxy hBB hbc t1 t2 t3 t4 KP kd hR5 hR4 hP3 hz3 hBW H4 H5 HP3
    have HBw : Hid (Below w.heap.size w wc) := HB3.out.trans (HBC.out.mono HB3.out.size)
    have HMX : Hid ((mayE x.l = 0 ∧ mayE x.r = 0) ∧ mayE y.l = 0 ∧ mayE y.r = 0) := by
      have h := apR_ok HO.out HNB.out
      rw [← HXY.out] at h
      exact h
    go_step
    refine (wpIn_wide (n := 9)).1 ?_
    have hf1 : Fence.wide.fn 20 := trivial
    gi_wp2_with (first | (gi_at_call 20; refine (callsIn_wide.2 (downF_any _ _ _ _ _ _ _ _)).mono ?_; rintro e w' ⟨rfl, rfl⟩))
    refine wp_range2 (gf := 45) (lb := #[.pointer (some ⟨wc.heap.size + 1, 0, none⟩), .pointer (some ⟨wc.heap.size + 2, 0, none⟩)]) rfl (enters_of Tryz.func45 (by kernel_rfl) rfl) ?_
    intro r hr1 hr2 hr3 hr4 hr5 hr6
    have hz8 : (((wc.alloc (.cells #[.slice none 0 0] 22)).alloc (.cells #[.string x.l.name, .slice b1 x.l.args.length d1] 32)).alloc (.cells #[.slice none 0 0] 59)).heap.size = wc.heap.size + 3 := by simp
    have hW5 : (((((wc.alloc (.cells #[.slice none 0 0] 22)).alloc (.cells #[.string x.l.name, .slice b1 x.l.args.length d1] 32)).alloc (.cells #[.slice none 0 0] 59)).alloc (.deferred (some []))).alloc (.loop r)) = allocs wc [(.cells #[.slice none 0 0] 22 : Obj), (.cells #[.string x.l.name, .slice b1 x.l.args.length d1] 32 : Obj), (.cells #[.slice none 0 0] 59 : Obj), (.deferred (some []) : Obj), (.loop r : Obj)] := rfl
    rw [hz8]
    have HAF := hide (allocs_facts [(.cells #[.slice none 0 0] 22 : Obj), (.cells #[.string x.l.name, .slice b1 x.l.args.length d1] 32 : Obj), (.cells #[.slice none 0 0] 59 : Obj), (.deferred (some []) : Obj), (.loop r : Obj)] wc)
    rw [← hW5] at HAF
    clear hW5
    generalize (((((wc.alloc (.cells #[.slice none 0 0] 22)).alloc (.cells #[.string x.l.name, .slice b1 x.l.args.length d1] 32)).alloc (.cells #[.slice none 0 0] 59)).alloc (.deferred (some []))).alloc (.loop r)) = W5 at *
    have hz5 : W5.heap.size = wc.heap.size + 5 := HAF.out.2.1
    have HB5 : Hid (Below wc.heap.size wc W5) := HAF.out.1
    have HA5 : Hid (Blk W5 wc.heap.size #[.slice none 0 0] 22) := HAF.out.2.2 0 _ rfl
    have HT5 : Hid (Blk W5 (wc.heap.size + 1) #[.string x.l.name, .slice b1 x.l.args.length d1] 32) := HAF.out.2.2 1 _ rfl
    have HF5 : Hid (Blk W5 (wc.heap.size + 2) #[.slice none 0 0] 59) := HAF.out.2.2 2 _ rfl
    have HD5 : Hid (W5.heap[wc.heap.size + 3]? = some (.deferred (some []))) := HAF.out.2.2 3 _ rfl
    have HL5 : Hid (W5.heap[wc.heap.size + 4]? = some (.loop r)) := HAF.out.2.2 4 _ rfl
    clear HAF e0 e1
    obtain ⟨K, hK⟩ : ∃ K : Nat → Prop, K = fun q => q < wc.heap.size + 4 ∧ q ≠ wc.heap.size ∧ q ≠ R4 ∧ q ≠ R5 := ⟨_, rfl⟩
    have HKl : Hid (∀ q, K q ↔ (q < wc.heap.size + 4 ∧ q ≠ wc.heap.size ∧ q ≠ R4 ∧ q ≠ R5)) := fun q => by rw [hK]
    clear hK
    have HD4 : Hid (Ap4 wc.heap.size R4 R5 (wc.heap.size + 4) W5.heap.size) := by have := HRR.out; unfold Hid Ap4; omega
    obtain ⟨rd, hrd⟩ : ∃ rd : Loop, rd = { r with state := .done, pending := some .ret } := ⟨_, rfl⟩
    obtain ⟨rb, hrb⟩ : ∃ rb : Loop, rb = { r with state := .busy } := ⟨_, rfl⟩
    have hok : TkOk (JO U (x, y) same K wc.heap.size R4 R5 (wc.heap.size + 4) r rd W5) K := JO.ok
    have RH : Rnd (wc.heap.size + 4) LpD (JO U (x, y) same K wc.heap.size R4 R5 (wc.heap.size + 4) r rd W5) (dnT [] [] x.l) := by
      have HR1 := hide hr1
      have HR2 := hide hr2
      have HR3 := hide hr3
      have HR4 := hide hr4
      have HR5 := hide hr5
      have HR6 := hide hr6
      clear hr1 hr2 hr3 hr4 hr5 hr6 hok hz8
      intro n pre d args Z f W1 hpfx hj hl hZ
      obtain ⟨dp, hdp, hat⟩ := dnT_at (hpfx.subset (by simp) : d ∈ dnT [] [] x.l)
      rw [List.nil_append] at hdp
      subst hdp
      have hlen : pre.length ≤ 1000000 := by
        have h1 := hpfx.length_le
        have h2 : (dnT [] [] x.l).length ≤ sizeL [x.l] := by
          obtain ⟨s, l⟩ := x.l
          unfold dnT
          have := dnL_len l [] 0 (hdN []) ([] : List Int).tail
          have e : sizeL [(⟨s, l⟩ : Tm)] = 1 + sizeL l := by simp [sizeL]
          rw [e, List.length_cons]
          simp only
          omega
        have h3 := may200 HMX.out.1.1
        rw [List.length_append] at h1
        omega
      clear hpfx
      obtain ⟨v, cs, F, hj⟩ := hj
      obtain ⟨pu, tv, rfl, hp, htv⟩ := hl
      obtain ⟨xa, xc, rfl, hxs⟩ := htv
      obtain ⟨pa, pc, hpu, hpl⟩ := id hp
      subst hpu
      clear hpl
      have HJ := hide hj
      have HP := hide hp
      have HXS := hide hxs
      have HZ := hide hZ
      have HAT := hide hat
      have hL : W1.heap[wc.heap.size + 4]? = some (.loop r) := hj.lp
      have hlL : wc.heap.size + 4 < W1.heap.size := (Array.getElem?_eq_some_iff.1 hL).1
      have HCL : Hid (cs.length ≤ 1000000) := by
        have h1 := congrArg List.length (hj.yes rfl).1
        rw [List.length_map] at h1
        have h2 := List.length_filterMap_le (ovQ U (x, y) same) pre
        unfold Hid
        omega
      clear hp hxs hZ hat hj hlen
      refine yield_two hrb hrd HR5.out HR6.out HR4.out HR3.out hL HR1.out HR2.out rfl ?_
      have hL2 : (W1.alloc (.cells #[.string d.2.name, .slice xa d.2.args.length xc] 32)).heap[wc.heap.size + 4]? = some (.loop r) := (Below.heap_alloc _ _ _ hlL).trans hL
      have hkV : ∀ q, q < W1.heap.size → q ≠ wc.heap.size + 4 → ((W1.alloc (.cells #[.string d.2.name, .slice xa d.2.args.length xc] 32)).putObj (wc.heap.size + 4) (.loop rb)).heap[q]? = W1.heap[q]? := fun q hq hne => (World.putObj_heap_other hne).trans (Below.heap_alloc _ _ _ hq)
      have hzV : ((W1.alloc (.cells #[.string d.2.name, .slice xa d.2.args.length xc] 32)).putObj (wc.heap.size + 4) (.loop rb)).heap.size = W1.heap.size + 1 := by simp
      have hXB : Blk ((W1.alloc (.cells #[.string d.2.name, .slice xa d.2.args.length xc] 32)).putObj (wc.heap.size + 4) (.loop rb)) W1.heap.size #[.string d.2.name, .slice xa d.2.args.length xc] 32 := (World.putObj_heap_other (by omega)).trans (Blk.new W1 _ _)
      have hLV : ((W1.alloc (.cells #[.string d.2.name, .slice xa d.2.args.length xc] 32)).putObj (wc.heap.size + 4) (.loop rb)).heap[wc.heap.size + 4]? = some (.loop rb) := World.putObj_heap_same (by simp; omega)
      have HOSV : Hid (((W1.alloc (.cells #[.string d.2.name, .slice xa d.2.args.length xc] 32)).putObj (wc.heap.size + 4) (.loop rb)).os = W1.os ∧ ((W1.alloc (.cells #[.string d.2.name, .slice xa d.2.args.length xc] 32)).putObj (wc.heap.size + 4) (.loop rb)).tape = W1.tape ∧ ((W1.alloc (.cells #[.string d.2.name, .slice xa d.2.args.length xc] 32)).putObj (wc.heap.size + 4) (.loop rb)).output = W1.output) := ⟨rfl, rfl, rfl⟩
      have HLV := hide hLV
      have HKV := hide hkV
      have HXB := hide hXB
      have HZV := hide hzV
      clear hrb hrd hLV hkV hXB hzV
      gi_wp2
      refine ⟨(Array.getElem?_eq_some_iff.1 hL2).2, ?_⟩
      clear hL2
      generalize ((W1.alloc (.cells #[.string d.2.name, .slice xa d.2.args.length xc] 32)).putObj (wc.heap.size + 4) (.loop rb)) = V at *
      have HZ1 : Hid (W5.heap.size ≤ W1.heap.size) := HJ.out.sz
      have HKb : Hid (∀ {q : Nat} {c : Array Value} {T : Nat}, Blk wc q c T → q ≠ R4 → q ≠ R5 → Blk V q c T) := fun {q c T} h h4 h5 => by
        have hl := h.lt
        have h1 := HZ1.out
        exact (HKV.out q (by omega) (by omega)).trans ((HJ.out.kp q ((HKl.out q).2 ⟨by omega, by omega, h4, h5⟩)).trans ((HB5.out.block q hl).trans h))
      have HKs : Hid (∀ {a : Option Addr} {l : List Tm}, Sl wc (fun q => W.heap.size ≤ q ∧ q ≠ B) a l → Sl V (fun _ => True) a l) := fun {a l} h => ((h.mono (Y := fun q => W.heap.size ≤ q ∧ q < wc.heap.size) fun q h1 h2 => ⟨h1.1, h2⟩).kept (w' := V) fun q hq => by
        have h1 := HZ1.out
        have h2 := HRR.out
        exact (HKV.out q (by omega) (by omega)).trans ((HJ.out.kp q ((HKl.out q).2 ⟨by omega, by omega, by omega, by omega⟩)).trans (HB5.out.block q hq.2))).mono fun _ _ _ => trivial
      have HPV : Hid (Blk V P3 #[.int .i64 (i : Int), .int .i64 (j : Int)] 44) := HKb.out HPc.out (by have := HRR.out; omega) (by have := HRR.out; omega)
      have HBV : Hid (Blk V B #[.string x.l.name, .slice b1 x.l.args.length d1, .string x.r.name, .slice b2 x.r.args.length d2, .string y.l.name, .slice b3 y.l.args.length d3, .string y.r.name, .slice b4 y.r.args.length d4] 54) := HKb.out HBB.out (by have := HRR.out; omega) (by have := HRR.out; omega)
      have HZn : Hid (∀ q, Z q → q < W1.heap.size ∧ q ≠ wc.heap.size + 4) := fun q hq => ⟨(HZ.out q hq).1, fun e => (HZ.out q hq).2 ((HJ.out.ff q).2 (Or.inl e))⟩
      have HPz : Hid (PV V (fun _ => True) (.slice pa d.1.length pc) d.1) := (HP.out.kept fun q hq => HKV.out q (HZn.out q hq).1 (HZn.out q hq).2).mono fun _ _ _ => trivial
      have HXz : Hid (Sl V (fun _ => True) xa d.2.args) := (HXS.out.kept fun q hq => HKV.out q (HZn.out q hq).1 (HZn.out q hq).2).mono fun _ _ _ => trivial
      have HVT : Hid (Tb BT V) := HT.out.heap (by have h1 := HZ1.out; have h2 := HZV.out; have h3 := HRR.out; omega) (fun q hq => by
        have h1 := HZ1.out
        have h2 := HRR.out
        exact (HKV.out q (by omega) (by omega)).trans ((HJ.out.kp q ((HKl.out q).2 ⟨by omega, by omega, by omega, by omega⟩)).trans ((HB5.out.block q (by omega)).trans (HBw.out.block q (by omega)))))
      have HFV : Hid (Frm W1 (wc.heap.size + 4) rb V) := ⟨by have := HZV.out; omega, HOSV.out, HKV.out, HLV.out⟩
      have HPE : Hid (pairsE [⟨d.2, y.l⟩] = 0) := pairs_two (may_at HMX.out.1.1 HAT.out) HMX.out.2.1
      have HQV : Hid (QRow V W5.heap.size (fun _ => False) v cs) := by
        have hlt := HJ.out.ow.lt
        have h1 := HD4.out.2.2.2.1
        have kk : ∀ {a : Option Addr} {l : List Tm}, Sl W1 (fun b => F b ∧ some b ≠ v.ownBlock) a l → Sl V (fun b => False ∨ (W5.heap.size ≤ b ∧ some b ≠ v.ownBlock)) a l := fun hs => (hs.kept fun q hq => HKV.out q (HJ.out.fi q hq.1).2 (by have := (HJ.out.fi q hq.1).1; omega)).mono fun q hq _ => Or.inr ⟨(HJ.out.fi q hq.1).1, hq.2⟩
        exact ⟨ownsRow_at HJ.out.ow fun g hg => HKV.out g (hlt g hg).2 (by have := (hlt g hg).1; omega), fun z hz => ⟨kk (HJ.out.ro z hz).1, kk (HJ.out.ro z hz).2⟩⟩
      have HLN : Hid (((d.1.length : Int) == 0) = decide (d.1 = [])) := by
        unfold Hid
        rw [Bool.eq_iff_iff]
        simp
      have g0 := HPV.out.c0
      have g1 := HPV.out.c1
      have x0 := HXB.out.c0
      have x1 := HXB.out.c1
      have y4 : V.cell? ⟨B, 4, none⟩ = some (.string y.l.name) := HBV.out.cell 4
      have y5 : V.cell? ⟨B, 5, none⟩ = some (.slice b3 y.l.args.length d3) := HBV.out.cell 5
      have hsm := HSM.out
      clear hL hlL
      obtain ⟨np, hnp⟩ : ∃ np, np = d.1.length := ⟨_, rfl⟩
      rw [← hnp] at HLN HPz ⊢
      clear hnp HP
      have hln := HLN.out
      by_cases hde : d.1 = []
      · have hln2 : ((np : Int) == 0) = true := by rw [hln]; simp [hde]
        clear hln HLN
        have hse : same = true ∨ same = false := by cases same <;> simp
        rcases hse with hse | hse
        · have HSE := hide hse
          rw [hse] at hsm
          clear hse
          gi_wp2
          refine ⟨trivial, ?_⟩
          gi_wp2
          exact jo_keep (d := d) HD4.out HJ.out HFV.out.1 HFV.out.2.1 HFV.out.2.2.1 HFV.out.2.2.2 (by have e1 := HSE.out; unfold ovS; simp [hde, e1])
        · have HSE := hide hse
          rw [hse] at hsm
          clear hse
          have HOV0 : Hid ((decide (d.1 = []) && same) = false) := by have e1 := HSE.out; unfold Hid; simp [e1]
          gi_wp2
          refine ⟨trivial, (fun h => by simp [Fence.wide] at h), ?_⟩
          refine (CallsIn.inRound _ (callsIn_wide.2 (isLike_any d.2 y.l xa b3 xc d3 V))).mono ?_
          rintro e w9 ⟨rfl, hb9⟩
          have HF9 := hide (HFV.out.later hb9)
          have HB9 := hide hb9
          have X9 := hide (HXB.out.below hb9 HXB.out.lt)
          have Y9 := hide (HBV.out.below hb9 HBV.out.lt)
          clear hb9 g0 g1 x0 x1 y4 y5
          cases hlk : likeB d.2 y.l with
          | false =>
            gi_wp2
            exact jo_keep HD4.out HJ.out HF9.out.1 HF9.out.2.1 HF9.out.2.2.1 HF9.out.2.2.2 (by have e1 := HOV0.out; unfold ovS; simp only [e1, hlk, Bool.not_false, Bool.or_true, Bool.true_or, Bool.false_or])
          | true =>
            have HLK := hide hlk
            have x0 := X9.out.c0
            have x1 := X9.out.c1
            have y4 : w9.cell? ⟨B, 4, none⟩ = some (.string y.l.name) := Y9.out.cell 4
            have y5 : w9.cell? ⟨B, 5, none⟩ = some (.slice b3 y.l.args.length d3) := Y9.out.cell 5
            clear hlk
            gi_wp2
            have HQ10 : Hid (QV (w9.alloc (.cells #[.string d.2.name, .slice xa d.2.args.length xc, .string y.l.name, .slice b3 y.l.args.length d3] 34)) (fun _ => True) (.slice (some ⟨w9.heap.size, 0, none⟩) 1 1) [⟨d.2, y.l⟩]) := qv_one (Blk.new w9 _ _) ((HXz.out.later HB9.out).later ((Below.refl _ _).alloc (Nat.le_refl _) _)) (((HKs.out HT3.out).later HB9.out).later ((Below.refl _ _).alloc (Nat.le_refl _) _))
            have k10 : Below w9.heap.size w9 (w9.alloc (.cells #[.string d.2.name, .slice xa d.2.args.length xc, .string y.l.name, .slice b3 y.l.args.length d3] 34)) := (Below.refl _ _).alloc (Nat.le_refl _) _
            generalize (w9.alloc (.cells #[.string d.2.name, .slice xa d.2.args.length xc, .string y.l.name, .slice b3 y.l.args.length d3] 34)) = w10 at *
            obtain ⟨gq, hgq⟩ := HUU.out _ HPE.out
            refine ⟨trivial, (fun h => by simp [Fence.wide] at h), ?_⟩
            refine (CallsIn.inRound _ (callsIn_wide.2 (unify_any [⟨d.2, y.l⟩] (U [⟨d.2, y.l⟩]) gq (fun _ => hgq) _ w10 (fun _ => True) HQ10.out))).mono ?_
            rintro e w11 hun
            clear hgq x0 x1 y4 y5
            rcases hun with ⟨hne, -, -⟩ | ⟨-, hb11, hso⟩
            · exact absurd HPE.out hne
            have k11 : Below V.heap.size V w11 := HB9.out.trans ((k10.trans (hb11.mono k10.size)).mono HB9.out.size)
            have HK11 := hide k11
            have HF11 := hide (HFV.out.later k11)
            have Y11 := hide (HBV.out.below k11 HBV.out.lt)
            have B4 := hide (HF11.out.blk HJ.out.b4 HD4.out.2.2.2.2.2.2.2.2.1)
            have B5 := hide (HF11.out.blk HJ.out.b5 HD4.out.2.2.2.2.2.2.2.2.2)
            have HU0 : Hid (ovS U (x, y) same d = (decide (eUn (U [⟨d.2, y.l⟩]) ≠ 0) && decide (eUn (U [⟨d.2, y.l⟩]) ≠ 8))) := by have e1 := HOV0.out; have e2 := HLK.out; unfold Hid ovS; simp only [e1, e2, Bool.not_true, Bool.false_or]
            have h4c := B4.out.c0
            have h5c := B5.out.c0
            have hn45 := HD4.out.2.2.2.2.2.2.2.1
            have hn54 := Ne.symm hn45
            have h4f := B4.out.frozen 0
            have h5f := B5.out.frozen 0
            have h4l := B4.out.lt
            have h5l := B5.out.lt
            clear k11 hb11 k10
            rcases hso with ⟨hg, rfl⟩ | ⟨hg, hr, rfl⟩ | ⟨hg, hr, us, rfl, hbv⟩
            · have HE8 : Hid (eUn (U [⟨d.2, y.l⟩]) = 8) := by unfold Hid eUn; rw [if_pos hg]
              clear hg
              gi_wp2
              exact jo_full2 HD4.out HJ.out HF11.out ⟨by rw [HU0.out, HE8.out]; rfl, Or.inl HE8.out⟩
            · have HEE : Hid (eUn (U [⟨d.2, y.l⟩]) = (U [⟨d.2, y.l⟩]).1) := by unfold Hid eUn; rw [if_neg (by simp [hg])]
              by_cases h8 : (U [⟨d.2, y.l⟩]).1 = 8
              · have HE8 : Hid (eUn (U [⟨d.2, y.l⟩]) = 8) := HEE.out.trans h8
                rw [h8]
                clear hg hr h8 HEE
                gi_wp2
                exact jo_full2 HD4.out HJ.out HF11.out ⟨by rw [HU0.out, HE8.out]; rfl, Or.inl HE8.out⟩
              · have HSK : Hid (ovS U (x, y) same d = true) := by unfold Hid; rw [HU0.out, HEE.out]; simp [hr, h8]
                generalize (U [⟨d.2, y.l⟩]).1 = er at *
                have hr2 : (er == 8) = false := by simp [h8]
                have hr3 : (er != 0) = true := by simp [hr]
                clear hg HEE
                gi_wp2
                exact jo_keep HD4.out HJ.out HF11.out.1 HF11.out.2.1 HF11.out.2.2.1 HF11.out.2.2.2 HSK.out
            · have HEE : Hid (eUn (U [⟨d.2, y.l⟩]) = 0) := by unfold Hid eUn; rw [if_neg (by simp [hg])]; exact hr
              have HNS : Hid (ovS U (x, y) same d = false) := by unfold Hid; rw [HU0.out, HEE.out]; rfl
              have HBVu := hide hbv
              obtain ⟨sa, sc, hus, -⟩ := id hbv
              subst hus
              have HR0 := hide hr
              clear hg hr hbv
              have z0 := Y11.out.c0
              have z1 := Y11.out.c1
              have z2 := Y11.out.c2
              have z3 := Y11.out.c3
              have z4 : w11.cell? ⟨B, 4, none⟩ = some (.string y.l.name) := Y11.out.cell 4
              have z5 : w11.cell? ⟨B, 5, none⟩ = some (.slice b3 y.l.args.length d3) := Y11.out.cell 5
              have z6 : w11.cell? ⟨B, 6, none⟩ = some (.string y.r.name) := Y11.out.cell 6
              have z7 : w11.cell? ⟨B, 7, none⟩ = some (.slice b4 y.r.args.length d4) := Y11.out.cell 7
              clear h4c h5c h4f h5f h4l h5l
              gi_wp2
              refine ⟨trivial, (fun h => by simp [Fence.wide] at h), ?_⟩
              refine (CallsIn.inRound _ (callsIn_wide.2 (pairAt_any BT (U [⟨d.2, y.l⟩]).2 (HUO.out _ HPE.out HR0.out) x y d.1 b1 b2 b3 b4 d1 d2 d3 d4 _ _ w11 (fun _ => True) ((HKs.out HT1.out).later HK11.out) ((HKs.out HT2.out).later HK11.out) ((HKs.out HT3.out).later HK11.out) ((HKs.out HT4.out).later HK11.out) (HPz.out.later HK11.out) (HBVu.out.mono fun _ _ _ => trivial) (by rw [HAT.out]; rfl) (by have := may200 HMX.out.1.1; omega) (HVT.out.heap HK11.out.size (fun q hq => HK11.out.block q (by have h1 := HZ1.out; have h2 := HZV.out; have h3 := HRR.out; omega))) (by have h0 := HK11.out.size; have h1 := HZ1.out; have h2 := HZV.out; have h3 := HRR.out; omega)))).mono ?_
              rintro e w12 ⟨hb12, hcase⟩
              have HK12L := hide hb12.size
              have HK12 := hide (HK11.out.trans (hb12.mono HK11.out.size))
              have HF12 := hide (HFV.out.later HK12.out)
              clear hb12 z0 z1 z2 z3 z4 z5 z6 z7
              rcases hcase with ⟨hfl, rfl⟩ | ⟨hs1, hs2, y2, q1, e1, q2, e2, hy2, rfl, hn1, hn2⟩
              · have HFL := hide hfl
                clear hfl
                have HFa : Hid (∀ o, Frm W1 (wc.heap.size + 4) rb (w12.alloc o)) := fun o => HF12.out.alloc o
                have h4c : ∀ o, (w12.alloc o).cell? ⟨R4, 0, none⟩ = some (.slice none 0 0) := fun o => ((HFa.out o).blk HJ.out.b4 HD4.out.2.2.2.2.2.2.2.2.1).cell 0
                have h5c : ∀ o, (w12.alloc o).cell? ⟨R5, 0, none⟩ = some (.int .i64 0) := fun o => ((HFa.out o).blk HJ.out.b5 HD4.out.2.2.2.2.2.2.2.2.2).cell 0
                have h4f : ∀ o, (w12.alloc o).frozen? ⟨R4, 0, none⟩ = false := fun o => ((HFa.out o).blk HJ.out.b4 HD4.out.2.2.2.2.2.2.2.2.1).frozen 0
                have h5f : ∀ o, (w12.alloc o).frozen? ⟨R5, 0, none⟩ = false := fun o => ((HFa.out o).blk HJ.out.b5 HD4.out.2.2.2.2.2.2.2.2.2).frozen 0
                have h4l : R4 < w12.heap.size := (HF12.out.blk HJ.out.b4 HD4.out.2.2.2.2.2.2.2.2.1).lt
                have h5l : R5 < w12.heap.size := (HF12.out.blk HJ.out.b5 HD4.out.2.2.2.2.2.2.2.2.2).lt
                have k4c := (HF12.out.blk HJ.out.b4 HD4.out.2.2.2.2.2.2.2.2.1).cell 0
                have k5c : w12.cell? ⟨R5, 0, none⟩ = some (.int .i64 0) := (HF12.out.blk HJ.out.b5 HD4.out.2.2.2.2.2.2.2.2.2).cell 0
                have k4f := (HF12.out.blk HJ.out.b4 HD4.out.2.2.2.2.2.2.2.2.1).frozen 0
                have k5f := (HF12.out.blk HJ.out.b5 HD4.out.2.2.2.2.2.2.2.2.2).frozen 0
                gi_wp2
                first | exact jo_full3 HD4.out HJ.out HF12.out _ ⟨HNS.out, Or.inr HFL.out⟩ | exact jo_full2 HD4.out HJ.out (HFa.out _) ⟨HNS.out, Or.inr HFL.out⟩
              · have HN1 := hide hn1
                have HN2 := hide hn2
                have HSS := hide (And.intro hs1 hs2)
                have HY2 := hide hy2
                clear hn1 hn2 hs1 hs2 hy2
                obtain ⟨va, vc, hv⟩ := own_form HQV.out.own
                subst hv
                have hz13 : (w12.alloc (.cells #[.string y2.l.name, .slice q1 y2.l.args.length e1, .string y2.r.name, .slice q2 y2.r.args.length e2] 34)).heap.size = w12.heap.size + 1 := by simp
                have k13 : Below w12.heap.size w12 (w12.alloc (.cells #[.string y2.l.name, .slice q1 y2.l.args.length e1, .string y2.r.name, .slice q2 y2.r.args.length e2] 34)) := (Below.refl _ _).alloc (Nat.le_refl _) _
                have P13 := hide (Blk.new w12 #[.string y2.l.name, .slice q1 y2.l.args.length e1, .string y2.r.name, .slice q2 y2.r.args.length e2] 34)
                have HF13 := hide (HF12.out.later k13)
                have HK13 := hide (HK12.out.trans (k13.mono HK12.out.size))
                have HM1 := hide (HN1.out.later k13)
                have HM2 := hide (HN2.out.later k13)
                have HZ12 : Hid (V.heap.size ≤ w11.heap.size ∧ w11.heap.size ≤ w12.heap.size) := ⟨HK11.out.size, HK12L.out⟩
                generalize hw13 : w12.alloc (.cells #[.string y2.l.name, .slice q1 y2.l.args.length e1, .string y2.r.name, .slice q2 y2.r.args.length e2] 34) = w13 at *
                have A13 := hide (HF13.out.blk HJ.out.ba HD4.out.2.2.2.2.2.2.1)
                obtain ⟨v2, w3, hrun, hq3, hgr, hv2⟩ := pairs_append HQV.out (by have h1 := HZ1.out; have h2 := HZV.out; omega) (fun _ h => h.elim) HK13.out (y2, (q1, e1), (q2, e2)) ⟨HM1.out.mono fun b hb _ => Or.inr (by have := HZ12.out; omega), HM2.out.mono fun b hb _ => Or.inr (by have := HZ12.out; omega)⟩ HCL.out (w12.heap.size + 1) hz13
                obtain ⟨va2, vc2, hvv⟩ := own_form hq3.own
                rw [List.length_append, List.length_singleton] at hvv
                subst hvv
                simp only at hrun hgr
                have hlv := HJ.out.ow.lt
                have gk : ∀ b, b < w13.heap.size → (Value.slice va cs.length vc).ownBlock ≠ some b → w3.heap[b]? = w13.heap[b]? := fun b hb hne => (hgr.block b (by simp; omega) (fun e => hne e.symm)).trans (Below.heap_alloc _ _ _ hb)
                have hno : ∀ b, b < W5.heap.size → (Value.slice va cs.length vc).ownBlock ≠ some b := fun b hb e => by have := (hlv b e).1; omega
                have hD := HD4.out
                have hzw : W1.heap.size ≤ w13.heap.size := HF13.out.1
                have A3 : Blk w3 wc.heap.size #[.slice va cs.length vc] 22 := (gk _ A13.out.lt (hno _ hD.1)).trans A13.out
                have HFIN : Hid ((w3.setCell ⟨wc.heap.size, 0, none⟩ (.slice va2 (cs.length + 1) vc2)).heap[wc.heap.size + 4]? = some (.loop rb) ∧ ∃ f', JO U (x, y) same K wc.heap.size R4 R5 (wc.heap.size + 4) r rd W5 (pre ++ [d]) true f' ((w3.setCell ⟨wc.heap.size, 0, none⟩ (.slice va2 (cs.length + 1) vc2)).putObj (wc.heap.size + 4) (.loop r)) ∧ ExQ f W1 ((w3.setCell ⟨wc.heap.size, 0, none⟩ (.slice va2 (cs.length + 1) vc2)).putObj (wc.heap.size + 4) (.loop r)) ∧ ∀ b, f' b → f b ∨ W1.heap.size ≤ b) := by
                  have so : ∀ b, b ≠ wc.heap.size → (w3.setCell ⟨wc.heap.size, 0, none⟩ (.slice va2 (cs.length + 1) vc2)).heap[b]? = w3.heap[b]? := fun b hb => Below.heap_setCell _ _ _ _ (by simpa using hb)
                  have hz1 := HZ1.out
                  have hzv := HZV.out
                  have hz12 := HZ12.out
                  have hzg : w13.heap.size ≤ w3.heap.size := by have := hgr.size; simp at this; omega
                  have nw : ∀ {a : Option Addr} {l : List Tm}, Sl w13 (fun b => w11.heap.size ≤ b) a l → Sl (w3.setCell ⟨wc.heap.size, 0, none⟩ (.slice va2 (cs.length + 1) vc2)) (fun b => W1.heap.size ≤ b ∧ some b ≠ (Value.slice va2 (cs.length + 1) vc2).ownBlock) a l := fun h => ((h.mono (Y := fun b => w11.heap.size ≤ b ∧ b < w13.heap.size) fun b h1 h2 => ⟨h1, h2⟩).kept fun b hb => (so b (by omega)).trans (gk b hb.2 (fun e => by have := (hlv b e).2; omega))).mono fun b hb _ => ⟨by omega, fun e => by
                    rcases hv2 b e.symm with q | q
                    · have := (hlv b q).2; omega
                    · omega⟩
                  refine jo_pair (V := w3.setCell ⟨wc.heap.size, 0, none⟩ (.slice va2 (cs.length + 1) vc2)) hD HJ.out (by simp [World.setCell]; omega) ⟨hgr.os.trans HF13.out.2.1.1, hgr.tape.trans HF13.out.2.1.2.1, hgr.output.trans HF13.out.2.1.2.2⟩ (fun q h1 h2 h3 h4 => (so q h3).trans ((gk q (by omega) (fun e => h4 e.symm)).trans (HF13.out.2.2.1 q h1 h2))) ((so _ (by omega)).trans ((gk _ (by omega) (hno _ hD.2.2.2.1)).trans HF13.out.2.2.2)) (Blk.set1R A3) (y2, (q1, e1), (q2, e2)) (ownsRow_at (by rw [List.length_append, List.length_singleton]; have h := hq3.own; rw [List.length_append, List.length_singleton] at h; exact h) fun g hg => so g (by have := (hq3.own.lt g hg).1; omega)) (fun k hk => by
                    rcases hv2 k hk with q | q
                    · exact Or.inl q
                    · exact Or.inr (by omega)) ⟨nw HM1.out, nw HM2.out⟩ HNS.out HY2.out (fun hf => ?_)
                  rcases hf.2 with q | q | q
                  · have h1 := HEE.out
                    have h2 : eUn (U [⟨d.2, y.l⟩]) = 8 := q
                    omega
                  · have h1 := HSS.out.1
                    have h2 : 2000 < sizeL [(PaQ (U [⟨d.2, y.l⟩]).2 x y d.1).l] := q
                    omega
                  · have h1 := HSS.out.2
                    have h2 : 2000 < sizeL [(PaQ (U [⟨d.2, y.l⟩]).2 x y d.1).r] := q
                    omega
                have a0 := A13.out.c0
                have a3 := A3.c0
                have af := A3.frozen 0
                have p0 := P13.out.c0
                have p1 := P13.out.c1
                have p2 := P13.out.c2
                have p3 := P13.out.c3
                have a1 : w12.cell? ⟨wc.heap.size, 0, none⟩ = some (.slice va cs.length vc) := (HF12.out.blk HJ.out.ba HD4.out.2.2.2.2.2.2.1).cell 0
                have al : wc.heap.size < w12.heap.size := (HF12.out.blk HJ.out.ba HD4.out.2.2.2.2.2.2.1).lt
                clear hq3 hgr hv2 hlv gk hno hD hzw A3 k13
                rw [← hw13] at a0 p0 p1 p2 p3 hrun
                have HRUN := hide hrun
                clear hw13 hz13 hrun
                gi_wp2_with (gi_at_builtin; refine wpListIn_append_eqO rfl _ _ _ _ rfl rfl rfl HRUN.out ?_)
                exact HFIN.out
      · have hln2 : ((np : Int) == 0) = false := by rw [hln]; simp [hde]
        clear hln HLN
        have HOV0 : Hid ((decide (d.1 = []) && same) = false) := by unfold Hid; simp [hde]
        gi_wp2
        refine ⟨trivial, (fun h => by simp [Fence.wide] at h), ?_⟩
        refine (CallsIn.inRound _ (callsIn_wide.2 (isLike_any d.2 y.l xa b3 xc d3 V))).mono ?_
        rintro e w9 ⟨rfl, hb9⟩
        have HF9 := hide (HFV.out.later hb9)
        have HB9 := hide hb9
        have X9 := hide (HXB.out.below hb9 HXB.out.lt)
        have Y9 := hide (HBV.out.below hb9 HBV.out.lt)
        clear hb9 g0 g1 x0 x1 y4 y5
        cases hlk : likeB d.2 y.l with
        | false =>
          gi_wp2
          exact jo_keep HD4.out HJ.out HF9.out.1 HF9.out.2.1 HF9.out.2.2.1 HF9.out.2.2.2 (by have e1 := HOV0.out; unfold ovS; simp only [e1, hlk, Bool.not_false, Bool.or_true, Bool.true_or, Bool.false_or])
        | true =>
          have HLK := hide hlk
          have x0 := X9.out.c0
          have x1 := X9.out.c1
          have y4 : w9.cell? ⟨B, 4, none⟩ = some (.string y.l.name) := Y9.out.cell 4
          have y5 : w9.cell? ⟨B, 5, none⟩ = some (.slice b3 y.l.args.length d3) := Y9.out.cell 5
          clear hlk
          gi_wp2
          have HQ10 : Hid (QV (w9.alloc (.cells #[.string d.2.name, .slice xa d.2.args.length xc, .string y.l.name, .slice b3 y.l.args.length d3] 34)) (fun _ => True) (.slice (some ⟨w9.heap.size, 0, none⟩) 1 1) [⟨d.2, y.l⟩]) := qv_one (Blk.new w9 _ _) ((HXz.out.later HB9.out).later ((Below.refl _ _).alloc (Nat.le_refl _) _)) (((HKs.out HT3.out).later HB9.out).later ((Below.refl _ _).alloc (Nat.le_refl _) _))
          have k10 : Below w9.heap.size w9 (w9.alloc (.cells #[.string d.2.name, .slice xa d.2.args.length xc, .string y.l.name, .slice b3 y.l.args.length d3] 34)) := (Below.refl _ _).alloc (Nat.le_refl _) _
          generalize (w9.alloc (.cells #[.string d.2.name, .slice xa d.2.args.length xc, .string y.l.name, .slice b3 y.l.args.length d3] 34)) = w10 at *
          obtain ⟨gq, hgq⟩ := HUU.out _ HPE.out
          refine ⟨trivial, (fun h => by simp [Fence.wide] at h), ?_⟩
          refine (CallsIn.inRound _ (callsIn_wide.2 (unify_any [⟨d.2, y.l⟩] (U [⟨d.2, y.l⟩]) gq (fun _ => hgq) _ w10 (fun _ => True) HQ10.out))).mono ?_
          rintro e w11 hun
          clear hgq x0 x1 y4 y5
          rcases hun with ⟨hne, -, -⟩ | ⟨-, hb11, hso⟩
          · exact absurd HPE.out hne
          have k11 : Below V.heap.size V w11 := HB9.out.trans ((k10.trans (hb11.mono k10.size)).mono HB9.out.size)
          have HK11 := hide k11
          have HF11 := hide (HFV.out.later k11)
          have Y11 := hide (HBV.out.below k11 HBV.out.lt)
          have B4 := hide (HF11.out.blk HJ.out.b4 HD4.out.2.2.2.2.2.2.2.2.1)
          have B5 := hide (HF11.out.blk HJ.out.b5 HD4.out.2.2.2.2.2.2.2.2.2)
          have HU0 : Hid (ovS U (x, y) same d = (decide (eUn (U [⟨d.2, y.l⟩]) ≠ 0) && decide (eUn (U [⟨d.2, y.l⟩]) ≠ 8))) := by have e1 := HOV0.out; have e2 := HLK.out; unfold Hid ovS; simp only [e1, e2, Bool.not_true, Bool.false_or]
          have h4c := B4.out.c0
          have h5c := B5.out.c0
          have hn45 := HD4.out.2.2.2.2.2.2.2.1
          have hn54 := Ne.symm hn45
          have h4f := B4.out.frozen 0
          have h5f := B5.out.frozen 0
          have h4l := B4.out.lt
          have h5l := B5.out.lt
          clear k11 hb11 k10
          rcases hso with ⟨hg, rfl⟩ | ⟨hg, hr, rfl⟩ | ⟨hg, hr, us, rfl, hbv⟩
          · have HE8 : Hid (eUn (U [⟨d.2, y.l⟩]) = 8) := by unfold Hid eUn; rw [if_pos hg]
            clear hg
            gi_wp2
            exact jo_full2 HD4.out HJ.out HF11.out ⟨by rw [HU0.out, HE8.out]; rfl, Or.inl HE8.out⟩
          · have HEE : Hid (eUn (U [⟨d.2, y.l⟩]) = (U [⟨d.2, y.l⟩]).1) := by unfold Hid eUn; rw [if_neg (by simp [hg])]
            by_cases h8 : (U [⟨d.2, y.l⟩]).1 = 8
            · have HE8 : Hid (eUn (U [⟨d.2, y.l⟩]) = 8) := HEE.out.trans h8
              rw [h8]
              clear hg hr h8 HEE
              gi_wp2
              exact jo_full2 HD4.out HJ.out HF11.out ⟨by rw [HU0.out, HE8.out]; rfl, Or.inl HE8.out⟩
            · have HSK : Hid (ovS U (x, y) same d = true) := by unfold Hid; rw [HU0.out, HEE.out]; simp [hr, h8]
              generalize (U [⟨d.2, y.l⟩]).1 = er at *
              have hr2 : (er == 8) = false := by simp [h8]
              have hr3 : (er != 0) = true := by simp [hr]
              clear hg HEE
              gi_wp2
              exact jo_keep HD4.out HJ.out HF11.out.1 HF11.out.2.1 HF11.out.2.2.1 HF11.out.2.2.2 HSK.out
          · have HEE : Hid (eUn (U [⟨d.2, y.l⟩]) = 0) := by unfold Hid eUn; rw [if_neg (by simp [hg])]; exact hr
            have HNS : Hid (ovS U (x, y) same d = false) := by unfold Hid; rw [HU0.out, HEE.out]; rfl
            have HBVu := hide hbv
            obtain ⟨sa, sc, hus, -⟩ := id hbv
            subst hus
            have HR0 := hide hr
            clear hg hr hbv
            have z0 := Y11.out.c0
            have z1 := Y11.out.c1
            have z2 := Y11.out.c2
            have z3 := Y11.out.c3
            have z4 : w11.cell? ⟨B, 4, none⟩ = some (.string y.l.name) := Y11.out.cell 4
            have z5 : w11.cell? ⟨B, 5, none⟩ = some (.slice b3 y.l.args.length d3) := Y11.out.cell 5
            have z6 : w11.cell? ⟨B, 6, none⟩ = some (.string y.r.name) := Y11.out.cell 6
            have z7 : w11.cell? ⟨B, 7, none⟩ = some (.slice b4 y.r.args.length d4) := Y11.out.cell 7
            clear h4c h5c h4f h5f h4l h5l
            gi_wp2
            refine ⟨trivial, (fun h => by simp [Fence.wide] at h), ?_⟩
            refine (CallsIn.inRound _ (callsIn_wide.2 (pairAt_any BT (U [⟨d.2, y.l⟩]).2 (HUO.out _ HPE.out HR0.out) x y d.1 b1 b2 b3 b4 d1 d2 d3 d4 _ _ w11 (fun _ => True) ((HKs.out HT1.out).later HK11.out) ((HKs.out HT2.out).later HK11.out) ((HKs.out HT3.out).later HK11.out) ((HKs.out HT4.out).later HK11.out) (HPz.out.later HK11.out) (HBVu.out.mono fun _ _ _ => trivial) (by rw [HAT.out]; rfl) (by have := may200 HMX.out.1.1; omega) (HVT.out.heap HK11.out.size (fun q hq => HK11.out.block q (by have h1 := HZ1.out; have h2 := HZV.out; have h3 := HRR.out; omega))) (by have h0 := HK11.out.size; have h1 := HZ1.out; have h2 := HZV.out; have h3 := HRR.out; omega)))).mono ?_
            rintro e w12 ⟨hb12, hcase⟩
            have HK12L := hide hb12.size
            have HK12 := hide (HK11.out.trans (hb12.mono HK11.out.size))
            have HF12 := hide (HFV.out.later HK12.out)
            clear hb12 z0 z1 z2 z3 z4 z5 z6 z7
            rcases hcase with ⟨hfl, rfl⟩ | ⟨hs1, hs2, y2, q1, e1, q2, e2, hy2, rfl, hn1, hn2⟩
            · have HFL := hide hfl
              clear hfl
              have HFa : Hid (∀ o, Frm W1 (wc.heap.size + 4) rb (w12.alloc o)) := fun o => HF12.out.alloc o
              have h4c : ∀ o, (w12.alloc o).cell? ⟨R4, 0, none⟩ = some (.slice none 0 0) := fun o => ((HFa.out o).blk HJ.out.b4 HD4.out.2.2.2.2.2.2.2.2.1).cell 0
              have h5c : ∀ o, (w12.alloc o).cell? ⟨R5, 0, none⟩ = some (.int .i64 0) := fun o => ((HFa.out o).blk HJ.out.b5 HD4.out.2.2.2.2.2.2.2.2.2).cell 0
              have h4f : ∀ o, (w12.alloc o).frozen? ⟨R4, 0, none⟩ = false := fun o => ((HFa.out o).blk HJ.out.b4 HD4.out.2.2.2.2.2.2.2.2.1).frozen 0
              have h5f : ∀ o, (w12.alloc o).frozen? ⟨R5, 0, none⟩ = false := fun o => ((HFa.out o).blk HJ.out.b5 HD4.out.2.2.2.2.2.2.2.2.2).frozen 0
              have h4l : R4 < w12.heap.size := (HF12.out.blk HJ.out.b4 HD4.out.2.2.2.2.2.2.2.2.1).lt
              have h5l : R5 < w12.heap.size := (HF12.out.blk HJ.out.b5 HD4.out.2.2.2.2.2.2.2.2.2).lt
              have k4c := (HF12.out.blk HJ.out.b4 HD4.out.2.2.2.2.2.2.2.2.1).cell 0
              have k5c : w12.cell? ⟨R5, 0, none⟩ = some (.int .i64 0) := (HF12.out.blk HJ.out.b5 HD4.out.2.2.2.2.2.2.2.2.2).cell 0
              have k4f := (HF12.out.blk HJ.out.b4 HD4.out.2.2.2.2.2.2.2.2.1).frozen 0
              have k5f := (HF12.out.blk HJ.out.b5 HD4.out.2.2.2.2.2.2.2.2.2).frozen 0
              gi_wp2
              first | exact jo_full3 HD4.out HJ.out HF12.out _ ⟨HNS.out, Or.inr HFL.out⟩ | exact jo_full2 HD4.out HJ.out (HFa.out _) ⟨HNS.out, Or.inr HFL.out⟩
            · have HN1 := hide hn1
              have HN2 := hide hn2
              have HSS := hide (And.intro hs1 hs2)
              have HY2 := hide hy2
              clear hn1 hn2 hs1 hs2 hy2
              obtain ⟨va, vc, hv⟩ := own_form HQV.out.own
              subst hv
              have hz13 : (w12.alloc (.cells #[.string y2.l.name, .slice q1 y2.l.args.length e1, .string y2.r.name, .slice q2 y2.r.args.length e2] 34)).heap.size = w12.heap.size + 1 := by simp
              have k13 : Below w12.heap.size w12 (w12.alloc (.cells #[.string y2.l.name, .slice q1 y2.l.args.length e1, .string y2.r.name, .slice q2 y2.r.args.length e2] 34)) := (Below.refl _ _).alloc (Nat.le_refl _) _
              have P13 := hide (Blk.new w12 #[.string y2.l.name, .slice q1 y2.l.args.length e1, .string y2.r.name, .slice q2 y2.r.args.length e2] 34)
              have HF13 := hide (HF12.out.later k13)
              have HK13 := hide (HK12.out.trans (k13.mono HK12.out.size))
              have HM1 := hide (HN1.out.later k13)
              have HM2 := hide (HN2.out.later k13)
              have HZ12 : Hid (V.heap.size ≤ w11.heap.size ∧ w11.heap.size ≤ w12.heap.size) := ⟨HK11.out.size, HK12L.out⟩
              generalize hw13 : w12.alloc (.cells #[.string y2.l.name, .slice q1 y2.l.args.length e1, .string y2.r.name, .slice q2 y2.r.args.length e2] 34) = w13 at *
              have A13 := hide (HF13.out.blk HJ.out.ba HD4.out.2.2.2.2.2.2.1)
              obtain ⟨v2, w3, hrun, hq3, hgr, hv2⟩ := pairs_append HQV.out (by have h1 := HZ1.out; have h2 := HZV.out; omega) (fun _ h => h.elim) HK13.out (y2, (q1, e1), (q2, e2)) ⟨HM1.out.mono fun b hb _ => Or.inr (by have := HZ12.out; omega), HM2.out.mono fun b hb _ => Or.inr (by have := HZ12.out; omega)⟩ HCL.out (w12.heap.size + 1) hz13
              obtain ⟨va2, vc2, hvv⟩ := own_form hq3.own
              rw [List.length_append, List.length_singleton] at hvv
              subst hvv
              simp only at hrun hgr
              have hlv := HJ.out.ow.lt
              have gk : ∀ b, b < w13.heap.size → (Value.slice va cs.length vc).ownBlock ≠ some b → w3.heap[b]? = w13.heap[b]? := fun b hb hne => (hgr.block b (by simp; omega) (fun e => hne e.symm)).trans (Below.heap_alloc _ _ _ hb)
              have hno : ∀ b, b < W5.heap.size → (Value.slice va cs.length vc).ownBlock ≠ some b := fun b hb e => by have := (hlv b e).1; omega
              have hD := HD4.out
              have hzw : W1.heap.size ≤ w13.heap.size := HF13.out.1
              have A3 : Blk w3 wc.heap.size #[.slice va cs.length vc] 22 := (gk _ A13.out.lt (hno _ hD.1)).trans A13.out
              have HFIN : Hid ((w3.setCell ⟨wc.heap.size, 0, none⟩ (.slice va2 (cs.length + 1) vc2)).heap[wc.heap.size + 4]? = some (.loop rb) ∧ ∃ f', JO U (x, y) same K wc.heap.size R4 R5 (wc.heap.size + 4) r rd W5 (pre ++ [d]) true f' ((w3.setCell ⟨wc.heap.size, 0, none⟩ (.slice va2 (cs.length + 1) vc2)).putObj (wc.heap.size + 4) (.loop r)) ∧ ExQ f W1 ((w3.setCell ⟨wc.heap.size, 0, none⟩ (.slice va2 (cs.length + 1) vc2)).putObj (wc.heap.size + 4) (.loop r)) ∧ ∀ b, f' b → f b ∨ W1.heap.size ≤ b) := by
                have so : ∀ b, b ≠ wc.heap.size → (w3.setCell ⟨wc.heap.size, 0, none⟩ (.slice va2 (cs.length + 1) vc2)).heap[b]? = w3.heap[b]? := fun b hb => Below.heap_setCell _ _ _ _ (by simpa using hb)
                have hz1 := HZ1.out
                have hzv := HZV.out
                have hz12 := HZ12.out
                have hzg : w13.heap.size ≤ w3.heap.size := by have := hgr.size; simp at this; omega
                have nw : ∀ {a : Option Addr} {l : List Tm}, Sl w13 (fun b => w11.heap.size ≤ b) a l → Sl (w3.setCell ⟨wc.heap.size, 0, none⟩ (.slice va2 (cs.length + 1) vc2)) (fun b => W1.heap.size ≤ b ∧ some b ≠ (Value.slice va2 (cs.length + 1) vc2).ownBlock) a l := fun h => ((h.mono (Y := fun b => w11.heap.size ≤ b ∧ b < w13.heap.size) fun b h1 h2 => ⟨h1, h2⟩).kept fun b hb => (so b (by omega)).trans (gk b hb.2 (fun e => by have := (hlv b e).2; omega))).mono fun b hb _ => ⟨by omega, fun e => by
                  rcases hv2 b e.symm with q | q
                  · have := (hlv b q).2; omega
                  · omega⟩
                refine jo_pair (V := w3.setCell ⟨wc.heap.size, 0, none⟩ (.slice va2 (cs.length + 1) vc2)) hD HJ.out (by simp [World.setCell]; omega) ⟨hgr.os.trans HF13.out.2.1.1, hgr.tape.trans HF13.out.2.1.2.1, hgr.output.trans HF13.out.2.1.2.2⟩ (fun q h1 h2 h3 h4 => (so q h3).trans ((gk q (by omega) (fun e => h4 e.symm)).trans (HF13.out.2.2.1 q h1 h2))) ((so _ (by omega)).trans ((gk _ (by omega) (hno _ hD.2.2.2.1)).trans HF13.out.2.2.2)) (Blk.set1R A3) (y2, (q1, e1), (q2, e2)) (ownsRow_at (by rw [List.length_append, List.length_singleton]; have h := hq3.own; rw [List.length_append, List.length_singleton] at h; exact h) fun g hg => so g (by have := (hq3.own.lt g hg).1; omega)) (fun k hk => by
                  rcases hv2 k hk with q | q
                  · exact Or.inl q
                  · exact Or.inr (by omega)) ⟨nw HM1.out, nw HM2.out⟩ HNS.out HY2.out (fun hf => ?_)
                rcases hf.2 with q | q | q
                · have h1 := HEE.out
                  have h2 : eUn (U [⟨d.2, y.l⟩]) = 8 := q
                  omega
                · have h1 := HSS.out.1
                  have h2 : 2000 < sizeL [(PaQ (U [⟨d.2, y.l⟩]).2 x y d.1).l] := q
                  omega
                · have h1 := HSS.out.2
                  have h2 : 2000 < sizeL [(PaQ (U [⟨d.2, y.l⟩]).2 x y d.1).r] := q
                  omega
              have a0 := A13.out.c0
              have a3 := A3.c0
              have af := A3.frozen 0
              have p0 := P13.out.c0
              have p1 := P13.out.c1
              have p2 := P13.out.c2
              have p3 := P13.out.c3
              have a1 : w12.cell? ⟨wc.heap.size, 0, none⟩ = some (.slice va cs.length vc) := (HF12.out.blk HJ.out.ba HD4.out.2.2.2.2.2.2.1).cell 0
              have al : wc.heap.size < w12.heap.size := (HF12.out.blk HJ.out.ba HD4.out.2.2.2.2.2.2.1).lt
              clear hq3 hgr hv2 hlv gk hno hD hzw A3 k13
              rw [← hw13] at a0 p0 p1 p2 p3 hrun
              have HRUN := hide hrun
              clear hw13 hz13 hrun
              gi_wp2_with (gi_at_builtin; refine wpListIn_append_eqO rfl _ _ _ _ rfl rfl rfl HRUN.out ?_)
              exact HFIN.out
    have hst : JO U (x, y) same K wc.heap.size R4 R5 (wc.heap.size + 4) r rd W5 [] true (fun q => q = wc.heap.size + 4 ∨ q = wc.heap.size ∨ q = R4 ∨ q = R5 ∨ False) W5 := by
      refine ⟨.slice none 0 0, [], fun _ => False, { ky := fun q hq => ⟨by have := (HKl.out q).1 hq; omega, fun h => ?_⟩, sz := Nat.le_refl _, kp := fun q _ => rfl, lp := HL5.out, b4 := H4c.out.below HB5.out H4c.out.lt, b5 := H5c.out.below HB5.out H5c.out.lt, ff := fun q => Iff.rfl, fi := fun q h => h.elim, fo := fun q h => by simp [Value.ownBlock] at h, ba := HA5.out, ow := World.ownsRow_nil _ _ _ _, ro := by simp, yes := fun _ => ⟨rfl, by simp⟩, no := fun h => by cases h }⟩
      have h1 := (HKl.out q).1 hq
      rcases h with h | h | h | h | h
      · omega
      · exact h1.2.1 h
      · exact h1.2.2.1 h
      · exact h1.2.2.2 h
      · exact h
    refine (downCS_any hok (wc.heap.size + 4) RH.toS x.l [] (wc.heap.size + 1) (wc.heap.size + 2) b1 d1 (.slice none 0 0) [] _ W5 (fun q => W.heap.size ≤ q ∧ q < wc.heap.size) HT5.out ((HT1.out.mono fun q h1 h2 => ⟨h1.1, h2⟩).later HB5.out) HF5.out ⟨none, 0, rfl, by simp, Or.inl rfl⟩ rfl (fun q hq => ⟨by omega, fun h => by
      have h2 := HRR.out
      rcases h with h | h | h | h | h
      · omega
      · omega
      · omega
      · omega
      · exact h⟩) hst (by have := may200 HMX.out.1.1; omega) (by simp)).mono ?_
    rintro e Wf ⟨hret, s, hw, -⟩
    obtain ⟨m, f', hm, hms, hj, he, hff⟩ := hw
    rw [List.nil_append] at hj
    obtain ⟨v, cs, F, hj⟩ := hj
    have HRET := hide hret
    have HJ9 := hide hj
    have hx9 : ∀ q, q < wc.heap.size + 4 → q ≠ wc.heap.size → q ≠ R4 → q ≠ R5 → Wf.heap[q]? = W5.heap[q]? := fun q h1 h2 h3 h4 => hj.kp q ((HKl.out q).2 ⟨h1, h2, h3, h4⟩)
    have HX9 := hide hx9
    have HOSF : Hid (Wf.os = w.os ∧ Wf.tape = w.tape ∧ Wf.output = w.output) := ⟨he.os.trans (HB5.out.os.trans HBw.out.os), he.tape.trans (HB5.out.tape.trans HBw.out.tape), he.output.trans (HB5.out.output.trans HBw.out.output)⟩
    have HD9 : Hid (Wf.heap[wc.heap.size + 3]? = some (.deferred (some []))) := (hx9 _ (by omega) (by omega) (by have := HRR.out; omega) (by have := HRR.out; omega)).trans HD5.out
    have HBF : Hid (∀ q, q < w.heap.size → Wf.heap[q]? = w.heap[q]?) := fun q hq => by
      have h2 := HRR.out
      exact (hx9 q (by omega) (by omega) (by omega) (by omega)).trans ((HB5.out.block q (by omega)).trans (HBw.out.block q hq))
    have HMS : Hid (m ≤ (dnT [] [] x.l).length ∧ (s = true → m = (dnT [] [] x.l).length)) := ⟨hm, hms⟩
    clear he hff hst RH hok hret hx9 hm hms hj hr1 hr2 hr3 hr4 hr5 hr6
    refine ⟨HRET.out, ?_⟩
    cases s with
    | true =>
      left
      refine ⟨HJ9.out.lp, ?_⟩
      have HYES := hide (HJ9.out.yes rfl)
      have em := HMS.out.2 rfl
      subst em
      rw [List.take_length] at HYES
      clear HMS
      have hD := HD4.out
      have h2 := HRR.out
      obtain ⟨va, vc, hv⟩ := own_form HJ9.out.ow
      subst hv
      have b4 := HJ9.out.b4
      have b5 : Blk Wf R5 #[.int .i64 0] 24 := HJ9.out.b5
      have ba := HJ9.out.ba
      have hzf := HJ9.out.sz
      have hlv := HJ9.out.ow.lt
      have q4 : ∀ o, (Wf.putObj (wc.heap.size + 4) o).cell? ⟨R4, 0, none⟩ = some (.slice none 0 0) := fun o => (World.cell?_of_block (World.putObj_heap_other (by simp; omega))).trans (b4.cell 0)
      have q5 : ∀ o, (Wf.putObj (wc.heap.size + 4) o).cell? ⟨R5, 0, none⟩ = some (.int .i64 0) := fun o => (World.cell?_of_block (World.putObj_heap_other (by simp; omega))).trans (b5.cell 0)
      have qa : ∀ o, (Wf.putObj (wc.heap.size + 4) o).cell? ⟨wc.heap.size, 0, none⟩ = some (.slice va cs.length vc) := fun o => (World.cell?_of_block (World.putObj_heap_other (by simp))).trans (ba.cell 0)
      have p4 : ∀ o, Blk (Wf.putObj (wc.heap.size + 4) o) R4 #[.slice none 0 0] 22 := fun o => (World.putObj_heap_other (by omega)).trans b4
      have p5 : ∀ o, Blk (Wf.putObj (wc.heap.size + 4) o) R5 #[.int .i64 0] 24 := fun o => (World.putObj_heap_other (by omega)).trans b5
      have g4 : ∀ o, (Wf.putObj (wc.heap.size + 4) o).frozen? ⟨R4, 0, none⟩ = false := fun o => (p4 o).frozen 0
      have g5 : ∀ o, (Wf.putObj (wc.heap.size + 4) o).frozen? ⟨R5, 0, none⟩ = false := fun o => (p5 o).frozen 0
      have hn45 : R4 ≠ R5 := by omega
      have hn54 : R5 ≠ R4 := by omega
      have pf : ∀ (o o1 : Obj) q, q ≠ wc.heap.size + 4 → q ≠ wc.heap.size + 3 → q ≠ R4 → q ≠ R5 → ((((Wf.putObj (wc.heap.size + 4) o).setCell ⟨R4, 0, none⟩ (.slice va cs.length vc)).setCell ⟨R5, 0, none⟩ (.int .i64 0)).putObj (wc.heap.size + 3) o1).heap[q]? = Wf.heap[q]? := fun o o1 q h9 h8 h1 h2 => by
        rw [World.putObj_heap_other h8, Below.heap_setCell _ _ _ _ (by simpa using h2), Below.heap_setCell _ _ _ _ (by simpa using h1), World.putObj_heap_other h9]
      have HDD : Hid (∀ o, (((Wf.putObj (wc.heap.size + 4) o).setCell ⟨R4, 0, none⟩ (.slice va cs.length vc)).setCell ⟨R5, 0, none⟩ (.int .i64 0)).heap[wc.heap.size + 3]? = some (.deferred (some []))) := fun o => by
        rw [Below.heap_setCell _ _ _ _ (by simp; omega), Below.heap_setCell _ _ _ _ (by simp; omega), World.putObj_heap_other (by omega)]
        exact HD9.out
      have r4 : ∀ (o o1 : Obj), ((((Wf.putObj (wc.heap.size + 4) o).setCell ⟨R4, 0, none⟩ (.slice va cs.length vc)).setCell ⟨R5, 0, none⟩ (.int .i64 0)).putObj (wc.heap.size + 3) o1).cell? ⟨R4, 0, none⟩ = some (.slice va cs.length vc) := fun o o1 => by
        have h : Blk ((((Wf.putObj (wc.heap.size + 4) o).setCell ⟨R4, 0, none⟩ (.slice va cs.length vc)).setCell ⟨R5, 0, none⟩ (.int .i64 0)).putObj (wc.heap.size + 3) o1) R4 #[.slice va cs.length vc] 22 := (World.putObj_heap_other (by omega)).trans ((Blk.set1R (p4 o)).setOther _ _ (by omega))
        exact h.cell 0
      have r5 : ∀ (o o1 : Obj), ((((Wf.putObj (wc.heap.size + 4) o).setCell ⟨R4, 0, none⟩ (.slice va cs.length vc)).setCell ⟨R5, 0, none⟩ (.int .i64 0)).putObj (wc.heap.size + 3) o1).cell? ⟨R5, 0, none⟩ = some (.int .i64 0) := fun o o1 => by
        have h : Blk ((((Wf.putObj (wc.heap.size + 4) o).setCell ⟨R4, 0, none⟩ (.slice va cs.length vc)).setCell ⟨R5, 0, none⟩ (.int .i64 0)).putObj (wc.heap.size + 3) o1) R5 #[.int .i64 0] 24 := (World.putObj_heap_other (by omega)).trans (Blk.set1R ((p5 o).setOther _ _ (by omega)))
        exact h.cell 0
      have HFIN : Hid (∀ (o o1 : Obj), OvP U oa nb same w (.returned (.tuple #[.slice va cs.length vc, .int .i64 0])) ((((Wf.putObj (wc.heap.size + 4) o).setCell ⟨R4, 0, none⟩ (.slice va cs.length vc)).setCell ⟨R5, 0, none⟩ (.int .i64 0)).putObj (wc.heap.size + 3) o1)) := fun o o1 => by
        have kk : ∀ {a : Option Addr} {l : List Tm}, Sl Wf (fun b => F b ∧ some b ≠ (Value.slice va cs.length vc).ownBlock) a l → Sl ((((Wf.putObj (wc.heap.size + 4) o).setCell ⟨R4, 0, none⟩ (.slice va cs.length vc)).setCell ⟨R5, 0, none⟩ (.int .i64 0)).putObj (wc.heap.size + 3) o1) (fun b => False ∨ (w.heap.size ≤ b ∧ some b ≠ (Value.slice va cs.length vc).ownBlock)) a l := fun h => (h.kept fun q hq => by
          have h3 := HJ9.out.fi q hq.1
          exact pf o o1 q (by omega) (by omega) (by omega) (by omega)).mono fun q hq _ => Or.inr ⟨by have h3 := HJ9.out.fi q hq.1; omega, hq.2⟩
        refine ⟨⟨HOSF.out.1, HOSF.out.2.1, HOSF.out.2.2, by simp [World.setCell]; omega, fun q hq => (pf o o1 q (by omega) (by omega) (by omega) (by omega)).trans (HBF.out q hq)⟩, Or.inl ?_⟩
        unfold ovL
        rw [← HXY.out]
        exact ⟨HYES.out.2, _, cs, rfl, ⟨owns_mono (ownsRow_at HJ9.out.ow fun g hg => by have h3 := hlv g hg; exact pf o o1 g (by omega) (by omega) (by omega) (by omega)) (by omega), fun z hz => ⟨kk (HJ9.out.ro z hz).1, kk (HJ9.out.ro z hz).2⟩⟩, HYES.out.1⟩
      clear pf hlv b4 b5 ba p4 p5 h2 hD
      gi_wp2
      refine ⟨by simp, .inl ⟨_, _, rfl, run_takeDeferred (HDD.out _), ?_⟩⟩
      exact ⟨.tuple #[.slice va cs.length vc, .int .i64 0], by simp [results, Tryz.results12, go_sem, r4, r5], HFIN.out _ _⟩
    | false =>
      right
      refine ⟨by rw [← hrd]; exact HJ9.out.lp, ?_⟩
      have h2 := HRR.out
      have b4 := HJ9.out.b4
      have b5 : Blk Wf R5 #[.int .i64 8] 24 := HJ9.out.b5
      have hzf := HJ9.out.sz
      have pf : ∀ (o o1 : Obj) q, q ≠ wc.heap.size + 4 → q ≠ wc.heap.size + 3 → ((Wf.putObj (wc.heap.size + 4) o).putObj (wc.heap.size + 3) o1).heap[q]? = Wf.heap[q]? := fun o o1 q h9 h8 => (World.putObj_heap_other h8).trans (World.putObj_heap_other h9)
      have HDD : Hid (∀ o, (Wf.putObj (wc.heap.size + 4) o).heap[wc.heap.size + 3]? = some (.deferred (some []))) := fun o => (World.putObj_heap_other (by omega)).trans HD9.out
      have r4 : ∀ (o o1 : Obj), ((Wf.putObj (wc.heap.size + 4) o).putObj (wc.heap.size + 3) o1).cell? ⟨R4, 0, none⟩ = some (.slice none 0 0) := fun o o1 => (World.cell?_of_block (pf o o1 _ (by simp; omega) (by simp; omega))).trans (b4.cell 0)
      have r5 : ∀ (o o1 : Obj), ((Wf.putObj (wc.heap.size + 4) o).putObj (wc.heap.size + 3) o1).cell? ⟨R5, 0, none⟩ = some (.int .i64 8) := fun o o1 => (World.cell?_of_block (pf o o1 _ (by simp; omega) (by simp; omega))).trans (b5.cell 0)
      have HFIN : Hid (∀ (o o1 : Obj), OvP U oa nb same w (.returned (.tuple #[.slice none 0 0, .int .i64 8])) ((Wf.putObj (wc.heap.size + 4) o).putObj (wc.heap.size + 3) o1)) := fun o o1 => by
        refine ⟨⟨HOSF.out.1, HOSF.out.2.1, HOSF.out.2.2, by simp; omega, fun q hq => (pf o o1 q (by omega) (by omega)).trans (HBF.out q hq)⟩, Or.inr ⟨?_, rfl⟩⟩
        rw [← HXY.out]
        obtain ⟨c, hc, h⟩ := HJ9.out.no rfl
        exact ⟨c, List.mem_of_mem_take hc, h⟩
      gi_wp2
      refine ⟨by simp, .inl ⟨_, _, rfl, run_takeDeferred (HDD.out _), ?_⟩⟩
      exact ⟨.tuple #[.slice none 0 0, .int .i64 8], by simp [results, Tryz.results12, go_sem, r4, r5], HFIN.out _ _⟩
end Go.Proofs.YtbnmlkaejdpigaaGreatDoor
