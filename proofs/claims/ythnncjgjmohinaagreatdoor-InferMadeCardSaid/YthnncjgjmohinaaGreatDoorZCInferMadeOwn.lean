/- Several texts in one. -/
import Derived.Test.YthnncjgjmohinaaGreatDoorZInferMadeOwn
import Derived.Test.YthnncjgjmohinaaGreatDoorZBInferMadeOwn
namespace Go.Proofs.YthnncjgjmohinaaGreatDoor
open Go.RowKit
set_option linter.unusedSimpArgs false
set_option linter.unusedVariables false
set_option maxRecDepth 8000
def shY : List Ty → Prop
 | [] => True
 | ⟨_, l⟩ :: r => (l = [] ∨ l.length = 2) ∧ shY l ∧ shY r
theorem shY_cons (t : Ty) (r : List Ty) : shY (t :: r) ↔ (t.subs = [] ∨ t.subs.length = 2) ∧ shY t.subs ∧ shY r := by
 obtain ⟨x, l⟩ := t
 simp only [shY]
theorem shY_look {x : Int} {l : List Ty} (h : shY [⟨x, l⟩]) : l = [] ∨ ∃ p q, l = [p, q] ∧ shY [p] ∧ shY [q] := by
 rw [shY_cons] at h
 obtain ⟨h1, h2, _⟩ := h
 rcases h1 with h1 | h1
 ·exact Or.inl h1
 ·have h1' : l.length = 2 := h1
  match l, h1', h2 with
  | [p, q], _, h2 =>
   rw [shY_cons] at h2
   have h3 := h2.2.2
   exact Or.inr ⟨p, q, rfl, (shY_cons p []).2 ⟨h2.1, h2.2.1, by simp [shY]⟩, h3⟩
def CsR (w : World) (X : Nat → Prop) : List (Int × Value) → List (Int × Ty) → Prop
 | [], [] => True
 | p :: r, q :: s => (p.1 = q.1 ∧ YV w X p.2 q.2) ∧ CsR w X r s
 | _, _ => False
def CsM (w : World) (r : Nat) (X : Nat → Prop) (σ : List (Int × Ty)) : Prop := ∃ L, MapI w r L ∧ CsR w X L σ
theorem YV.exq {w w' : World} {Q X : Nat → Prop} {v : Value} {t : Ty} (h : YV w X v t) (he : ExQ Q w w') (hX : ∀ b, X b → ¬ Q b) : YV w' X v t := by
 obtain ⟨a, c, e, hs⟩ := h
 exact ⟨a, c, e, hs.exq he hX⟩
theorem CsR.exq {w w' : World} {Q X : Nat → Prop} (he : ExQ Q w w') (hX : ∀ b, X b → ¬ Q b) : ∀ {L : List (Int × Value)} {σ : List (Int × Ty)}, CsR w X L σ → CsR w' X L σ
 | [], [], _ => trivial
 | [], _ :: _, h => h.elim
 | _ :: _, [], h => h.elim
 | p :: r, q :: s, h => ⟨⟨h.1.1, h.1.2.exq he hX⟩, CsR.exq he hX h.2⟩
theorem CsM.exq {w w' : World} {Q X : Nat → Prop} {r : Nat} {σ : List (Int × Ty)} (h : CsM w r X σ) (he : ExQ Q w w') (hX : ∀ b, X b → ¬ Q b) (hr : ¬ Q r) : CsM w' r X σ := by
 obtain ⟨L, h1, h2⟩ := h
 exact ⟨L, h1.kept (he.block r h1.lt hr), h2.exq he hX⟩
theorem CsM.later {w w' : World} {X : Nat → Prop} {r : Nat} {σ : List (Int × Ty)} (h : CsM w r X σ) (hb : Below w.heap.size w w') : CsM w' r X σ := h.exq (ExQ.ofBelow (Q := fun _ => False) hb) (fun _ _ h => h) (fun h => h)
theorem CsM.lt {w : World} {X : Nat → Prop} {r : Nat} {σ : List (Int × Ty)} (h : CsM w r X σ) : r < w.heap.size := by
 obtain ⟨L, h1, _⟩ := h
 exact h1.lt
theorem CsR.get {w : World} {X : Nat → Prop} (n : Int) : ∀ {L : List (Int × Value)} {σ : List (Int × Ty)}, CsR w X L σ → (lkY σ n = none → mapGetI L n = none) ∧ ∀ t, lkY σ n = some t → ∃ v, mapGetI L n = some v ∧ YV w X v t
 | [], [], _ => ⟨fun _ => rfl, fun t h => by simp [lkY] at h⟩
 | [], _ :: _, h => h.elim
 | _ :: _, [], h => h.elim
 | p :: r, q :: s, h => by
  obtain ⟨⟨h1, h2⟩, h3⟩ := h
  have ih := CsR.get n h3
  simp only [lkY, mapGetI]
  by_cases e : q.1 = n
  ·rw [if_pos e, if_pos (h1.trans e)]
   refine ⟨fun h => absurd h (by simp), fun t ht => ?_⟩
   rw [Option.some.injEq] at ht
   exact ht ▸ ⟨_, rfl, h2⟩
  ·rw [if_neg e, if_neg (fun e2 => e (h1.symm.trans e2))]
   exact ih
theorem CsR.push {w : World} {X : Nat → Prop} {n : Int} {v : Value} {t : Ty} (hv : YV w X v t) : ∀ {L : List (Int × Value)} {σ : List (Int × Ty)}, CsR w X L σ → CsR w X (L ++ [(n, v)]) (σ ++ [(n, t)])
 | [], [], _ => ⟨⟨rfl, hv⟩, trivial⟩
 | [], _ :: _, h => h.elim
 | _ :: _, [], h => h.elim
 | p :: r, q :: s, h => ⟨h.1, CsR.push hv h.2⟩
theorem slY_twoE {w : World} {X : Nat → Prop} {a : Option Addr} {p r : Ty} (h : SlY w X a [p, r]) :
  ∃ b' o' a1 c1 a2 c2, a = some ⟨b', o', none⟩ ∧ ∀ w' Q, ExQ Q w w' → (∀ b, X b → ¬ Q b) → (w'.cell? ⟨b', o', none⟩ = some (.int .i64 p.base) ∧ w'.cell? ⟨b', o' + 1, none⟩ = some (.slice a1 p.subs.length c1) ∧ w'.cell? ⟨b', o' + 2, none⟩ = some (.int .i64 r.base) ∧ w'.cell? ⟨b', o' + 2 + 1, none⟩ = some (.slice a2 r.subs.length c2)) ∧ YV w' X (.agg #[.int .i64 p.base, .slice a1 p.subs.length c1]) p ∧ YV w' X (.agg #[.int .i64 r.base, .slice a2 r.subs.length c2]) r := by
 obtain ⟨_, h | ⟨b', o', rfl, hl⟩⟩ := h
 ·simp at h
 obtain ⟨hx, d0, a1, c1, d1, hs1⟩ := liesY_get _ _ _ hl 0 (by simp)
 obtain ⟨_, d2, a2, c2, d3, hs2⟩ := liesY_get _ _ _ hl 1 (by simp)
 have hlt : b' < w.heap.size := by
  apply Classical.byContradiction
  intro hn
  have e : w.heap[b']? = none := Array.getElem?_eq_none (by omega)
  simp [World.cell?, e] at d0
 refine ⟨b', o', a1, c1, a2, c2, rfl, fun w' Q he hQ => ⟨?_, ⟨a1, c1, rfl, hs1.exq he hQ⟩, ⟨a2, c2, rfl, hs2.exq he hQ⟩⟩⟩
 have e : ∀ o, w'.cell? ⟨b', o, none⟩ = w.cell? ⟨b', o, none⟩ := fun o => World.cell?_of_block (he.block b' hlt (hQ b' hx))
 rw [e, e, e, e]
 exact ⟨by simpa using d0, by simpa using d1, by simpa using d2, by simpa using d3⟩
structure Fit (w : World) (S F r : Nat) : Prop where
 s : Blk w S #[.map (some r)] 110
 f : Blk w F #[.func (.func 68) #[] #[.pointer (some ⟨S, 0, none⟩), .pointer (some ⟨F, 0, none⟩)]] 66
 sr : S ≠ r
 fr : F ≠ r
theorem Fit.exq {w w' : World} {S F r : Nat} (h : Fit w S F r) (he : ExQ (fun b => b = r) w w') : Fit w' S F r := ⟨h.s.exq he h.sr, h.f.exq he h.fr, h.sr, h.fr⟩
def FtP (p t : Ty) (σ : List (Int × Ty)) (r : Nat) (X : Nat → Prop) (w : World) (e : Ending) (w' : World) : Prop := e = .returned (.bool (cyT p t σ).1) ∧ CsM w' r X (cyT p t σ).2 ∧ ExQ (fun b => b = r) w w'
set_option maxHeartbeats 8000000 in
theorem fits_any (S F r : Nat) (p : Ty) : ∀ (t : Ty) (σ : List (Int × Ty)) (v u : Value) (w : World) (Z X : Nat → Prop), shY [p] → YV w Z v p → YV w X u t → (∀ b, Z b → b ≠ r) → (∀ b, X b → b ≠ r) → CsM w r X σ → Fit w S F r →
  Calls Tryz.prog 68 #[v, u, .pointer (some ⟨S, 0, none⟩), .pointer (some ⟨F, 0, none⟩)] w fun e w' => FtP p t σ r X w e w' := by
 induction p using Ty.ind with
 | h x0 l0 ih =>
  intro t σ v u w Z X hsh hv hu hZ hX hM hF
  have IH := hide ih
  clear ih
  obtain ⟨a, c, rfl, hs⟩ := hv
  have HU := hide hu
  obtain ⟨a', c', rfl, hs'⟩ := hu
  have HX := hide hX
  have HZ := hide hZ
  have hMl := hM.lt
  have B2 : Hid (Below w.heap.size w ((w.alloc (.cells #[.int .i64 x0, .slice a l0.length c] 30)).alloc (.cells #[.int .i64 t.base, .slice a' t.subs.length c'] 30))) := ((Below.refl _ _).alloc (Nat.le_refl _) _).alloc (by simp) _
  have A2 : Hid (Blk ((w.alloc (.cells #[.int .i64 x0, .slice a l0.length c] 30)).alloc (.cells #[.int .i64 t.base, .slice a' t.subs.length c'] 30)) w.heap.size #[.int .i64 x0, .slice a l0.length c] 30) := (Blk.new _ _ _).alloc _
  have C2 : Hid (Blk ((w.alloc (.cells #[.int .i64 x0, .slice a l0.length c] 30)).alloc (.cells #[.int .i64 t.base, .slice a' t.subs.length c'] 30)) (w.heap.size + 1) #[.int .i64 t.base, .slice a' t.subs.length c'] 30) := by have h := Blk.new (w.alloc (.cells #[.int .i64 x0, .slice a l0.length c] 30)) #[.int .i64 t.base, .slice a' t.subs.length c'] 30; rw [World.size_alloc] at h; exact h
  have M2 := hide (hM.later B2.out)
  have F2 := hide (hF.exq (ExQ.ofBelow B2.out))
  have HV2 := hide (HU.out.later B2.out)
  rcases shY_look hsh with rfl | ⟨p, q, rfl, hp, hq⟩
  ·clear IH hs hsh hM hF
   simp only [List.length_nil] at *
   go_enter Tryz.func68, Tryz.ntmps68
   go_upto_region 1 with fail
   generalize ((w.alloc (.cells #[.int .i64 x0, .slice a 0 c] 30)).alloc (.cells #[.int .i64 t.base, .slice a' t.subs.length c'] 30)) = w2 at *
   have x0' := A2.out.c0
   have x1' := A2.out.c1
   have z0 := C2.out.c0
   have z1 := C2.out.c1
   have s0 := F2.out.s.c0
   obtain ⟨L, hL1, hL2⟩ := M2.out
   have hg := hL2.get x0
   have hzv := Tryz.zeroValue30 w2
   cases hlk : lkY σ x0 with
   | some y =>
    obtain ⟨vy, hvy, hyv⟩ := hg.2 y hlk
    have HYV := hide hyv
    obtain ⟨ay, cy, rfl, -⟩ := hyv
    have hlook : (Instr.lookup 110 (.map (some r)) (.int .i64 x0) true).run Tryz.prog w2 = .ok (.tuple #[.agg #[.int .i64 y.base, .slice ay y.subs.length cy], .bool true]) w2 := by rw [run_lookI (P := Tryz.prog) Tryz.underlying110 Tryz.underlying3 hzv hL1 _, hvy]; rfl
    have HC := hide (cyT_old (t := t) hlk)
    have q0 : (w2.alloc (.cells #[.int .i64 y.base, .slice ay y.subs.length cy] 30)).cell? ⟨w.heap.size + 1, 0, none⟩ = some (.int .i64 t.base) := (C2.out.alloc _).cell 0
    have q1 : (w2.alloc (.cells #[.int .i64 y.base, .slice ay y.subs.length cy] 30)).cell? ⟨w.heap.size + 1, 1, none⟩ = some (.slice a' t.subs.length c') := (C2.out.alloc _).cell 1
    have q2 : (w2.alloc (.cells #[.int .i64 y.base, .slice ay y.subs.length cy] 30)).cell? ⟨w.heap.size, 0, none⟩ = some (.int .i64 x0) := (A2.out.alloc _).cell 0
    have q3 : (w2.alloc (.cells #[.int .i64 y.base, .slice ay y.subs.length cy] 30)).cell? ⟨w.heap.size, 1, none⟩ = some (.slice a 0 c) := (A2.out.alloc _).cell 1
    have q4 : (w2.alloc (.cells #[.int .i64 y.base, .slice ay y.subs.length cy] 30)).cell? ⟨S, 0, none⟩ = some (.map (some r)) := (F2.out.s.alloc _).cell 0
    clear hlk hg hvy hzv hL1 hL2
    go_wp2_with fail
    refine (isSameY_any y t _ _ _ X X (HYV.out.later ((Below.refl _ _).alloc (Nat.le_refl _) _)) (HV2.out.later ((Below.refl _ _).alloc (Nat.le_refl _) _))).mono ?_
    rintro e w4 ⟨rfl, hb4⟩
    have O4 : Hid (Below w2.heap.size w2 w4) := ((Below.refl w2.heap.size w2).alloc (Nat.le_refl _) (.cells #[.int .i64 y.base, .slice ay y.subs.length cy] 30)).trans (hb4.mono (by simp))
    clear hb4
    go_wp2_with fail
    go_ret
    refine ⟨by rw [HC.out]; rfl, ?_, (ExQ.ofBelow B2.out).trans (ExQ.ofBelow O4.out)⟩
    rw [HC.out]
    exact M2.out.later O4.out
   | none =>
    have hmn := hg.1 hlk
    have hlook : (Instr.lookup 110 (.map (some r)) (.int .i64 x0) true).run Tryz.prog w2 = .ok (.tuple #[.agg #[.int .i64 0, .slice none 0 0], .bool false]) w2 := by rw [run_lookI (P := Tryz.prog) Tryz.underlying110 Tryz.underlying3 hzv hL1 _, hmn]; rfl
    have HC := hide (cyT_new (t := t) hlk)
    have O3 : Hid (Below w2.heap.size w2 (w2.alloc (.cells #[.int .i64 0, .slice none 0 0] 30))) := (Below.refl _ _).alloc (Nat.le_refl _) _
    have hL3 : MapI (w2.alloc (.cells #[.int .i64 0, .slice none 0 0] 30)) r L := hL1.below O3.out hL1.lt
    obtain ⟨w4, hrun4, hM4, hz4, ho4, ht4, hu4, hkp⟩ := run_putI (P := Tryz.prog) Tryz.underlying110 Tryz.underlying3 hL3 x0 (.agg #[.int .i64 t.base, .slice a' t.subs.length c']) hmn
    have E4 : Hid (ExQ (fun b => b = r) (w2.alloc (.cells #[.int .i64 0, .slice none 0 0] 30)) w4) := ⟨ho4, ht4, hu4, by omega, fun b _ hn => hkp b hn⟩
    have M4 : Hid (CsM w4 r X (σ ++ [(x0, t)])) := ⟨_, hM4, CsR.push ((HV2.out.later O3.out).exq E4.out HX.out) (CsR.exq E4.out HX.out (CsR.exq (ExQ.ofBelow (Q := fun _ => False) O3.out) (fun _ _ h => h) hL2))⟩
    have q0 : (w2.alloc (.cells #[.int .i64 0, .slice none 0 0] 30)).cell? ⟨w.heap.size + 1, 0, none⟩ = some (.int .i64 t.base) := (C2.out.alloc _).cell 0
    have q1 : (w2.alloc (.cells #[.int .i64 0, .slice none 0 0] 30)).cell? ⟨w.heap.size + 1, 1, none⟩ = some (.slice a' t.subs.length c') := (C2.out.alloc _).cell 1
    have q2 : (w2.alloc (.cells #[.int .i64 0, .slice none 0 0] 30)).cell? ⟨w.heap.size, 0, none⟩ = some (.int .i64 x0) := (A2.out.alloc _).cell 0
    have q3 : (w2.alloc (.cells #[.int .i64 0, .slice none 0 0] 30)).cell? ⟨w.heap.size, 1, none⟩ = some (.slice a 0 c) := (A2.out.alloc _).cell 1
    have q4 : (w2.alloc (.cells #[.int .i64 0, .slice none 0 0] 30)).cell? ⟨S, 0, none⟩ = some (.map (some r)) := (F2.out.s.alloc _).cell 0
    clear hlk hg hzv hL1 hL2 hmn hM4 hz4 ho4 ht4 hu4 hkp hL3
    go_wp2_with fail
    go_ret
    refine ⟨by rw [HC.out]; rfl, ?_, (ExQ.ofBelow B2.out).trans ((ExQ.ofBelow O3.out).trans E4.out)⟩
    rw [HC.out]
    exact M4.out
  ·obtain ⟨pb, po, p1, p1c, p2, p2c, rfl, hKP⟩ := slY_twoE hs
   have KP := hide hKP
   clear hKP hs hsh
   have IP := hide (IH.out p (by simp))
   have IQ := hide (IH.out q (by simp))
   clear IH hM hF
   have e2 : ([p, q] : List Ty).length = 2 := rfl
   rw [e2] at *
   clear e2
   go_enter Tryz.func68, Tryz.ntmps68
   go_upto_region 1 with fail
   generalize ((w.alloc (.cells #[.int .i64 x0, .slice (some ⟨pb, po, none⟩) 2 c] 30)).alloc (.cells #[.int .i64 t.base, .slice a' t.subs.length c'] 30)) = w2 at *
   have x1' := A2.out.c1
   go_wp2_with fail
   clear x1'
   have gR : Hid (w.heap.size + 1 < w2.heap.size) := C2.out.lt
   have E2 : Hid (ExQ (fun b => b = r) w w2) := ExQ.ofBelow B2.out
   by_cases ht2 : t.subs.length = 2
   ·obtain ⟨y0, ts⟩ := t
    have ht2' : ts.length = 2 := ht2
    obtain ⟨tu, tv, rfl⟩ : ∃ tu tv, ts = [tu, tv] := by match ts, ht2' with | [tu, tv], _ => exact ⟨_, _, rfl⟩
    clear ht2 ht2'
    obtain ⟨tb, to_, t1, t1c, t2, t2c, rfl, hKT⟩ := slY_twoE hs'
    have KT := hide hKT
    clear hKT hs'
    have e2 : ([tu, tv] : List Ty).length = 2 := rfl
    simp only [e2] at *
    clear e2
    have HC := hide (cyT_two (p := p) (q := q) (u := tu) (v := tv) x0 y0 σ)
    have KS : Hid (∀ w', (Blk w' w.heap.size #[.int .i64 x0, .slice (some ⟨pb, po, none⟩) 2 c] 30 ∧ Blk w' (w.heap.size + 1) #[.int .i64 y0, .slice (some ⟨tb, to_, none⟩) 2 c'] 30 ∧ Blk w' F #[(.func (.func 68) #[] #[.pointer (some ⟨S, 0, none⟩), .pointer (some ⟨F, 0, none⟩)])] 66 ∧ ExQ (fun b => b = r) w w') → w'.cell? ⟨w.heap.size, 1, none⟩ = some (.slice (some ⟨pb, po, none⟩) 2 c) ∧ w'.cell? ⟨w.heap.size + 1, 1, none⟩ = some (.slice (some ⟨tb, to_, none⟩) 2 c') ∧ w'.cell? ⟨F, 0, none⟩ = some (.func (.func 68) #[] #[.pointer (some ⟨S, 0, none⟩), .pointer (some ⟨F, 0, none⟩)]) ∧ (w'.cell? ⟨pb, po, none⟩ = some (.int .i64 p.base) ∧ w'.cell? ⟨pb, po + 1, none⟩ = some (.slice p1 p.subs.length p1c) ∧ w'.cell? ⟨pb, po + 2, none⟩ = some (.int .i64 q.base) ∧ w'.cell? ⟨pb, po + 2 + 1, none⟩ = some (.slice p2 q.subs.length p2c)) ∧ (w'.cell? ⟨tb, to_, none⟩ = some (.int .i64 tu.base) ∧ w'.cell? ⟨tb, to_ + 1, none⟩ = some (.slice t1 tu.subs.length t1c) ∧ w'.cell? ⟨tb, to_ + 2, none⟩ = some (.int .i64 tv.base) ∧ w'.cell? ⟨tb, to_ + 2 + 1, none⟩ = some (.slice t2 tv.subs.length t2c))) := fun w' h => ⟨h.1.cell 1, h.2.1.cell 1, h.2.2.1.cell 0, (KP.out w' _ h.2.2.2 HZ.out).1, (KT.out w' _ h.2.2.2 HX.out).1⟩
    have kd : Blk w2.drew w.heap.size #[.int .i64 x0, .slice (some ⟨pb, po, none⟩) 2 c] 30 ∧ Blk w2.drew (w.heap.size + 1) #[.int .i64 y0, .slice (some ⟨tb, to_, none⟩) 2 c'] 30 ∧ Blk w2.drew F #[(.func (.func 68) #[] #[.pointer (some ⟨S, 0, none⟩), .pointer (some ⟨F, 0, none⟩)])] 66 ∧ ExQ (fun b => b = r) w w2.drew := ⟨A2.out, C2.out, F2.out.f, E2.out.drew⟩
    refine wp_region_held_drew (S := fun w' => Blk w' w.heap.size #[.int .i64 x0, .slice (some ⟨pb, po, none⟩) 2 c] 30 ∧ Blk w' (w.heap.size + 1) #[.int .i64 y0, .slice (some ⟨tb, to_, none⟩) 2 c'] 30 ∧ Blk w' F #[(.func (.func 68) #[] #[.pointer (some ⟨S, 0, none⟩), .pointer (some ⟨F, 0, none⟩)])] 66 ∧ ExQ (fun b => b = r) w w') (by kernel_rfl) kd (fun hHeld => ?_)
    refine tkq (v := ?_) 0 rfl ?_ ?_
    rotate_left
    ·intro w' hSw
     obtain ⟨y0', y1', y2', ⟨y3, y4, y5, y6⟩, y7, y8, y9, y10⟩ := KS.out w' hSw
     go_simp <;> with_reducible rfl
    try simp only [Act.put, sq]
    refine tkq (v := ?_) 1 rfl ?_ ?_
    rotate_left
    ·intro w' hSw
     obtain ⟨y0', y1', y2', ⟨y3, y4, y5, y6⟩, y7, y8, y9, y10⟩ := KS.out w' hSw
     go_simp <;> with_reducible rfl
    try simp only [Act.put, sq]
    refine tkq (v := ?_) 2 rfl ?_ ?_
    rotate_left
    ·intro w' hSw
     obtain ⟨y0', y1', y2', ⟨y3, y4, y5, y6⟩, y7, y8, y9, y10⟩ := KS.out w' hSw
     go_simp <;> with_reducible rfl
    try simp only [Act.put, sq]
    refine tkq (v := ?_) 3 rfl ?_ ?_
    rotate_left
    ·intro w' hSw
     obtain ⟨y0', y1', y2', ⟨y3, y4, y5, y6⟩, y7, y8, y9, y10⟩ := KS.out w' hSw
     go_simp <;> with_reducible rfl
    try simp only [Act.put, sq]
    refine tkq (v := ?_) 4 rfl ?_ ?_
    rotate_left
    ·intro w' hSw
     obtain ⟨y0', y1', y2', ⟨y3, y4, y5, y6⟩, y7, y8, y9, y10⟩ := KS.out w' hSw
     go_simp <;> with_reducible rfl
    try simp only [Act.put, sq]
    refine tkq (v := ?_) 5 rfl ?_ ?_
    rotate_left
    ·intro w' hSw
     obtain ⟨y0', y1', y2', ⟨y3, y4, y5, y6⟩, y7, y8, y9, y10⟩ := KS.out w' hSw
     go_simp <;> with_reducible rfl
    try simp only [Act.put, sq]
    refine tkq (v := ?_) 6 rfl ?_ ?_
    rotate_left
    ·intro w' hSw
     obtain ⟨y0', y1', y2', ⟨y3, y4, y5, y6⟩, y7, y8, y9, y10⟩ := KS.out w' hSw
     go_simp <;> with_reducible rfl
    try simp only [Act.put, sq]
    refine tkq (v := ?_) 7 rfl ?_ ?_
    rotate_left
    ·intro w' hSw
     obtain ⟨y0', y1', y2', ⟨y3, y4, y5, y6⟩, y7, y8, y9, y10⟩ := KS.out w' hSw
     go_simp <;> with_reducible rfl
    try simp only [Act.put, sq]
    refine tkq (v := ?_) 8 rfl ?_ ?_
    rotate_left
    ·intro w' hSw
     obtain ⟨y0', y1', y2', ⟨y3, y4, y5, y6⟩, y7, y8, y9, y10⟩ := KS.out w' hSw
     go_simp <;> with_reducible rfl
    try simp only [Act.put, sq]
    refine tkq (v := ?_) 9 rfl ?_ ?_
    rotate_left
    ·intro w' hSw
     obtain ⟨y0', y1', y2', ⟨y3, y4, y5, y6⟩, y7, y8, y9, y10⟩ := KS.out w' hSw
     go_simp <;> with_reducible rfl
    try simp only [Act.put, sq]
    refine tkq (v := ?_) 10 rfl ?_ ?_
    rotate_left
    ·intro w' hSw
     obtain ⟨y0', y1', y2', ⟨y3, y4, y5, y6⟩, y7, y8, y9, y10⟩ := KS.out w' hSw
     go_simp <;> with_reducible rfl
    try simp only [Act.put, sq]
    refine tkq (v := ?_) 11 rfl ?_ ?_
    rotate_left
    ·intro w' hSw
     obtain ⟨y0', y1', y2', ⟨y3, y4, y5, y6⟩, y7, y8, y9, y10⟩ := KS.out w' hSw
     go_simp <;> with_reducible rfl
    try simp only [Act.put, sq]
    refine tkq (v := ?_) 12 rfl ?_ ?_
    rotate_left
    ·intro w' hSw
     obtain ⟨y0', y1', y2', ⟨y3, y4, y5, y6⟩, y7, y8, y9, y10⟩ := KS.out w' hSw
     go_simp <;> with_reducible rfl
    try simp only [Act.put, sq]
    refine tkq (v := ?_) 13 rfl ?_ ?_
    rotate_left
    ·intro w' hSw
     obtain ⟨y0', y1', y2', ⟨y3, y4, y5, y6⟩, y7, y8, y9, y10⟩ := KS.out w' hSw
     go_simp <;> with_reducible rfl
    try simp only [Act.put, sq]
    refine rdq 14 rfl fun K hK => ?_
    go_simp
    go_at_call 68
    refine (IP.out tu σ _ _ w2.drew Z X hp (KP.out w2.drew _ kd.2.2.2 HZ.out).2.1 (KT.out w2.drew _ kd.2.2.2 HX.out).2.1 HZ.out HX.out (M2.out.later (Below.refl _ _).drew) ⟨F2.out.s, F2.out.f, F2.out.sr, F2.out.fr⟩).mono ?_
    rintro e w4 ⟨rfl, hm4, he4⟩
    have A4 : Hid (Blk w4 w.heap.size #[.int .i64 x0, .slice (some ⟨pb, po, none⟩) 2 c] 30) := kd.1.exq he4 (by omega)
    have C4 : Hid (Blk w4 (w.heap.size + 1) #[.int .i64 y0, .slice (some ⟨tb, to_, none⟩) 2 c'] 30) := kd.2.1.exq he4 (by omega)
    have G4 : Hid (Blk w4 F #[(.func (.func 68) #[] #[.pointer (some ⟨S, 0, none⟩), .pointer (some ⟨F, 0, none⟩)])] 66) := kd.2.2.1.exq he4 F2.out.fr
    have k4 : Blk w4 w.heap.size #[.int .i64 x0, .slice (some ⟨pb, po, none⟩) 2 c] 30 ∧ Blk w4 (w.heap.size + 1) #[.int .i64 y0, .slice (some ⟨tb, to_, none⟩) 2 c'] 30 ∧ Blk w4 F #[(.func (.func 68) #[] #[.pointer (some ⟨S, 0, none⟩), .pointer (some ⟨F, 0, none⟩)])] 66 ∧ ExQ (fun b => b = r) w w4 := ⟨A4.out, C4.out, G4.out, kd.2.2.2.trans he4⟩
    have M4 := hide hm4
    have FT4 : Hid (Fit w4 S F r) := (show Fit w2.drew S F r from ⟨F2.out.s, F2.out.f, F2.out.sr, F2.out.fr⟩).exq he4
    clear hm4 he4
    obtain ⟨b1, τ, hbt⟩ : ∃ b1 τ, cyT p tu σ = (b1, τ) := ⟨_, _, rfl⟩
    rw [hbt] at M4 HC ⊢
    clear hbt
    simp only at M4 HC ⊢
    cases b1 with
    | true =>
     rw [if_pos rfl] at HC
     go_simp
     refine hK.out _ _ (by exact k4) (fun hHeld => ?_)
     clear hK K
     try simp only [Act.put, sq]
     refine tkq (v := ?_) 15 rfl ?_ ?_
     rotate_left
     ·intro w' hSw
      go_simp <;> with_reducible rfl
     try simp only [Act.put, sq]
     refine tkq (v := ?_) 16 rfl ?_ ?_
     rotate_left
     ·intro w' hSw
      go_simp <;> with_reducible rfl
     try simp only [Act.put, sq]
     refine tkq (v := ?_) 17 rfl ?_ ?_
     rotate_left
     ·intro w' hSw
      obtain ⟨y0', y1', y2', ⟨y3, y4, y5, y6⟩, y7, y8, y9, y10⟩ := KS.out w' hSw
      go_simp <;> with_reducible rfl
     try simp only [Act.put, sq]
     refine tkq (v := ?_) 18 rfl ?_ ?_
     rotate_left
     ·intro w' hSw
      obtain ⟨y0', y1', y2', ⟨y3, y4, y5, y6⟩, y7, y8, y9, y10⟩ := KS.out w' hSw
      go_simp <;> with_reducible rfl
     try simp only [Act.put, sq]
     refine tkq (v := ?_) 19 rfl ?_ ?_
     rotate_left
     ·intro w' hSw
      obtain ⟨y0', y1', y2', ⟨y3, y4, y5, y6⟩, y7, y8, y9, y10⟩ := KS.out w' hSw
      go_simp <;> with_reducible rfl
     try simp only [Act.put, sq]
     refine tkq (v := ?_) 20 rfl ?_ ?_
     rotate_left
     ·intro w' hSw
      obtain ⟨y0', y1', y2', ⟨y3, y4, y5, y6⟩, y7, y8, y9, y10⟩ := KS.out w' hSw
      go_simp <;> with_reducible rfl
     try simp only [Act.put, sq]
     refine tkq (v := ?_) 21 rfl ?_ ?_
     rotate_left
     ·intro w' hSw
      obtain ⟨y0', y1', y2', ⟨y3, y4, y5, y6⟩, y7, y8, y9, y10⟩ := KS.out w' hSw
      go_simp <;> with_reducible rfl
     try simp only [Act.put, sq]
     refine tkq (v := ?_) 22 rfl ?_ ?_
     rotate_left
     ·intro w' hSw
      obtain ⟨y0', y1', y2', ⟨y3, y4, y5, y6⟩, y7, y8, y9, y10⟩ := KS.out w' hSw
      go_simp <;> with_reducible rfl
     try simp only [Act.put, sq]
     refine tkq (v := ?_) 23 rfl ?_ ?_
     rotate_left
     ·intro w' hSw
      obtain ⟨y0', y1', y2', ⟨y3, y4, y5, y6⟩, y7, y8, y9, y10⟩ := KS.out w' hSw
      go_simp <;> with_reducible rfl
     try simp only [Act.put, sq]
     refine tkq (v := ?_) 24 rfl ?_ ?_
     rotate_left
     ·intro w' hSw
      obtain ⟨y0', y1', y2', ⟨y3, y4, y5, y6⟩, y7, y8, y9, y10⟩ := KS.out w' hSw
      go_simp <;> with_reducible rfl
     try simp only [Act.put, sq]
     refine tkq (v := ?_) 25 rfl ?_ ?_
     rotate_left
     ·intro w' hSw
      obtain ⟨y0', y1', y2', ⟨y3, y4, y5, y6⟩, y7, y8, y9, y10⟩ := KS.out w' hSw
      go_simp <;> with_reducible rfl
     try simp only [Act.put, sq]
     refine rdq 26 rfl fun K hK => ?_
     go_simp
     go_at_call 68
     refine (IQ.out tv τ _ _ w4 Z X hq (KP.out w4 _ k4.2.2.2 HZ.out).2.2 (KT.out w4 _ k4.2.2.2 HX.out).2.2 HZ.out HX.out M4.out FT4.out).mono ?_
     rintro e w6 ⟨rfl, hm6, he6⟩
     have A6 : Hid (Blk w6 w.heap.size #[.int .i64 x0, .slice (some ⟨pb, po, none⟩) 2 c] 30) := k4.1.exq he6 (by omega)
     have C6 : Hid (Blk w6 (w.heap.size + 1) #[.int .i64 y0, .slice (some ⟨tb, to_, none⟩) 2 c'] 30) := k4.2.1.exq he6 (by omega)
     have G6 : Hid (Blk w6 F #[(.func (.func 68) #[] #[.pointer (some ⟨S, 0, none⟩), .pointer (some ⟨F, 0, none⟩)])] 66) := k4.2.2.1.exq he6 F2.out.fr
     have k6 : Blk w6 w.heap.size #[.int .i64 x0, .slice (some ⟨pb, po, none⟩) 2 c] 30 ∧ Blk w6 (w.heap.size + 1) #[.int .i64 y0, .slice (some ⟨tb, to_, none⟩) 2 c'] 30 ∧ Blk w6 F #[(.func (.func 68) #[] #[.pointer (some ⟨S, 0, none⟩), .pointer (some ⟨F, 0, none⟩)])] 66 ∧ ExQ (fun b => b = r) w w6 := ⟨A6.out, C6.out, G6.out, k4.2.2.2.trans he6⟩
     rw [← HC.out] at hm6 ⊢
     have M6 := hide hm6
     obtain ⟨b2, hb2⟩ : ∃ b2, b2 = (cyT ⟨x0, [p, q]⟩ ⟨y0, [tu, tv]⟩ σ).1 := ⟨_, rfl⟩
     rw [← hb2]
     have HB2 := hide hb2
     clear hm6 he6 hb2
     go_simp
     refine hK.out _ _ (by exact k6) (fun hHeld => ?_)
     clear hK K
     try simp only [Act.put, sq]
     refine tkq (v := ?_) 27 rfl ?_ ?_
     rotate_left
     ·intro w' hSw
      go_simp <;> with_reducible rfl
     try simp only [Act.put, sq]
     refine tkq (v := ?_) 28 rfl ?_ ?_
     rotate_left
     ·intro w' hSw
      go_simp <;> with_reducible rfl
     try simp only [Act.put, sq]
     refine wpAnyH_done (by kernel_rfl) ?_ _
     go_wp2_with fail
     go_ret
     exact ⟨by rw [← HB2.out]; rfl, M6.out, k6.2.2.2⟩
    | false =>
     rw [if_neg (by simp)] at HC
     go_simp
     refine hK.out _ _ (by exact k4) (fun hHeld => ?_)
     clear hK K
     try simp only [Act.put, sq]
     refine tkq (v := ?_) 15 rfl ?_ ?_
     rotate_left
     ·intro w' hSw
      go_simp <;> with_reducible rfl
     try simp only [Act.put, sq]
     refine tkq (v := ?_) 16 rfl ?_ ?_
     rotate_left
     ·intro w' hSw
      go_simp <;> with_reducible rfl
     try simp only [Act.put, sq]
     refine wpAnyH_take (i := 17) (v := undef) rfl (by kernel_rfl) (by kernel_rfl) (by kernel_rfl) (fun _ _ _ h => h) (Or.inr ⟨by rfl, rfl⟩) (by assumption) ?_
     try simp only [Act.put, sq]
     refine wpAnyH_take (i := 18) (v := undef) rfl (by kernel_rfl) (by kernel_rfl) (by kernel_rfl) (fun _ _ _ h => h) (Or.inr ⟨by rfl, rfl⟩) (by assumption) ?_
     try simp only [Act.put, sq]
     refine wpAnyH_take (i := 19) (v := undef) rfl (by kernel_rfl) (by kernel_rfl) (by kernel_rfl) (fun _ _ _ h => h) (Or.inr ⟨by rfl, rfl⟩) (by assumption) ?_
     try simp only [Act.put, sq]
     refine wpAnyH_take (i := 20) (v := undef) rfl (by kernel_rfl) (by kernel_rfl) (by kernel_rfl) (fun _ _ _ h => h) (Or.inr ⟨by rfl, rfl⟩) (by assumption) ?_
     try simp only [Act.put, sq]
     refine wpAnyH_take (i := 21) (v := undef) rfl (by kernel_rfl) (by kernel_rfl) (by kernel_rfl) (fun _ _ _ h => h) (Or.inr ⟨by rfl, rfl⟩) (by assumption) ?_
     try simp only [Act.put, sq]
     refine wpAnyH_take (i := 22) (v := undef) rfl (by kernel_rfl) (by kernel_rfl) (by kernel_rfl) (fun _ _ _ h => h) (Or.inr ⟨by rfl, rfl⟩) (by assumption) ?_
     try simp only [Act.put, sq]
     refine wpAnyH_take (i := 23) (v := undef) rfl (by kernel_rfl) (by kernel_rfl) (by kernel_rfl) (fun _ _ _ h => h) (Or.inr ⟨by rfl, rfl⟩) (by assumption) ?_
     try simp only [Act.put, sq]
     refine wpAnyH_take (i := 24) (v := undef) rfl (by kernel_rfl) (by kernel_rfl) (by kernel_rfl) (fun _ _ _ h => h) (Or.inr ⟨by rfl, rfl⟩) (by assumption) ?_
     try simp only [Act.put, sq]
     refine wpAnyH_take (i := 25) (v := undef) rfl (by kernel_rfl) (by kernel_rfl) (by kernel_rfl) (fun _ _ _ h => h) (Or.inr ⟨by rfl, rfl⟩) (by assumption) ?_
     try simp only [Act.put, sq]
     refine wpAnyH_take (i := 26) (v := undef) rfl (by kernel_rfl) (by kernel_rfl) (by kernel_rfl) (fun _ _ _ h => h) (Or.inr ⟨by rfl, rfl⟩) (by assumption) ?_
     try simp only [Act.put, sq]
     refine tkq (v := ?_) 27 rfl ?_ ?_
     rotate_left
     ·intro w' hSw
      go_simp <;> with_reducible rfl
     try simp only [Act.put, sq]
     refine tkq (v := ?_) 28 rfl ?_ ?_
     rotate_left
     ·intro w' hSw
      go_simp <;> with_reducible rfl
     try simp only [Act.put, sq]
     refine wpAnyH_done (by kernel_rfl) ?_ _
     go_wp2_with fail
     go_ret
     refine ⟨by rw [HC.out]; rfl, ?_, k4.2.2.2⟩
     rw [HC.out]
     exact M4.out
   ·have HC := hide (fun σ => cyT_no (p := p) (q := q) (t := t) (σ := σ) ht2 x0)
    have hl : ((t.subs.length : Int) == 2) = false := by simp; omega
    clear ht2
    have kd : Blk w2.drew (w.heap.size + 1) #[.int .i64 t.base, .slice a' t.subs.length c'] 30 := C2.out
    refine wp_region_held_drew (S := fun w' => Blk w' (w.heap.size + 1) #[.int .i64 t.base, .slice a' t.subs.length c'] 30) (by kernel_rfl) kd (fun hHeld => ?_)
    refine tkq (v := ?_) 0 rfl ?_ ?_
    rotate_left
    ·intro w' hSw
     go_simp <;> with_reducible rfl
    try simp only [Act.put, sq]
    refine tkq (v := ?_) 1 rfl ?_ ?_
    rotate_left
    ·intro w' hSw
     have y1 : w'.cell? ⟨w.heap.size + 1, 1, none⟩ = some (.slice a' t.subs.length c') := hSw.cell 1
     go_simp <;> with_reducible rfl
    try simp only [Act.put, sq]
    refine tkq (v := ?_) 2 rfl ?_ ?_
    rotate_left
    ·intro w' hSw
     go_simp <;> with_reducible rfl
    try simp only [Act.put, sq]
    refine tkq (v := ?_) 3 rfl ?_ ?_
    rotate_left
    ·intro w' hSw
     go_simp <;> with_reducible rfl
    try simp only [Act.put, sq]
    refine tkq (v := ?_) 4 rfl ?_ ?_
    rotate_left
    ·intro w' hSw
     go_simp <;> with_reducible rfl
    try simp only [Act.put, sq]
    refine wpAnyH_take (i := 5) (v := undef) rfl (by kernel_rfl) (by kernel_rfl) (by kernel_rfl) (fun _ _ _ h => h) (Or.inr ⟨by rfl, rfl⟩) (by assumption) ?_
    try simp only [Act.put, sq]
    refine wpAnyH_take (i := 6) (v := undef) rfl (by kernel_rfl) (by kernel_rfl) (by kernel_rfl) (fun _ _ _ h => h) (Or.inr ⟨by rfl, rfl⟩) (by assumption) ?_
    try simp only [Act.put, sq]
    refine wpAnyH_take (i := 7) (v := undef) rfl (by kernel_rfl) (by kernel_rfl) (by kernel_rfl) (fun _ _ _ h => h) (Or.inr ⟨by rfl, rfl⟩) (by assumption) ?_
    try simp only [Act.put, sq]
    refine wpAnyH_take (i := 8) (v := undef) rfl (by kernel_rfl) (by kernel_rfl) (by kernel_rfl) (fun _ _ _ h => h) (Or.inr ⟨by rfl, rfl⟩) (by assumption) ?_
    try simp only [Act.put, sq]
    refine wpAnyH_take (i := 9) (v := undef) rfl (by kernel_rfl) (by kernel_rfl) (by kernel_rfl) (fun _ _ _ h => h) (Or.inr ⟨by rfl, rfl⟩) (by assumption) ?_
    try simp only [Act.put, sq]
    refine wpAnyH_take (i := 10) (v := undef) rfl (by kernel_rfl) (by kernel_rfl) (by kernel_rfl) (fun _ _ _ h => h) (Or.inr ⟨by rfl, rfl⟩) (by assumption) ?_
    try simp only [Act.put, sq]
    refine wpAnyH_take (i := 11) (v := undef) rfl (by kernel_rfl) (by kernel_rfl) (by kernel_rfl) (fun _ _ _ h => h) (Or.inr ⟨by rfl, rfl⟩) (by assumption) ?_
    try simp only [Act.put, sq]
    refine wpAnyH_take (i := 12) (v := undef) rfl (by kernel_rfl) (by kernel_rfl) (by kernel_rfl) (fun _ _ _ h => h) (Or.inr ⟨by rfl, rfl⟩) (by assumption) ?_
    try simp only [Act.put, sq]
    refine wpAnyH_take (i := 13) (v := undef) rfl (by kernel_rfl) (by kernel_rfl) (by kernel_rfl) (fun _ _ _ h => h) (Or.inr ⟨by rfl, rfl⟩) (by assumption) ?_
    try simp only [Act.put, sq]
    refine wpAnyH_take (i := 14) (v := undef) rfl (by kernel_rfl) (by kernel_rfl) (by kernel_rfl) (fun _ _ _ h => h) (Or.inr ⟨by rfl, rfl⟩) (by assumption) ?_
    try simp only [Act.put, sq]
    refine tkq (v := ?_) 15 rfl ?_ ?_
    rotate_left
    ·intro w' hSw
     go_simp <;> with_reducible rfl
    try simp only [Act.put, sq]
    refine tkq (v := ?_) 16 rfl ?_ ?_
    rotate_left
    ·intro w' hSw
     go_simp <;> with_reducible rfl
    try simp only [Act.put, sq]
    refine wpAnyH_take (i := 17) (v := undef) rfl (by kernel_rfl) (by kernel_rfl) (by kernel_rfl) (fun _ _ _ h => h) (Or.inr ⟨by rfl, rfl⟩) (by assumption) ?_
    try simp only [Act.put, sq]
    refine wpAnyH_take (i := 18) (v := undef) rfl (by kernel_rfl) (by kernel_rfl) (by kernel_rfl) (fun _ _ _ h => h) (Or.inr ⟨by rfl, rfl⟩) (by assumption) ?_
    try simp only [Act.put, sq]
    refine wpAnyH_take (i := 19) (v := undef) rfl (by kernel_rfl) (by kernel_rfl) (by kernel_rfl) (fun _ _ _ h => h) (Or.inr ⟨by rfl, rfl⟩) (by assumption) ?_
    try simp only [Act.put, sq]
    refine wpAnyH_take (i := 20) (v := undef) rfl (by kernel_rfl) (by kernel_rfl) (by kernel_rfl) (fun _ _ _ h => h) (Or.inr ⟨by rfl, rfl⟩) (by assumption) ?_
    try simp only [Act.put, sq]
    refine wpAnyH_take (i := 21) (v := undef) rfl (by kernel_rfl) (by kernel_rfl) (by kernel_rfl) (fun _ _ _ h => h) (Or.inr ⟨by rfl, rfl⟩) (by assumption) ?_
    try simp only [Act.put, sq]
    refine wpAnyH_take (i := 22) (v := undef) rfl (by kernel_rfl) (by kernel_rfl) (by kernel_rfl) (fun _ _ _ h => h) (Or.inr ⟨by rfl, rfl⟩) (by assumption) ?_
    try simp only [Act.put, sq]
    refine wpAnyH_take (i := 23) (v := undef) rfl (by kernel_rfl) (by kernel_rfl) (by kernel_rfl) (fun _ _ _ h => h) (Or.inr ⟨by rfl, rfl⟩) (by assumption) ?_
    try simp only [Act.put, sq]
    refine wpAnyH_take (i := 24) (v := undef) rfl (by kernel_rfl) (by kernel_rfl) (by kernel_rfl) (fun _ _ _ h => h) (Or.inr ⟨by rfl, rfl⟩) (by assumption) ?_
    try simp only [Act.put, sq]
    refine wpAnyH_take (i := 25) (v := undef) rfl (by kernel_rfl) (by kernel_rfl) (by kernel_rfl) (fun _ _ _ h => h) (Or.inr ⟨by rfl, rfl⟩) (by assumption) ?_
    try simp only [Act.put, sq]
    refine wpAnyH_take (i := 26) (v := undef) rfl (by kernel_rfl) (by kernel_rfl) (by kernel_rfl) (fun _ _ _ h => h) (Or.inr ⟨by rfl, rfl⟩) (by assumption) ?_
    try simp only [Act.put, sq]
    refine tkq (v := ?_) 27 rfl ?_ ?_
    rotate_left
    ·intro w' hSw
     go_simp <;> with_reducible rfl
    try simp only [Act.put, sq]
    refine tkq (v := ?_) 28 rfl ?_ ?_
    rotate_left
    ·intro w' hSw
     go_simp <;> with_reducible rfl
    try simp only [Act.put, sq]
    refine wpAnyH_done (by kernel_rfl) ?_ _
    go_wp2_with fail
    go_ret
    refine ⟨by rw [HC.out]; rfl, ?_, E2.out.drew⟩
    rw [HC.out]
    exact M2.out.later (Below.refl _ _).drew
def bsY : List Ty → Prop
 | [] => True
 | ⟨x, l⟩ :: r => (∃ n : Nat, x = (n : Int) ∧ n < 2001) ∧ bsY l ∧ bsY r
theorem bsY_cons (t : Ty) (r : List Ty) : bsY (t :: r) ↔ (∃ n : Nat, t.base = (n : Int) ∧ n < 2001) ∧ bsY t.subs ∧ bsY r := by
 obtain ⟨x, l⟩ := t
 simp only [bsY]
theorem bsY_two {x : Int} {p q : Ty} (h : bsY [⟨x, [p, q]⟩]) : bsY [p] ∧ bsY [q] := by
 rw [bsY_cons] at h
 have h2 : bsY [p, q] := h.2.1
 rw [bsY_cons] at h2
 exact ⟨(bsY_cons p []).2 ⟨h2.1, h2.2.1, by simp [bsY]⟩, h2.2.2⟩
def HvR (w : World) (H D : Nat) (X : Nat → Prop) (σ : List (Int × Ty)) : Prop :=
 ∃ hs ks : Array Value, Blk w H hs 30 ∧ Blk w D ks 4 ∧ hs.size = 4002 ∧ ks.size = 2001 ∧ (∀ n : Nat, n < 2001 → ks[n]? = some (.bool (lkY σ (n : Int)).isSome)) ∧
  ∀ (n : Nat) y, n < 2001 → lkY σ (n : Int) = some y → ∃ a c, hs[n * 2]? = some (.int .i64 y.base) ∧ hs[n * 2 + 1]? = some (.slice a y.subs.length c) ∧ SlY w X a y.subs
theorem HvR.exq {w w' : World} {Q X : Nat → Prop} {H D : Nat} {σ : List (Int × Ty)} (h : HvR w H D X σ) (he : ExQ Q w w') (hX : ∀ b, X b → ¬ Q b) (hH : ¬ Q H) (hD : ¬ Q D) : HvR w' H D X σ := by
 obtain ⟨hs, ks, h1, h2, h3, h4, h5, h6⟩ := h
 refine ⟨hs, ks, h1.exq he hH, h2.exq he hD, h3, h4, h5, fun n y hn hy => ?_⟩
 obtain ⟨a, c, e1, e2, e3⟩ := h6 n y hn hy
 exact ⟨a, c, e1, e2, e3.exq he hX⟩
theorem HvR.later {w w' : World} {X : Nat → Prop} {H D : Nat} {σ : List (Int × Ty)} (h : HvR w H D X σ) (hb : Below w.heap.size w w') : HvR w' H D X σ := h.exq (ExQ.ofBelow (Q := fun _ => False) hb) (fun _ _ h => h) (fun h => h) (fun h => h)
theorem bcellY {w w' : World} (hb : Below w.heap.size w w') {b o : Nat} {v : Value} (h : w.cell? ⟨b, o, none⟩ = some v) : w'.cell? ⟨b, o, none⟩ = some v := (hb.cell (p := ⟨b, o, none⟩) (cell_lt h)).trans h
theorem HvR.put {w : World} {H D : Nat} {X : Nat → Prop} {σ : List (Int × Ty)} {n : Nat} {t : Ty} {a : Option Addr} {c : Nat} (h : HvR w H D X σ) (hHK : H ≠ D) (hn : n < 2001) (hl : lkY σ (n : Int) = none) (hX : ∀ b, X b → ¬ (b = H ∨ b = D)) (hs : SlY w X a t.subs) :
  HvR (((w.setCell ⟨D, n, none⟩ (.bool true)).setCell ⟨H, n * 2, none⟩ (.int .i64 t.base)).setCell ⟨H, n * 2 + 1, none⟩ (.slice a t.subs.length c)) H D X (σ ++ [((n : Int), t)]) := by
 obtain ⟨hs0, ks, h1, h2, h3, h4, h5, h6⟩ := h
 have E : ExQ (fun b => b = H ∨ b = D) w (((w.setCell ⟨D, n, none⟩ (.bool true)).setCell ⟨H, n * 2, none⟩ (.int .i64 t.base)).setCell ⟨H, n * 2 + 1, none⟩ (.slice a t.subs.length c)) := (((ExQ.refl _ _).set (Or.inr rfl) _ _).set (Or.inl rfl) _ _).set (Or.inl rfl) _ _
 refine ⟨_, _, ((h1.setOther n (.bool true) hHK).set (n * 2) (.int .i64 t.base)).set (n * 2 + 1) (.slice a t.subs.length c), ((h2.set n (.bool true)).setOther (n * 2) _ (Ne.symm hHK)).setOther (n * 2 + 1) _ (Ne.symm hHK), by simp [h3], by simp [h4], fun m hm => ?_, fun m y hm hy => ?_⟩
 ·rw [lkY_push _ _ _ _ hl]
  by_cases e : n = m
  ·subst e
   simp [h4, hn]
  ·rw [if_neg (by omega), Array.getElem?_setIfInBounds_ne e]
   exact h5 m hm
 ·rw [lkY_push _ _ _ _ hl] at hy
  by_cases e : n = m
  ·subst e
   rw [if_pos rfl, Option.some.injEq] at hy
   subst hy
   refine ⟨a, c, ?_, ?_, hs.exq E hX⟩
   ·rw [Array.getElem?_setIfInBounds_ne (by omega), Array.getElem?_setIfInBounds_self_of_lt (by omega)]
   ·rw [Array.getElem?_setIfInBounds_self_of_lt (by simp; omega)]
  ·rw [if_neg (by omega)] at hy
   obtain ⟨a', c', e1, e2, e3⟩ := h6 m y hm hy
   refine ⟨a', c', ?_, ?_, e3.exq E hX⟩
   ·rw [Array.getElem?_setIfInBounds_ne (by omega), Array.getElem?_setIfInBounds_ne (by omega)]
    exact e1
   ·rw [Array.getElem?_setIfInBounds_ne (by omega), Array.getElem?_setIfInBounds_ne (by omega)]
    exact e2
def TcP (p t : Ty) (σ : List (Int × Ty)) (H D : Nat) (X : Nat → Prop) (w : World) (e : Ending) (w' : World) : Prop := e = .returned (.bool (cyT p t σ).1) ∧ HvR w' H D X (cyT p t σ).2 ∧ ExQ (fun b => b = H ∨ b = D) w w'
set_option maxHeartbeats 8000000 in
theorem typeCase_any (H D : Nat) (hHK : H ≠ D) (p : Ty) : ∀ (t : Ty) (σ : List (Int × Ty)) (v u : Value) (w : World) (Z X : Nat → Prop), shY [p] → bsY [p] → YV w Z v p → YV w X u t → (∀ b, Z b → ¬ (b = H ∨ b = D)) → (∀ b, X b → ¬ (b = H ∨ b = D)) → HvR w H D X σ →
  Calls Tryz.prog 52 #[v, u, .slice (some ⟨H, 0, none⟩) 2001 2001, .slice (some ⟨D, 0, none⟩) 2001 2001] w fun e w' => TcP p t σ H D X w e w' := by
 induction p using Ty.ind with
 | h x0 l0 ih =>
  intro t σ v u w Z X hsh hbs hv hu hZ hX hM
  have IH := hide ih
  clear ih
  obtain ⟨a, c, rfl, hs⟩ := hv
  have HU := hide hu
  obtain ⟨a', c', rfl, hs'⟩ := hu
  have HX := hide hX
  have HZ := hide hZ
  have hLK : H < w.heap.size ∧ D < w.heap.size := by obtain ⟨_, _, h1, h2, _⟩ := hM; exact ⟨h1.lt, h2.lt⟩
  have HNK := hide hHK
  clear hHK
  have B2 : Hid (Below w.heap.size w ((w.alloc (.cells #[.int .i64 x0, .slice a l0.length c] 30)).alloc (.cells #[.int .i64 t.base, .slice a' t.subs.length c'] 30))) := ((Below.refl _ _).alloc (Nat.le_refl _) _).alloc (by simp) _
  have A2 : Hid (Blk ((w.alloc (.cells #[.int .i64 x0, .slice a l0.length c] 30)).alloc (.cells #[.int .i64 t.base, .slice a' t.subs.length c'] 30)) w.heap.size #[.int .i64 x0, .slice a l0.length c] 30) := (Blk.new _ _ _).alloc _
  have C2 : Hid (Blk ((w.alloc (.cells #[.int .i64 x0, .slice a l0.length c] 30)).alloc (.cells #[.int .i64 t.base, .slice a' t.subs.length c'] 30)) (w.heap.size + 1) #[.int .i64 t.base, .slice a' t.subs.length c'] 30) := by have h := Blk.new (w.alloc (.cells #[.int .i64 x0, .slice a l0.length c] 30)) #[.int .i64 t.base, .slice a' t.subs.length c'] 30; rw [World.size_alloc] at h; exact h
  have M2 := hide (hM.later B2.out)
  have HV2 := hide (HU.out.later B2.out)
  have hs2 := hide ((show SlY w X a' t.subs from hs').later B2.out)
  rcases shY_look hsh with rfl | ⟨p, q, rfl, hp, hq⟩
  ·clear IH hs hsh hM
   obtain ⟨⟨n, hxn, hn⟩, -⟩ := (bsY_cons _ _).1 hbs
   have hxn' : x0 = (n : Int) := hxn
   subst hxn'
   clear hxn hbs
   simp only [List.length_nil] at *
   go_enter Tryz.func52, Tryz.ntmps52
   go_upto_region 1 with fail
   generalize ((w.alloc (.cells #[.int .i64 (n : Int), .slice a 0 c] 30)).alloc (.cells #[.int .i64 t.base, .slice a' t.subs.length c'] 30)) = w2 at *
   have x0' := A2.out.c0
   have x1' := A2.out.c1
   have z0 := C2.out.c0
   have z1 := C2.out.c1
   obtain ⟨rh, rk, m1, m2, m3, m4, m5, m6⟩ := M2.out
   have ln : (n : Int) < 2001 := by omega
   have ln0 : (0 : Int) ≤ (n : Int) := by omega
   have k0 := m2.cell n
   rw [m5 n hn] at k0
   cases hlk : lkY σ (n : Int) with
   | some y =>
    rw [hlk] at k0
    obtain ⟨ay, cy, e1, e2, e3⟩ := m6 n y hn hlk
    have h0 := (m1.cell (n * 2)).trans e1
    have h1 := (m1.cell (n * 2 + 1)).trans e2
    have HYV : Hid (YV w2 X (.agg #[.int .i64 y.base, .slice ay y.subs.length cy]) y) := ⟨ay, cy, rfl, e3⟩
    have HC := hide (cyT_old (t := t) hlk)
    have HN := hide hn
    clear hlk m1 m2 m3 m4 m5 m6 e1 e2 e3 hn
    simp only [Option.isSome_some] at k0
    go_upto_region 3 with fail
    have kd : Blk w2.drew w.heap.size #[.int .i64 (n : Int), .slice a 0 c] 30 ∧ Blk w2.drew (w.heap.size + 1) #[.int .i64 t.base, .slice a' t.subs.length c'] 30 ∧ w2.drew.cell? ⟨H, n * 2, none⟩ = some (.int .i64 y.base) ∧ w2.drew.cell? ⟨H, n * 2 + 1, none⟩ = some (.slice ay y.subs.length cy) := ⟨A2.out, C2.out, h0, h1⟩
    refine wp_region_held_drew (S := fun w' => Blk w' w.heap.size #[.int .i64 (n : Int), .slice a 0 c] 30 ∧ Blk w' (w.heap.size + 1) #[.int .i64 t.base, .slice a' t.subs.length c'] 30 ∧ w'.cell? ⟨H, n * 2, none⟩ = some (.int .i64 y.base) ∧ w'.cell? ⟨H, n * 2 + 1, none⟩ = some (.slice ay y.subs.length cy)) (by kernel_rfl) kd (fun hHeld => ?_)
    refine tkq (v := ?_) 0 rfl ?_ ?_
    rotate_left
    ·intro w' hSw
     obtain ⟨g1, g2, y3, y4⟩ := hSw
     have y0 : w'.cell? ⟨w.heap.size, 0, none⟩ = some (.int .i64 (n : Int)) := g1.cell 0
     have y1 : w'.cell? ⟨w.heap.size + 1, 0, none⟩ = some (.int .i64 t.base) := g2.cell 0
     have y2 : w'.cell? ⟨w.heap.size + 1, 1, none⟩ = some (.slice a' t.subs.length c') := g2.cell 1
     go_simp <;> with_reducible rfl
    try simp only [Act.put, sq]
    refine tkq (v := ?_) 1 rfl ?_ ?_
    rotate_left
    ·intro w' hSw
     obtain ⟨g1, g2, y3, y4⟩ := hSw
     have y0 : w'.cell? ⟨w.heap.size, 0, none⟩ = some (.int .i64 (n : Int)) := g1.cell 0
     have y1 : w'.cell? ⟨w.heap.size + 1, 0, none⟩ = some (.int .i64 t.base) := g2.cell 0
     have y2 : w'.cell? ⟨w.heap.size + 1, 1, none⟩ = some (.slice a' t.subs.length c') := g2.cell 1
     go_simp <;> with_reducible rfl
    try simp only [Act.put, sq]
    refine tkq (v := ?_) 2 rfl ?_ ?_
    rotate_left
    ·intro w' hSw
     obtain ⟨g1, g2, y3, y4⟩ := hSw
     have y0 : w'.cell? ⟨w.heap.size, 0, none⟩ = some (.int .i64 (n : Int)) := g1.cell 0
     have y1 : w'.cell? ⟨w.heap.size + 1, 0, none⟩ = some (.int .i64 t.base) := g2.cell 0
     have y2 : w'.cell? ⟨w.heap.size + 1, 1, none⟩ = some (.slice a' t.subs.length c') := g2.cell 1
     go_simp <;> with_reducible rfl
    try simp only [Act.put, sq]
    refine tkq (v := ?_) 3 rfl ?_ ?_
    rotate_left
    ·intro w' hSw
     obtain ⟨g1, g2, y3, y4⟩ := hSw
     have y0 : w'.cell? ⟨w.heap.size, 0, none⟩ = some (.int .i64 (n : Int)) := g1.cell 0
     have y1 : w'.cell? ⟨w.heap.size + 1, 0, none⟩ = some (.int .i64 t.base) := g2.cell 0
     have y2 : w'.cell? ⟨w.heap.size + 1, 1, none⟩ = some (.slice a' t.subs.length c') := g2.cell 1
     go_simp <;> with_reducible rfl
    try simp only [Act.put, sq]
    refine tkq (v := ?_) 4 rfl ?_ ?_
    rotate_left
    ·intro w' hSw
     obtain ⟨g1, g2, y3, y4⟩ := hSw
     have y0 : w'.cell? ⟨w.heap.size, 0, none⟩ = some (.int .i64 (n : Int)) := g1.cell 0
     have y1 : w'.cell? ⟨w.heap.size + 1, 0, none⟩ = some (.int .i64 t.base) := g2.cell 0
     have y2 : w'.cell? ⟨w.heap.size + 1, 1, none⟩ = some (.slice a' t.subs.length c') := g2.cell 1
     go_simp <;> with_reducible rfl
    try simp only [Act.put, sq]
    refine tkq (v := ?_) 5 rfl ?_ ?_
    rotate_left
    ·intro w' hSw
     obtain ⟨g1, g2, y3, y4⟩ := hSw
     have y0 : w'.cell? ⟨w.heap.size, 0, none⟩ = some (.int .i64 (n : Int)) := g1.cell 0
     have y1 : w'.cell? ⟨w.heap.size + 1, 0, none⟩ = some (.int .i64 t.base) := g2.cell 0
     have y2 : w'.cell? ⟨w.heap.size + 1, 1, none⟩ = some (.slice a' t.subs.length c') := g2.cell 1
     go_simp <;> with_reducible rfl
    try simp only [Act.put, sq]
    refine rdq 6 rfl fun K hK => ?_
    go_simp
    go_at_call 27
    refine (sameY_any y t _ _ w2.drew X X (HYV.out.later (Below.refl _ _).drew) (HV2.out.later (Below.refl _ _).drew)).mono ?_
    rintro e w4 ⟨rfl, hb4⟩
    have O4 : Hid (Below w2.heap.size w2 w4) := ((Below.refl _ _).drew).trans hb4
    have k4 : Blk w4 w.heap.size #[.int .i64 (n : Int), .slice a 0 c] 30 ∧ Blk w4 (w.heap.size + 1) #[.int .i64 t.base, .slice a' t.subs.length c'] 30 ∧ w4.cell? ⟨H, n * 2, none⟩ = some (.int .i64 y.base) ∧ w4.cell? ⟨H, n * 2 + 1, none⟩ = some (.slice ay y.subs.length cy) := ⟨kd.1.below hb4 kd.1.lt, kd.2.1.below hb4 kd.2.1.lt, bcellY hb4 kd.2.2.1, bcellY hb4 kd.2.2.2⟩
    clear hb4
    go_simp
    refine hK.out _ _ (by exact k4) (fun hHeld => ?_)
    clear hK K
    try simp only [Act.put, sq]
    refine tkq (v := ?_) 7 rfl ?_ ?_
    rotate_left
    ·intro w' hSw
     go_simp <;> with_reducible rfl
    try simp only [Act.put, sq]
    refine wpAnyH_done (by kernel_rfl) ?_ _
    go_wp2_with fail
    go_ret
    refine ⟨by rw [HC.out]; rfl, ?_, (ExQ.ofBelow B2.out).trans (ExQ.ofBelow O4.out)⟩
    rw [HC.out]
    exact M2.out.later O4.out
   | none =>
    rw [hlk] at k0
    simp only [Option.isSome_none] at k0
    have HC := hide (cyT_new (t := t) hlk)
    have W4 : Hid (HvR (((w2.setCell ⟨D, n, none⟩ (.bool true)).setCell ⟨H, n * 2, none⟩ (.int .i64 t.base)).setCell ⟨H, n * 2 + 1, none⟩ (.slice a' t.subs.length c')) H D X (σ ++ [((n : Int), t)])) := M2.out.put HNK.out hn hlk HX.out hs2.out
    have E4 : Hid (ExQ (fun b => b = H ∨ b = D) w2 (((w2.setCell ⟨D, n, none⟩ (.bool true)).setCell ⟨H, n * 2, none⟩ (.int .i64 t.base)).setCell ⟨H, n * 2 + 1, none⟩ (.slice a' t.subs.length c'))) := (((ExQ.refl _ _).set (Or.inr rfl) _ _).set (Or.inl rfl) _ _).set (Or.inl rfl) _ _
    have nK1 : w.heap.size ≠ D := by omega
    have nK2 : w.heap.size + 1 ≠ D := by omega
    have nHK : H ≠ D := HNK.out
    have M1 := hide m1
    have M2' := hide m2
    have fK : w2.frozen? ⟨D, n, none⟩ = false := m2.frozen n
    have sK := m2.lt
    have sH := m1.lt
    have q0 : (w2.setCell ⟨D, n, none⟩ (.bool true)).cell? ⟨w.heap.size, 0, none⟩ = some (.int .i64 (n : Int)) := (A2.out.setOther _ _ nK1).cell 0
    have q1 : (w2.setCell ⟨D, n, none⟩ (.bool true)).cell? ⟨w.heap.size + 1, 0, none⟩ = some (.int .i64 t.base) := (C2.out.setOther _ _ nK2).cell 0
    have q2 : (w2.setCell ⟨D, n, none⟩ (.bool true)).cell? ⟨w.heap.size + 1, 1, none⟩ = some (.slice a' t.subs.length c') := (C2.out.setOther _ _ nK2).cell 1
    obtain ⟨h0, hh0⟩ : ∃ v, (w2.setCell ⟨D, n, none⟩ (.bool true)).cell? ⟨H, n * 2, none⟩ = some v := ⟨_, ((m1.setOther n (.bool true) nHK).cell (n * 2)).trans (Array.getElem?_eq_getElem (by omega))⟩
    obtain ⟨h1, hh1⟩ : ∃ v, (w2.setCell ⟨D, n, none⟩ (.bool true)).cell? ⟨H, n * 2 + 1, none⟩ = some v := ⟨_, ((m1.setOther n (.bool true) nHK).cell (n * 2 + 1)).trans (Array.getElem?_eq_getElem (by omega))⟩
    have f0 : (w2.setCell ⟨D, n, none⟩ (.bool true)).frozen? ⟨H, n * 2, none⟩ = false := (m1.setOther n (.bool true) nHK).frozen _
    have f1 : (w2.setCell ⟨D, n, none⟩ (.bool true)).frozen? ⟨H, n * 2 + 1, none⟩ = false := (m1.setOther n (.bool true) nHK).frozen _
    have HN := hide hn
    clear hlk m1 m2 m3 m4 m5 m6 hn
    go_wp2_with fail
    go_ret
    refine ⟨by rw [HC.out]; rfl, ?_, (ExQ.ofBelow B2.out).trans E4.out⟩
    rw [HC.out]
    exact W4.out
  ·obtain ⟨pb, po, p1, p1c, p2, p2c, rfl, hKP⟩ := slY_twoE hs
   have KP := hide hKP
   have hB2 := bsY_two hbs
   clear hKP hs hsh hbs
   have IP := hide (IH.out p (by simp))
   have IQ := hide (IH.out q (by simp))
   clear IH hM
   have e2 : ([p, q] : List Ty).length = 2 := rfl
   rw [e2] at *
   clear e2
   go_enter Tryz.func52, Tryz.ntmps52
   go_upto_region 1 with fail
   generalize ((w.alloc (.cells #[.int .i64 x0, .slice (some ⟨pb, po, none⟩) 2 c] 30)).alloc (.cells #[.int .i64 t.base, .slice a' t.subs.length c'] 30)) = w2 at *
   have x1' := A2.out.c1
   go_upto_region 7 with fail
   clear x1'
   have gR : Hid (w.heap.size + 1 < w2.heap.size) := C2.out.lt
   have E2 : Hid (ExQ (fun b => b = H ∨ b = D) w w2) := ExQ.ofBelow B2.out
   by_cases ht2 : t.subs.length = 2
   ·obtain ⟨y0, ts⟩ := t
    have ht2' : ts.length = 2 := ht2
    obtain ⟨tu, tv, rfl⟩ : ∃ tu tv, ts = [tu, tv] := by match ts, ht2' with | [tu, tv], _ => exact ⟨_, _, rfl⟩
    clear ht2 ht2'
    obtain ⟨tb, to_, t1, t1c, t2, t2c, rfl, hKT⟩ := slY_twoE hs'
    have KT := hide hKT
    clear hKT hs'
    have e2 : ([tu, tv] : List Ty).length = 2 := rfl
    simp only [e2] at *
    clear e2
    have HC := hide (cyT_two (p := p) (q := q) (u := tu) (v := tv) x0 y0 σ)
    have KS : Hid (∀ w', (Blk w' w.heap.size #[.int .i64 x0, .slice (some ⟨pb, po, none⟩) 2 c] 30 ∧ Blk w' (w.heap.size + 1) #[.int .i64 y0, .slice (some ⟨tb, to_, none⟩) 2 c'] 30 ∧ ExQ (fun b => b = H ∨ b = D) w w') → w'.cell? ⟨w.heap.size, 1, none⟩ = some (.slice (some ⟨pb, po, none⟩) 2 c) ∧ w'.cell? ⟨w.heap.size + 1, 1, none⟩ = some (.slice (some ⟨tb, to_, none⟩) 2 c') ∧ (w'.cell? ⟨pb, po, none⟩ = some (.int .i64 p.base) ∧ w'.cell? ⟨pb, po + 1, none⟩ = some (.slice p1 p.subs.length p1c) ∧ w'.cell? ⟨pb, po + 2, none⟩ = some (.int .i64 q.base) ∧ w'.cell? ⟨pb, po + 2 + 1, none⟩ = some (.slice p2 q.subs.length p2c)) ∧ (w'.cell? ⟨tb, to_, none⟩ = some (.int .i64 tu.base) ∧ w'.cell? ⟨tb, to_ + 1, none⟩ = some (.slice t1 tu.subs.length t1c) ∧ w'.cell? ⟨tb, to_ + 2, none⟩ = some (.int .i64 tv.base) ∧ w'.cell? ⟨tb, to_ + 2 + 1, none⟩ = some (.slice t2 tv.subs.length t2c))) := fun w' h => ⟨h.1.cell 1, h.2.1.cell 1, (KP.out w' _ h.2.2 HZ.out).1, (KT.out w' _ h.2.2 HX.out).1⟩
    have kd : Blk w2.drew w.heap.size #[.int .i64 x0, .slice (some ⟨pb, po, none⟩) 2 c] 30 ∧ Blk w2.drew (w.heap.size + 1) #[.int .i64 y0, .slice (some ⟨tb, to_, none⟩) 2 c'] 30 ∧ ExQ (fun b => b = H ∨ b = D) w w2.drew := ⟨A2.out, C2.out, E2.out.drew⟩
    refine wp_region_held_drew (S := fun w' => Blk w' w.heap.size #[.int .i64 x0, .slice (some ⟨pb, po, none⟩) 2 c] 30 ∧ Blk w' (w.heap.size + 1) #[.int .i64 y0, .slice (some ⟨tb, to_, none⟩) 2 c'] 30 ∧ ExQ (fun b => b = H ∨ b = D) w w') (by kernel_rfl) kd (fun hHeld => ?_)
    refine tkq (v := ?_) 0 rfl ?_ ?_
    rotate_left
    ·intro w' hSw
     obtain ⟨y0', y1', ⟨y3, y4, y5, y6⟩, y7, y8, y9, y10⟩ := KS.out w' hSw
     go_simp <;> with_reducible rfl
    try simp only [Act.put, sq]
    refine tkq (v := ?_) 1 rfl ?_ ?_
    rotate_left
    ·intro w' hSw
     obtain ⟨y0', y1', ⟨y3, y4, y5, y6⟩, y7, y8, y9, y10⟩ := KS.out w' hSw
     go_simp <;> with_reducible rfl
    try simp only [Act.put, sq]
    refine tkq (v := ?_) 2 rfl ?_ ?_
    rotate_left
    ·intro w' hSw
     obtain ⟨y0', y1', ⟨y3, y4, y5, y6⟩, y7, y8, y9, y10⟩ := KS.out w' hSw
     go_simp <;> with_reducible rfl
    try simp only [Act.put, sq]
    refine tkq (v := ?_) 3 rfl ?_ ?_
    rotate_left
    ·intro w' hSw
     obtain ⟨y0', y1', ⟨y3, y4, y5, y6⟩, y7, y8, y9, y10⟩ := KS.out w' hSw
     go_simp <;> with_reducible rfl
    try simp only [Act.put, sq]
    refine tkq (v := ?_) 4 rfl ?_ ?_
    rotate_left
    ·intro w' hSw
     obtain ⟨y0', y1', ⟨y3, y4, y5, y6⟩, y7, y8, y9, y10⟩ := KS.out w' hSw
     go_simp <;> with_reducible rfl
    try simp only [Act.put, sq]
    refine tkq (v := ?_) 5 rfl ?_ ?_
    rotate_left
    ·intro w' hSw
     obtain ⟨y0', y1', ⟨y3, y4, y5, y6⟩, y7, y8, y9, y10⟩ := KS.out w' hSw
     go_simp <;> with_reducible rfl
    try simp only [Act.put, sq]
    refine tkq (v := ?_) 6 rfl ?_ ?_
    rotate_left
    ·intro w' hSw
     obtain ⟨y0', y1', ⟨y3, y4, y5, y6⟩, y7, y8, y9, y10⟩ := KS.out w' hSw
     go_simp <;> with_reducible rfl
    try simp only [Act.put, sq]
    refine tkq (v := ?_) 7 rfl ?_ ?_
    rotate_left
    ·intro w' hSw
     obtain ⟨y0', y1', ⟨y3, y4, y5, y6⟩, y7, y8, y9, y10⟩ := KS.out w' hSw
     go_simp <;> with_reducible rfl
    try simp only [Act.put, sq]
    refine tkq (v := ?_) 8 rfl ?_ ?_
    rotate_left
    ·intro w' hSw
     obtain ⟨y0', y1', ⟨y3, y4, y5, y6⟩, y7, y8, y9, y10⟩ := KS.out w' hSw
     go_simp <;> with_reducible rfl
    try simp only [Act.put, sq]
    refine tkq (v := ?_) 9 rfl ?_ ?_
    rotate_left
    ·intro w' hSw
     obtain ⟨y0', y1', ⟨y3, y4, y5, y6⟩, y7, y8, y9, y10⟩ := KS.out w' hSw
     go_simp <;> with_reducible rfl
    try simp only [Act.put, sq]
    refine tkq (v := ?_) 10 rfl ?_ ?_
    rotate_left
    ·intro w' hSw
     obtain ⟨y0', y1', ⟨y3, y4, y5, y6⟩, y7, y8, y9, y10⟩ := KS.out w' hSw
     go_simp <;> with_reducible rfl
    try simp only [Act.put, sq]
    refine tkq (v := ?_) 11 rfl ?_ ?_
    rotate_left
    ·intro w' hSw
     obtain ⟨y0', y1', ⟨y3, y4, y5, y6⟩, y7, y8, y9, y10⟩ := KS.out w' hSw
     go_simp <;> with_reducible rfl
    try simp only [Act.put, sq]
    refine tkq (v := ?_) 12 rfl ?_ ?_
    rotate_left
    ·intro w' hSw
     obtain ⟨y0', y1', ⟨y3, y4, y5, y6⟩, y7, y8, y9, y10⟩ := KS.out w' hSw
     go_simp <;> with_reducible rfl
    try simp only [Act.put, sq]
    refine tkq (v := ?_) 13 rfl ?_ ?_
    rotate_left
    ·intro w' hSw
     obtain ⟨y0', y1', ⟨y3, y4, y5, y6⟩, y7, y8, y9, y10⟩ := KS.out w' hSw
     go_simp <;> with_reducible rfl
    try simp only [Act.put, sq]
    refine tkq (v := ?_) 14 rfl ?_ ?_
    rotate_left
    ·intro w' hSw
     obtain ⟨y0', y1', ⟨y3, y4, y5, y6⟩, y7, y8, y9, y10⟩ := KS.out w' hSw
     go_simp <;> with_reducible rfl
    try simp only [Act.put, sq]
    refine rdq 15 rfl fun K hK => ?_
    go_simp
    go_at_call 52
    refine (IP.out tu σ _ _ w2.drew Z X hp hB2.1 (KP.out w2.drew _ kd.2.2 HZ.out).2.1 (KT.out w2.drew _ kd.2.2 HX.out).2.1 HZ.out HX.out (M2.out.later (Below.refl _ _).drew)).mono ?_
    rintro e w4 ⟨rfl, hm4, he4⟩
    have A4 : Hid (Blk w4 w.heap.size #[.int .i64 x0, .slice (some ⟨pb, po, none⟩) 2 c] 30) := kd.1.exq he4 (by omega)
    have C4 : Hid (Blk w4 (w.heap.size + 1) #[.int .i64 y0, .slice (some ⟨tb, to_, none⟩) 2 c'] 30) := kd.2.1.exq he4 (by omega)
    have k4 : Blk w4 w.heap.size #[.int .i64 x0, .slice (some ⟨pb, po, none⟩) 2 c] 30 ∧ Blk w4 (w.heap.size + 1) #[.int .i64 y0, .slice (some ⟨tb, to_, none⟩) 2 c'] 30 ∧ ExQ (fun b => b = H ∨ b = D) w w4 := ⟨A4.out, C4.out, kd.2.2.trans he4⟩
    have M4 := hide hm4
    clear hm4 he4
    obtain ⟨b1, τ, hbt⟩ : ∃ b1 τ, cyT p tu σ = (b1, τ) := ⟨_, _, rfl⟩
    rw [hbt] at M4 HC ⊢
    clear hbt
    simp only at M4 HC ⊢
    cases b1 with
    | true =>
     rw [if_pos rfl] at HC
     go_simp
     refine hK.out _ _ (by exact k4) (fun hHeld => ?_)
     clear hK K
     try simp only [Act.put, sq]
     refine tkq (v := ?_) 16 rfl ?_ ?_
     rotate_left
     ·intro w' hSw
      go_simp <;> with_reducible rfl
     try simp only [Act.put, sq]
     refine tkq (v := ?_) 17 rfl ?_ ?_
     rotate_left
     ·intro w' hSw
      go_simp <;> with_reducible rfl
     try simp only [Act.put, sq]
     refine tkq (v := ?_) 18 rfl ?_ ?_
     rotate_left
     ·intro w' hSw
      obtain ⟨y0', y1', ⟨y3, y4, y5, y6⟩, y7, y8, y9, y10⟩ := KS.out w' hSw
      go_simp <;> with_reducible rfl
     try simp only [Act.put, sq]
     refine tkq (v := ?_) 19 rfl ?_ ?_
     rotate_left
     ·intro w' hSw
      obtain ⟨y0', y1', ⟨y3, y4, y5, y6⟩, y7, y8, y9, y10⟩ := KS.out w' hSw
      go_simp <;> with_reducible rfl
     try simp only [Act.put, sq]
     refine tkq (v := ?_) 20 rfl ?_ ?_
     rotate_left
     ·intro w' hSw
      obtain ⟨y0', y1', ⟨y3, y4, y5, y6⟩, y7, y8, y9, y10⟩ := KS.out w' hSw
      go_simp <;> with_reducible rfl
     try simp only [Act.put, sq]
     refine tkq (v := ?_) 21 rfl ?_ ?_
     rotate_left
     ·intro w' hSw
      obtain ⟨y0', y1', ⟨y3, y4, y5, y6⟩, y7, y8, y9, y10⟩ := KS.out w' hSw
      go_simp <;> with_reducible rfl
     try simp only [Act.put, sq]
     refine tkq (v := ?_) 22 rfl ?_ ?_
     rotate_left
     ·intro w' hSw
      obtain ⟨y0', y1', ⟨y3, y4, y5, y6⟩, y7, y8, y9, y10⟩ := KS.out w' hSw
      go_simp <;> with_reducible rfl
     try simp only [Act.put, sq]
     refine tkq (v := ?_) 23 rfl ?_ ?_
     rotate_left
     ·intro w' hSw
      obtain ⟨y0', y1', ⟨y3, y4, y5, y6⟩, y7, y8, y9, y10⟩ := KS.out w' hSw
      go_simp <;> with_reducible rfl
     try simp only [Act.put, sq]
     refine tkq (v := ?_) 24 rfl ?_ ?_
     rotate_left
     ·intro w' hSw
      obtain ⟨y0', y1', ⟨y3, y4, y5, y6⟩, y7, y8, y9, y10⟩ := KS.out w' hSw
      go_simp <;> with_reducible rfl
     try simp only [Act.put, sq]
     refine tkq (v := ?_) 25 rfl ?_ ?_
     rotate_left
     ·intro w' hSw
      obtain ⟨y0', y1', ⟨y3, y4, y5, y6⟩, y7, y8, y9, y10⟩ := KS.out w' hSw
      go_simp <;> with_reducible rfl
     try simp only [Act.put, sq]
     refine tkq (v := ?_) 26 rfl ?_ ?_
     rotate_left
     ·intro w' hSw
      obtain ⟨y0', y1', ⟨y3, y4, y5, y6⟩, y7, y8, y9, y10⟩ := KS.out w' hSw
      go_simp <;> with_reducible rfl
     try simp only [Act.put, sq]
     refine tkq (v := ?_) 27 rfl ?_ ?_
     rotate_left
     ·intro w' hSw
      obtain ⟨y0', y1', ⟨y3, y4, y5, y6⟩, y7, y8, y9, y10⟩ := KS.out w' hSw
      go_simp <;> with_reducible rfl
     try simp only [Act.put, sq]
     refine rdq 28 rfl fun K hK => ?_
     go_simp
     go_at_call 52
     refine (IQ.out tv τ _ _ w4 Z X hq hB2.2 (KP.out w4 _ k4.2.2 HZ.out).2.2 (KT.out w4 _ k4.2.2 HX.out).2.2 HZ.out HX.out M4.out).mono ?_
     rintro e w6 ⟨rfl, hm6, he6⟩
     have A6 : Hid (Blk w6 w.heap.size #[.int .i64 x0, .slice (some ⟨pb, po, none⟩) 2 c] 30) := k4.1.exq he6 (by omega)
     have C6 : Hid (Blk w6 (w.heap.size + 1) #[.int .i64 y0, .slice (some ⟨tb, to_, none⟩) 2 c'] 30) := k4.2.1.exq he6 (by omega)
     have k6 : Blk w6 w.heap.size #[.int .i64 x0, .slice (some ⟨pb, po, none⟩) 2 c] 30 ∧ Blk w6 (w.heap.size + 1) #[.int .i64 y0, .slice (some ⟨tb, to_, none⟩) 2 c'] 30 ∧ ExQ (fun b => b = H ∨ b = D) w w6 := ⟨A6.out, C6.out, k4.2.2.trans he6⟩
     rw [← HC.out] at hm6 ⊢
     have M6 := hide hm6
     obtain ⟨b2, hb2⟩ : ∃ b2, b2 = (cyT ⟨x0, [p, q]⟩ ⟨y0, [tu, tv]⟩ σ).1 := ⟨_, rfl⟩
     rw [← hb2]
     have HB2 := hide hb2
     clear hm6 he6 hb2
     go_simp
     refine hK.out _ _ (by exact k6) (fun hHeld => ?_)
     clear hK K
     try simp only [Act.put, sq]
     refine tkq (v := ?_) 29 rfl ?_ ?_
     rotate_left
     ·intro w' hSw
      go_simp <;> with_reducible rfl
     try simp only [Act.put, sq]
     refine tkq (v := ?_) 30 rfl ?_ ?_
     rotate_left
     ·intro w' hSw
      go_simp <;> with_reducible rfl
     try simp only [Act.put, sq]
     refine wpAnyH_done (by kernel_rfl) ?_ _
     go_wp2_with fail
     go_ret
     exact ⟨by rw [← HB2.out]; rfl, M6.out, k6.2.2⟩
    | false =>
     rw [if_neg (by simp)] at HC
     go_simp
     refine hK.out _ _ (by exact k4) (fun hHeld => ?_)
     clear hK K
     try simp only [Act.put, sq]
     refine tkq (v := ?_) 16 rfl ?_ ?_
     rotate_left
     ·intro w' hSw
      go_simp <;> with_reducible rfl
     try simp only [Act.put, sq]
     refine tkq (v := ?_) 17 rfl ?_ ?_
     rotate_left
     ·intro w' hSw
      go_simp <;> with_reducible rfl
     try simp only [Act.put, sq]
     refine wpAnyH_take (i := 18) (v := undef) rfl (by kernel_rfl) (by kernel_rfl) (by kernel_rfl) (fun _ _ _ h => h) (Or.inr ⟨by rfl, rfl⟩) (by assumption) ?_
     try simp only [Act.put, sq]
     refine wpAnyH_take (i := 19) (v := undef) rfl (by kernel_rfl) (by kernel_rfl) (by kernel_rfl) (fun _ _ _ h => h) (Or.inr ⟨by rfl, rfl⟩) (by assumption) ?_
     try simp only [Act.put, sq]
     refine wpAnyH_take (i := 20) (v := undef) rfl (by kernel_rfl) (by kernel_rfl) (by kernel_rfl) (fun _ _ _ h => h) (Or.inr ⟨by rfl, rfl⟩) (by assumption) ?_
     try simp only [Act.put, sq]
     refine wpAnyH_take (i := 21) (v := undef) rfl (by kernel_rfl) (by kernel_rfl) (by kernel_rfl) (fun _ _ _ h => h) (Or.inr ⟨by rfl, rfl⟩) (by assumption) ?_
     try simp only [Act.put, sq]
     refine wpAnyH_take (i := 22) (v := undef) rfl (by kernel_rfl) (by kernel_rfl) (by kernel_rfl) (fun _ _ _ h => h) (Or.inr ⟨by rfl, rfl⟩) (by assumption) ?_
     try simp only [Act.put, sq]
     refine wpAnyH_take (i := 23) (v := undef) rfl (by kernel_rfl) (by kernel_rfl) (by kernel_rfl) (fun _ _ _ h => h) (Or.inr ⟨by rfl, rfl⟩) (by assumption) ?_
     try simp only [Act.put, sq]
     refine wpAnyH_take (i := 24) (v := undef) rfl (by kernel_rfl) (by kernel_rfl) (by kernel_rfl) (fun _ _ _ h => h) (Or.inr ⟨by rfl, rfl⟩) (by assumption) ?_
     try simp only [Act.put, sq]
     refine wpAnyH_take (i := 25) (v := undef) rfl (by kernel_rfl) (by kernel_rfl) (by kernel_rfl) (fun _ _ _ h => h) (Or.inr ⟨by rfl, rfl⟩) (by assumption) ?_
     try simp only [Act.put, sq]
     refine wpAnyH_take (i := 26) (v := undef) rfl (by kernel_rfl) (by kernel_rfl) (by kernel_rfl) (fun _ _ _ h => h) (Or.inr ⟨by rfl, rfl⟩) (by assumption) ?_
     try simp only [Act.put, sq]
     refine wpAnyH_take (i := 27) (v := undef) rfl (by kernel_rfl) (by kernel_rfl) (by kernel_rfl) (fun _ _ _ h => h) (Or.inr ⟨by rfl, rfl⟩) (by assumption) ?_
     try simp only [Act.put, sq]
     refine wpAnyH_take (i := 28) (v := undef) rfl (by kernel_rfl) (by kernel_rfl) (by kernel_rfl) (fun _ _ _ h => h) (Or.inr ⟨by rfl, rfl⟩) (by assumption) ?_
     try simp only [Act.put, sq]
     refine tkq (v := ?_) 29 rfl ?_ ?_
     rotate_left
     ·intro w' hSw
      go_simp <;> with_reducible rfl
     try simp only [Act.put, sq]
     refine tkq (v := ?_) 30 rfl ?_ ?_
     rotate_left
     ·intro w' hSw
      go_simp <;> with_reducible rfl
     try simp only [Act.put, sq]
     refine wpAnyH_done (by kernel_rfl) ?_ _
     go_wp2_with fail
     go_ret
     refine ⟨by rw [HC.out]; rfl, ?_, k4.2.2⟩
     rw [HC.out]
     exact M4.out
   ·have HC := hide (fun σ => cyT_no (p := p) (q := q) (t := t) (σ := σ) ht2 x0)
    have hl : ((t.subs.length : Int) == 2) = false := by simp; omega
    clear ht2
    have kd : Blk w2.drew (w.heap.size + 1) #[.int .i64 t.base, .slice a' t.subs.length c'] 30 := C2.out
    refine wp_region_held_drew (S := fun w' => Blk w' (w.heap.size + 1) #[.int .i64 t.base, .slice a' t.subs.length c'] 30) (by kernel_rfl) kd (fun hHeld => ?_)
    refine tkq (v := ?_) 0 rfl ?_ ?_
    rotate_left
    ·intro w' hSw
     go_simp <;> with_reducible rfl
    try simp only [Act.put, sq]
    refine tkq (v := ?_) 1 rfl ?_ ?_
    rotate_left
    ·intro w' hSw
     have y1 : w'.cell? ⟨w.heap.size + 1, 1, none⟩ = some (.slice a' t.subs.length c') := hSw.cell 1
     go_simp <;> with_reducible rfl
    try simp only [Act.put, sq]
    refine tkq (v := ?_) 2 rfl ?_ ?_
    rotate_left
    ·intro w' hSw
     go_simp <;> with_reducible rfl
    try simp only [Act.put, sq]
    refine tkq (v := ?_) 3 rfl ?_ ?_
    rotate_left
    ·intro w' hSw
     go_simp <;> with_reducible rfl
    try simp only [Act.put, sq]
    refine tkq (v := ?_) 4 rfl ?_ ?_
    rotate_left
    ·intro w' hSw
     go_simp <;> with_reducible rfl
    try simp only [Act.put, sq]
    refine wpAnyH_take (i := 5) (v := undef) rfl (by kernel_rfl) (by kernel_rfl) (by kernel_rfl) (fun _ _ _ h => h) (Or.inr ⟨by rfl, rfl⟩) (by assumption) ?_
    try simp only [Act.put, sq]
    refine wpAnyH_take (i := 6) (v := undef) rfl (by kernel_rfl) (by kernel_rfl) (by kernel_rfl) (fun _ _ _ h => h) (Or.inr ⟨by rfl, rfl⟩) (by assumption) ?_
    try simp only [Act.put, sq]
    refine wpAnyH_take (i := 7) (v := undef) rfl (by kernel_rfl) (by kernel_rfl) (by kernel_rfl) (fun _ _ _ h => h) (Or.inr ⟨by rfl, rfl⟩) (by assumption) ?_
    try simp only [Act.put, sq]
    refine wpAnyH_take (i := 8) (v := undef) rfl (by kernel_rfl) (by kernel_rfl) (by kernel_rfl) (fun _ _ _ h => h) (Or.inr ⟨by rfl, rfl⟩) (by assumption) ?_
    try simp only [Act.put, sq]
    refine wpAnyH_take (i := 9) (v := undef) rfl (by kernel_rfl) (by kernel_rfl) (by kernel_rfl) (fun _ _ _ h => h) (Or.inr ⟨by rfl, rfl⟩) (by assumption) ?_
    try simp only [Act.put, sq]
    refine wpAnyH_take (i := 10) (v := undef) rfl (by kernel_rfl) (by kernel_rfl) (by kernel_rfl) (fun _ _ _ h => h) (Or.inr ⟨by rfl, rfl⟩) (by assumption) ?_
    try simp only [Act.put, sq]
    refine wpAnyH_take (i := 11) (v := undef) rfl (by kernel_rfl) (by kernel_rfl) (by kernel_rfl) (fun _ _ _ h => h) (Or.inr ⟨by rfl, rfl⟩) (by assumption) ?_
    try simp only [Act.put, sq]
    refine wpAnyH_take (i := 12) (v := undef) rfl (by kernel_rfl) (by kernel_rfl) (by kernel_rfl) (fun _ _ _ h => h) (Or.inr ⟨by rfl, rfl⟩) (by assumption) ?_
    try simp only [Act.put, sq]
    refine wpAnyH_take (i := 13) (v := undef) rfl (by kernel_rfl) (by kernel_rfl) (by kernel_rfl) (fun _ _ _ h => h) (Or.inr ⟨by rfl, rfl⟩) (by assumption) ?_
    try simp only [Act.put, sq]
    refine wpAnyH_take (i := 14) (v := undef) rfl (by kernel_rfl) (by kernel_rfl) (by kernel_rfl) (fun _ _ _ h => h) (Or.inr ⟨by rfl, rfl⟩) (by assumption) ?_
    try simp only [Act.put, sq]
    refine wpAnyH_take (i := 15) (v := undef) rfl (by kernel_rfl) (by kernel_rfl) (by kernel_rfl) (fun _ _ _ h => h) (Or.inr ⟨by rfl, rfl⟩) (by assumption) ?_
    try simp only [Act.put, sq]
    refine tkq (v := ?_) 16 rfl ?_ ?_
    rotate_left
    ·intro w' hSw
     go_simp <;> with_reducible rfl
    try simp only [Act.put, sq]
    refine tkq (v := ?_) 17 rfl ?_ ?_
    rotate_left
    ·intro w' hSw
     go_simp <;> with_reducible rfl
    try simp only [Act.put, sq]
    refine wpAnyH_take (i := 18) (v := undef) rfl (by kernel_rfl) (by kernel_rfl) (by kernel_rfl) (fun _ _ _ h => h) (Or.inr ⟨by rfl, rfl⟩) (by assumption) ?_
    try simp only [Act.put, sq]
    refine wpAnyH_take (i := 19) (v := undef) rfl (by kernel_rfl) (by kernel_rfl) (by kernel_rfl) (fun _ _ _ h => h) (Or.inr ⟨by rfl, rfl⟩) (by assumption) ?_
    try simp only [Act.put, sq]
    refine wpAnyH_take (i := 20) (v := undef) rfl (by kernel_rfl) (by kernel_rfl) (by kernel_rfl) (fun _ _ _ h => h) (Or.inr ⟨by rfl, rfl⟩) (by assumption) ?_
    try simp only [Act.put, sq]
    refine wpAnyH_take (i := 21) (v := undef) rfl (by kernel_rfl) (by kernel_rfl) (by kernel_rfl) (fun _ _ _ h => h) (Or.inr ⟨by rfl, rfl⟩) (by assumption) ?_
    try simp only [Act.put, sq]
    refine wpAnyH_take (i := 22) (v := undef) rfl (by kernel_rfl) (by kernel_rfl) (by kernel_rfl) (fun _ _ _ h => h) (Or.inr ⟨by rfl, rfl⟩) (by assumption) ?_
    try simp only [Act.put, sq]
    refine wpAnyH_take (i := 23) (v := undef) rfl (by kernel_rfl) (by kernel_rfl) (by kernel_rfl) (fun _ _ _ h => h) (Or.inr ⟨by rfl, rfl⟩) (by assumption) ?_
    try simp only [Act.put, sq]
    refine wpAnyH_take (i := 24) (v := undef) rfl (by kernel_rfl) (by kernel_rfl) (by kernel_rfl) (fun _ _ _ h => h) (Or.inr ⟨by rfl, rfl⟩) (by assumption) ?_
    try simp only [Act.put, sq]
    refine wpAnyH_take (i := 25) (v := undef) rfl (by kernel_rfl) (by kernel_rfl) (by kernel_rfl) (fun _ _ _ h => h) (Or.inr ⟨by rfl, rfl⟩) (by assumption) ?_
    try simp only [Act.put, sq]
    refine wpAnyH_take (i := 26) (v := undef) rfl (by kernel_rfl) (by kernel_rfl) (by kernel_rfl) (fun _ _ _ h => h) (Or.inr ⟨by rfl, rfl⟩) (by assumption) ?_
    try simp only [Act.put, sq]
    refine wpAnyH_take (i := 27) (v := undef) rfl (by kernel_rfl) (by kernel_rfl) (by kernel_rfl) (fun _ _ _ h => h) (Or.inr ⟨by rfl, rfl⟩) (by assumption) ?_
    try simp only [Act.put, sq]
    refine wpAnyH_take (i := 28) (v := undef) rfl (by kernel_rfl) (by kernel_rfl) (by kernel_rfl) (fun _ _ _ h => h) (Or.inr ⟨by rfl, rfl⟩) (by assumption) ?_
    try simp only [Act.put, sq]
    refine tkq (v := ?_) 29 rfl ?_ ?_
    rotate_left
    ·intro w' hSw
     go_simp <;> with_reducible rfl
    try simp only [Act.put, sq]
    refine tkq (v := ?_) 30 rfl ?_ ?_
    rotate_left
    ·intro w' hSw
     go_simp <;> with_reducible rfl
    try simp only [Act.put, sq]
    refine wpAnyH_done (by kernel_rfl) ?_ _
    go_wp2_with fail
    go_ret
    refine ⟨by rw [HC.out]; rfl, ?_, E2.out.drew⟩
    rw [HC.out]
    exact M2.out.later (Below.refl _ _).drew
def TyP (p : UInt8) (E : Nat → Prop) (N P T n : Nat) (q : Value) (cs : List Pc) (t : Lm) (ar : List Tm) (w : World) (e : Ending) (w' : World) : Prop :=
 ∃ a c q' cs', e = .returned (.agg #[.string (tyT p t ar n).1.name, .slice a (tyT p t ar n).1.args.length c]) ∧ Sl w' (Zq E N P q') a (tyT p t ar n).1.args ∧ AsK E w' N P T (tyT p t ar n).2.2 q' cs' ∧ cs'.map (·.1) = cs.map (·.1) ++ (tyT p t ar n).2.1 ∧ AsF w w' P q q'
theorem slice_full {w : World} {Z : Nat → Prop} {au : Option Addr} {ar : List Tm} {ac : Nat} (hac : ar.length ≤ ac) (hs : Sl w Z au ar) (w' : World) : Sem.run Tryz.prog (Instr.slice 46 (.slice au ar.length ac) none (some (.int .i64 (ar.length : Int))) (some (.int .i64 (ar.length : Int)))) w' = .ok (.slice au ar.length ar.length) w' := by
 have h1 := Tryz.underlying46
 have hm := hs.1
 rw [run_slice_hm (P := Tryz.prog) (ht := h1) (h0 := by omega) (h2 := by omega) (h3 := by omega)]
 simp [go_sem, sliced]
theorem belSizeI {B : Nat} {w w' : World} (h : Below B w w') (hB : B ≤ w.heap.size) : B ≤ w'.heap.size := Nat.le_trans hB h.size
theorem belSetI {B : Nat} {w w' : World} (h : Below B w w') {R : Nat} (hR : B ≤ R) (i : Nat) (v : Value) : Below B w (w'.setCell ⟨R, i, none⟩ v) :=
 ⟨h.os, h.tape, h.output, by have := h.size; simp [World.setCell]; omega, fun k hk => by rw [Below.heap_setCell _ _ _ _ (by simp; omega)]; exact h.block k hk⟩
theorem ty_cnt {p : UInt8} (t : Lm) : ∀ (ar : List Tm) (n : Nat), errM ar.length 0 [t] = 0 → csL [t] = false → (tyT p t ar n).2.2 ≤ n + sizeM [t] ∧ 2 * (tyT p t ar n).2.1.length + 1 ≤ sizeM [t] := by
 induction t using Lm.ind with
 | h k i l ih =>
  intro ar n he hc
  rcases may_look he with ⟨x, e, h1, h2⟩ | ⟨b, e, hb⟩ | ⟨f, a, e, hf, hx⟩ | ⟨x, e, _, _⟩
  ·cases e
   rw [tyT_bound]
   simp [sizeM]
  ·cases e
   rw [tyT_fun]
   have hc' : csL [b] = false := by rw [csL_one] at hc; simpa using hc
   have hz := sizeM_oneI 2 0 [b]
   have hl : ((ar ++ [vrT p (n + 1)]).length : Int) = (ar.length : Int) + 1 := by simp
   have h := ih b (by simp) (ar ++ [vrT p (n + 1)]) (n + 1) (by rw [hl]; exact hb) hc'
   simp only
   omega
  ·cases e
   rw [tyT_app]
   have hc1 : csL [f] = false ∧ csL [a] = false := by
    rw [csL_one, csL_cons] at hc
    simpa using hc
   have hz : sizeM [(⟨3, 0, [f, a]⟩ : Lm)] = 1 + (sizeM [f] + sizeM [a]) := by rw [sizeM_oneI, sizeM_two]
   have h1 := ih f (by simp) ar n hf hc1.1
   have h2 := ih a (by simp) ar (tyT p f ar n).2.2 hx hc1.2
   simp only [List.length_append, List.length_singleton]
   omega
  ·cases e
   rw [csL_one] at hc
   simp at hc
theorem tyM_pos (t : Lm) : 1 ≤ sizeM [t] := by obtain ⟨k, x, l⟩ := t; simp [sizeM]
theorem zq_alloc {w : World} {E : Nat → Prop} {N P T n : Nat} {q : Value} {cs : List Pc} (h : AsK E w N P T n q cs) (hE : ∀ b, E b → b < w.heap.size) : ∀ b, w.heap.size ≤ b → Zq E N P q b := fun b hb => ⟨Nat.le_trans h.le hb, by have := h.box.lt; omega, fun e => by have := (h.own.lt b e.symm).2; omega, fun e => by have := hE b e; omega⟩
set_option maxHeartbeats 8000000 in
theorem typeI_any {B : Nat} (t : Lm) : ∀ (E : Nat → Prop) (N P n : Nat) (q v : Value) (cs : List Pc) (ar : List Tm) (au : Option Addr) (ac : Nat) (w : World) (X : Nat → Prop), errM ar.length 0 [t] = 0 → csL [t] = false → n + sizeM [t] ≤ 900 → cs.length + sizeM [t] ≤ 100000 → ar.length + sizeM [t] ≤ 1000 → ar.length ≤ ac → MV w X v t → (∀ x, X x → x < B) → B ≤ N → Tb B w → AsK E w N P 102 n q cs → Sl w (Zq E N P q) au ar → (∀ b, E b → b < w.heap.size) →
  Calls Tryz.prog 62 #[.pointer (some ⟨P, 0, none⟩), v, .slice au ar.length ac] w fun e w' => TyP 86 E N P 102 n q cs t ar w e w' := by
 induction t using Lm.ind with
 | h k0 i0 l0 ih =>
  intro E N P n q v cs ar au ac w X he hc hn hcs har hac hv hX hBN hT hK hS hEw
  have IH := hide ih
  clear ih
  obtain ⟨a, c, rfl, hs⟩ := hv
  have HX := hide hX
  have HT := hide hT
  have HAR := hide har
  have HN := hide hn
  have HCS := hide hcs
  rcases may_look he with ⟨x, e, h1, h2⟩ | ⟨b, e, hb⟩ | ⟨f, x, e, hf, hx⟩ | ⟨x, e, _, _⟩
  ·cases e
   obtain ⟨i, rfl⟩ : ∃ i : Nat, i0 = (i : Int) := ⟨i0.toNat, by omega⟩
   have hil : i < ar.length := by omega
   have K1 := hide (hK.later ((Below.refl _ _).alloc (Nat.le_refl _) (.cells #[.int .i64 1, .int .i64 (i : Int), .slice a 0 c] 25)))
   have K2 : Hid (AsK (fun b => E b ∨ b = w.heap.size + 1) ((w.alloc (.cells #[.int .i64 1, .int .i64 (i : Int), .slice a 0 c] 25)).alloc (.cells #[.string ⟨#[]⟩, .slice none 0 0] 48)) N P 102 n q cs) := (hK.excl (E' := fun b => E b ∨ b = w.heap.size + 1) fun b hb h => h.elim id (fun h => by omega)).later (((Below.refl _ _).alloc (Nat.le_refl _) _).alloc (by simp) _)
   have A2 : Hid (Bq ((w.alloc (.cells #[.int .i64 1, .int .i64 (i : Int), .slice a 0 c] 25)).alloc (.cells #[.string ⟨#[]⟩, .slice none 0 0] 48)) P q w.heap.size #[.int .i64 1, .int .i64 (i : Int), .slice a 0 c] 25) := (Bq.new hK _ _).later ((Below.refl _ _).alloc (Nat.le_refl _) _)
   have R2 : Hid (Bq ((w.alloc (.cells #[.int .i64 1, .int .i64 (i : Int), .slice a 0 c] 25)).alloc (.cells #[.string ⟨#[]⟩, .slice none 0 0] 48)) P q (w.heap.size + 1) #[.string ⟨#[]⟩, .slice none 0 0] 48) := by have h := Bq.new K1.out #[.string ⟨#[]⟩, .slice none 0 0] 48; rw [World.size_alloc] at h; exact h
   have B2 : Hid (Below w.heap.size w ((w.alloc (.cells #[.int .i64 1, .int .i64 (i : Int), .slice a 0 c] 25)).alloc (.cells #[.string ⟨#[]⟩, .slice none 0 0] 48))) := ((Below.refl _ _).alloc (Nat.le_refl _) _).alloc (by simp) _
   have S2 := hide ((sl_excl (E' := fun b => E b ∨ b = w.heap.size + 1) hS fun b hb h => h.elim id (fun h => by omega)).later B2.out)
   have F2 := hide (AsF.ofBelow B2.out P q)
   clear hK hS K1
   have HR := hide (tyT_bound 86 (i : Int) ar n)
   have hlt : ar.length - 1 - i < ar.length := by omega
   have HG : Hid ((tyT 86 ⟨1, (i : Int), []⟩ ar n).1 = ar[ar.length - 1 - i]) := by unfold Hid; rw [HR.out]; show ar.getD (ar.length - 1 - (i : Int).toNat) noT = _; rw [Int.toNat_natCast, List.getD_eq_getElem?_getD, List.getElem?_eq_getElem hlt]; rfl
   have HR2 : Hid ((tyT 86 ⟨1, (i : Int), []⟩ ar n).2 = ([], n)) := by unfold Hid; rw [HR.out]
   obtain ⟨b, o, a', c', rfl, d0, d1, hx⟩ := S2.out.get (Below.refl _ _) (fun _ _ h => h) (ar.length - 1 - i) hlt
   obtain ⟨j, hj⟩ : ∃ j, j = ar.length - 1 - i := ⟨_, rfl⟩
   have hji : (ar.length : Int) - 1 - (i : Int) = (j : Int) := by omega
   have HJ : Hid (ar.length - 1 - i = j) := hj.symm
   have hjl : (j : Int) < (ar.length : Int) := by omega
   have HM := S2.out.1
   obtain ⟨y, hy⟩ : ∃ y, y = ar[ar.length - 1 - i] := ⟨_, rfl⟩
   rw [← hy] at d0 d1 hx HG
   rw [← hj] at d0 d1
   clear hy hj hlt
   obtain ⟨a9, c9, e9, hy9⟩ := hx
   cases e9
   have Y9 := hide hy9
   clear hy9
   go_enter Tryz.func62, Tryz.ntmps62
   go_upto_region 1 with fail
   generalize ((w.alloc (.cells #[.int .i64 1, .int .i64 (i : Int), .slice a 0 c] 25)).alloc (.cells #[.string ⟨#[]⟩, .slice none 0 0] 48)) = w2 at *
   have x0 := A2.out.1.c0
   have x1 := A2.out.1.c1
   have x2 := A2.out.1.c2
   have r0 := R2.out.1.c0
   have r1 := R2.out.1.c1
   have f0 : w2.frozen? ⟨w.heap.size + 1, 0, none⟩ = false := R2.out.1.frozen 0
   have f1 : w2.frozen? ⟨w.heap.size + 1, 1, none⟩ = false := R2.out.1.frozen 1
   have hneg : ¬ ((ar.length : Int) - 1 - (i : Int) < 0) := by omega
   go_wp2_with fail
   obtain ⟨K3, F3, R3, S3⟩ := K2.out.store F2.out R2.out (by omega) (.string y.name) (.slice a' y.args.length c') Y9.out
   generalize ((w2.setCell ⟨w.heap.size + 1, 0, none⟩ (.string y.name)).setCell ⟨w.heap.size + 1, 1, none⟩ (.slice a' y.args.length c')) = w5 at *
   have c0 := R3.cell 0
   have c1 := R3.cell 1
   simp only [List.getElem?_toArray, List.getElem?_cons_zero, List.getElem?_cons_succ] at c0 c1
   refine bodyPost_ret (v := .agg #[.string y.name, .slice a' y.args.length c']) (by simp [results, Tryz.results62, go_sem, c0, c1]) rfl ?_
   refine ⟨a', c', q, cs, ?_, ?_, ?_, ?_, F3⟩
   ·rw [HG.out]
   ·rw [HG.out]; exact S3
   ·rw [HR2.out]; exact K3
   ·rw [HR2.out]; simp
  ·cases e
   obtain ⟨b', o', a1, c1, rfl, hKP⟩ := slM_one (B := B) hs hX
   have KP := hide hKP
   have hK0 := hK.le
   have hq0 : ∀ b, some b = q.ownBlock → N ≤ b ∧ b < w.heap.size := fun b hb => hK.own.lt b hb.symm
   have IHB := hide (IH.out b (by simp))
   clear hKP hs IH
   have e1 : ([b] : List Lm).length = 1 := rfl
   rw [e1]
   clear e1
   have K1 := hide (hK.later ((Below.refl _ _).alloc (Nat.le_refl _) (.cells #[.int .i64 2, .int .i64 0, .slice (some ⟨b', o', none⟩) 1 c] 25)))
   have K2 : Hid (AsK (fun b => E b ∨ b = w.heap.size + 1) ((w.alloc (.cells #[.int .i64 2, .int .i64 0, .slice (some ⟨b', o', none⟩) 1 c] 25)).alloc (.cells #[.string ⟨#[]⟩, .slice none 0 0] 48)) N P 102 n q cs) := (hK.excl (E' := fun b => E b ∨ b = w.heap.size + 1) fun b hb h => h.elim id (fun h => by omega)).later (((Below.refl _ _).alloc (Nat.le_refl _) _).alloc (by simp) _)
   have A2 : Hid (Bq ((w.alloc (.cells #[.int .i64 2, .int .i64 0, .slice (some ⟨b', o', none⟩) 1 c] 25)).alloc (.cells #[.string ⟨#[]⟩, .slice none 0 0] 48)) P q w.heap.size #[.int .i64 2, .int .i64 0, .slice (some ⟨b', o', none⟩) 1 c] 25) := (Bq.new hK _ _).later ((Below.refl _ _).alloc (Nat.le_refl _) _)
   have R2 : Hid (Bq ((w.alloc (.cells #[.int .i64 2, .int .i64 0, .slice (some ⟨b', o', none⟩) 1 c] 25)).alloc (.cells #[.string ⟨#[]⟩, .slice none 0 0] 48)) P q (w.heap.size + 1) #[.string ⟨#[]⟩, .slice none 0 0] 48) := by have h := Bq.new K1.out #[.string ⟨#[]⟩, .slice none 0 0] 48; rw [World.size_alloc] at h; exact h
   have B2 : Hid (Below w.heap.size w ((w.alloc (.cells #[.int .i64 2, .int .i64 0, .slice (some ⟨b', o', none⟩) 1 c] 25)).alloc (.cells #[.string ⟨#[]⟩, .slice none 0 0] 48))) := ((Below.refl _ _).alloc (Nat.le_refl _) _).alloc (by simp) _
   have S2 := hide ((sl_excl (E' := fun b => E b ∨ b = w.heap.size + 1) hS fun b hb h => h.elim id (fun h => by omega)).later B2.out)
   have F2 := hide (AsF.ofBelow B2.out P q)
   clear hK hS K1
   have HF := hide (tyT_fun 86 0 b ar n)
   have hzb : sizeM [(⟨2, 0, [b]⟩ : Lm)] = 1 + sizeM [b] := sizeM_oneI 2 0 [b]
   have HZB := hide hzb
   rw [hzb] at hn hcs har
   clear hzb HN HCS HAR
   have hcb : csL [b] = false := by rw [csL_one] at hc; simpa using hc
   have HCB := hide hcb
   clear hcb hc he
   have HEB : Hid (errM ((ar ++ [vrT 86 (n + 1)]).length) 0 [b] = 0) := by unfold Hid; rw [show ((ar ++ [vrT 86 (n + 1)]).length : Int) = (ar.length : Int) + 1 by simp]; exact hb
   clear hb hX hT
   have UP2 : Hid (Below B w _) := B2.out.mono (Nat.le_trans hBN hK0)
   have HT2 := hide (HT.out.on UP2.out)
   go_enter Tryz.func62, Tryz.ntmps62
   go_upto_region 1 with fail
   generalize ((w.alloc (.cells #[.int .i64 2, .int .i64 0, .slice (some ⟨b', o', none⟩) 1 c] 25)).alloc (.cells #[.string ⟨#[]⟩, .slice none 0 0] 48)) = w2 at *
   have x0 := A2.out.1.c0
   have x1 := A2.out.1.c1
   have x2 := A2.out.1.c2
   go_wp2_with fail
   refine (freshI_any K2.out (by omega) hBN HT2.out).mono ?_
   rintro e w3 ⟨rfl, hk3, hf3⟩
   have K4 : Hid (AsK (fun b => E b ∨ b = w.heap.size + 1) (w3.alloc (.cells #[.string (vrN 86 (n + 1)), .slice none 0 0] 48)) N P 102 (n + 1) q cs) := hk3.later ((Below.refl _ _).alloc (Nat.le_refl _) _)
   have F4 : Hid (AsF w (w3.alloc (.cells #[.string (vrN 86 (n + 1)), .slice none 0 0] 48)) P q q) := (F2.out.trans hf3).then ((Below.refl _ _).alloc (Nat.le_refl _) _)
   have V4 : Hid (Bq (w3.alloc (.cells #[.string (vrN 86 (n + 1)), .slice none 0 0] 48)) P q w3.heap.size #[.string (vrN 86 (n + 1)), .slice none 0 0] 48) := Bq.new hk3 _ _
   have A4 := hide ((hf3.bq A2.out).later ((Below.refl _ _).alloc (Nat.le_refl _) (.cells #[.string (vrN 86 (n + 1)), .slice none 0 0] 48)))
   have R4 := hide ((hf3.bq R2.out).later ((Below.refl _ _).alloc (Nat.le_refl _) (.cells #[.string (vrN 86 (n + 1)), .slice none 0 0] 48)))
   have S4 := hide ((hf3.sl S2.out).later ((Below.refl _ _).alloc (Nat.le_refl _) (.cells #[.string (vrN 86 (n + 1)), .slice none 0 0] 48)))
   clear hk3 hf3 K2 F2 A2 R2 S2 x0 x1 x2
   go_upto_region 6 with fail
   generalize w3.heap.size = V at *
   generalize w3.alloc (.cells #[.string (vrN 86 (n + 1)), .slice none 0 0] 48) = w4 at *
   have KV : Hid (∀ w', Below w4.heap.size w4 w' → w'.cell? ⟨V, 0, none⟩ = some (.string (vrN 86 (n + 1))) ∧ w'.cell? ⟨V, 1, none⟩ = some (.slice none 0 0)) := fun w' hb => ⟨(V4.out.later hb).1.cell 0, (V4.out.later hb).1.cell 1⟩
   have kd : Below w4.heap.size w4 w4.drew := (Below.refl _ _).drew
   have sliced : ∀ w' : World, Sem.run Tryz.prog (Instr.slice 46 (.slice au ar.length ac) none (some (.int .i64 (ar.length : Int))) (some (.int .i64 (ar.length : Int)))) w' = .ok (.slice au ar.length ar.length) w' := fun w' => slice_full hac S4.out w'
   refine wp_region_held_drew (S := Below w4.heap.size w4) (by kernel_rfl) kd (fun hHeld => ?_)
   refine tkq (v := ?_) 0 rfl ?_ ?_
   rotate_left
   ·intro w' hSw
    go_simp <;> with_reducible rfl
   try simp only [Act.put, sq]
   refine tkq (v := ?_) 1 rfl ?_ ?_
   rotate_left
   ·intro w' hSw
    go_simp <;> with_reducible rfl
   try simp only [Act.put, sq]
   refine tkq (v := ?_) 2 rfl ?_ ?_
   rotate_left
   ·intro w' hSw
    go_simp <;> with_reducible rfl
   try simp only [Act.put, sq]
   refine tkq (v := ?_) 3 rfl ?_ ?_
   rotate_left
   ·intro w' hSw
    go_simp <;> with_reducible rfl
   try simp only [Act.put, sq]
   refine tkq (v := ?_) 4 rfl ?_ ?_
   rotate_left
   ·intro w' hSw
    go_simp <;> with_reducible rfl
   try simp only [Act.put, sq]
   refine tkq (v := ?_) 5 rfl ?_ ?_
   rotate_left
   ·intro w' hSw
    have hsl := sliced w'
    go_simp <;> with_reducible rfl
   try simp only [Act.put, sq]
   refine tkq (v := ?_) 6 rfl ?_ ?_
   rotate_left
   ·intro w' hSw
    obtain ⟨y0, y1⟩ := KV.out w' hSw
    go_simp <;> with_reducible rfl
   try simp only [Act.put, sq]
   have k5 : Below w4.heap.size w4 ((w4.alloc (.cells #[.string (vrN 86 (n + 1)), .slice none 0 0] 48)).drew) := ((Below.refl _ _).alloc (Nat.le_refl _) _).drew
   have Q5 : Hid (Blk ((w4.alloc (.cells #[.string (vrN 86 (n + 1)), .slice none 0 0] 48)).drew) w4.heap.size #[.string (vrN 86 (n + 1)), .slice none 0 0] 48) := Blk.new w4 _ _
   have S5 := hide (S4.out.later k5)
   refine rdq 7 rfl fun K hK => ?_
   go_simp
   refine hK.out _ _ (by exact k5) (fun hHeld => ?_)
   clear hK K
   try simp only [Act.put, sq]
   generalize ((w4.alloc (.cells #[.string (vrN 86 (n + 1)), .slice none 0 0] 48)).drew) = w5 at *
   obtain ⟨g, cap, w6, hap, hs6, hb6, hg6, hc6⟩ := ar_app (N := N) S5.out (by omega) Q5.out
   have HAP := hide hap
   have k6 : Below w4.heap.size w4 w6 := k5.trans (hb6.mono k5.size)
   refine rdq 8 rfl fun K hK => ?_
   refine step_append_eqM rfl _ _ _ _ rfl rfl rfl HAP.out ?_
   refine hK.out _ _ (by exact k6) (fun hHeld => ?_)
   clear hK K
   try simp only [Act.put, sq]
   refine tkq (v := ?_) 9 rfl ?_ ?_
   rotate_left
   ·intro w' hSw
    go_simp <;> with_reducible rfl
   try simp only [Act.put, sq]
   refine wpAnyH_done (by kernel_rfl) ?_ _
   have hE4 : ∀ b, (E b ∨ b = w.heap.size + 1) → b < w4.heap.size := fun b hb => by have h1 := R4.out.1.lt; rcases hb with hb | hb; exact Nat.lt_trans (hEw b hb) (by omega); omega
   have S6 : Hid (Sl w6 (Zq (fun b => E b ∨ b = w.heap.size + 1) N P q) (some ⟨g, 0, none⟩) (ar ++ [vrT 86 (n + 1)])) := hs6.mono fun b hb _ => hb.elim id (fun e => by rw [e]; exact zq_alloc K4.out hE4 g (Nat.le_trans k5.size hg6))
   have K6 := hide (K4.out.later k6)
   have F6 := hide (F4.out.then k6)
   have A6 := hide (A4.out.later k6)
   have R6 := hide (R4.out.later k6)
   have V6 := hide (V4.out.later k6)
   have HE6 : Hid (∀ b, (E b ∨ b = w.heap.size + 1) → b < w6.heap.size) := fun b hb => Nat.lt_of_lt_of_le (hE4 b hb) k6.size
   have HVR : Hid (V ≠ w.heap.size + 1) := fun e => by have h1 := V4.out.1; have h2 := R4.out.1; rw [e] at h1; have h3 := h1.cell 0; have h4 := h2.cell 0; rw [h3] at h4; simp [vrN] at h4
   have HCAP := hide hc6
   clear hs6 hb6 hg6 hc6 k6 k5 kd S5 Q5 S4 K4 F4 A4 R4 V4 KV hE4 HAP hap sliced
   skip
   have UP6 : Hid (Below B w w6) := (F6.out.1.below hK0 (fun b hb => by rcases hb with rfl | hb; exact K6.out.ge; exact (hq0 b hb).1)).mono hBN
   have KS : Hid (∀ w', (Blk w' V #[.string (vrN 86 (n + 1)), .slice none 0 0] 48 ∧ Blk w' w.heap.size #[.int .i64 2, .int .i64 0, .slice (some ⟨b', o', none⟩) 1 c] 25 ∧ Below B w w') → (w'.cell? ⟨V, 0, none⟩ = some (.string (vrN 86 (n + 1))) ∧ w'.cell? ⟨V, 1, none⟩ = some (.slice none 0 0)) ∧ w'.cell? ⟨w.heap.size, 2, none⟩ = some (.slice (some ⟨b', o', none⟩) 1 c) ∧ (w'.cell? ⟨b', o', none⟩ = some (.int .i64 b.kind) ∧ w'.cell? ⟨b', o' + 1, none⟩ = some (.int .i64 b.idx) ∧ w'.cell? ⟨b', o' + 2, none⟩ = some (.slice a1 b.subs.length c1))) := fun w' h => ⟨⟨h.1.cell 0, h.1.cell 1⟩, h.2.1.cell 2, (KP.out w' h.2.2).1⟩
   go_wp2_with fail
   have kd : Blk w6.drew V #[.string (vrN 86 (n + 1)), .slice none 0 0] 48 ∧ Blk w6.drew w.heap.size #[.int .i64 2, .int .i64 0, .slice (some ⟨b', o', none⟩) 1 c] 25 ∧ Below B w w6.drew := ⟨V6.out.1, A6.out.1, UP6.out.drew⟩
   refine wp_region_held_drew (S := fun w' => Blk w' V #[.string (vrN 86 (n + 1)), .slice none 0 0] 48 ∧ Blk w' w.heap.size #[.int .i64 2, .int .i64 0, .slice (some ⟨b', o', none⟩) 1 c] 25 ∧ Below B w w') (by kernel_rfl) kd (fun hHeld => ?_)
   refine tkq (v := ?_) 0 rfl ?_ ?_
   rotate_left
   ·intro w' hSw
    obtain ⟨⟨y0, y1⟩, y2, y3, y4, y5⟩ := KS.out w' hSw
    go_simp <;> with_reducible rfl
   try simp only [Act.put, sq]
   refine tkq (v := ?_) 1 rfl ?_ ?_
   rotate_left
   ·intro w' hSw
    go_simp <;> with_reducible rfl
   try simp only [Act.put, sq]
   refine tkq (v := ?_) 2 rfl ?_ ?_
   rotate_left
   ·intro w' hSw
    go_simp <;> with_reducible rfl
   try simp only [Act.put, sq]
   refine tkq (v := ?_) 3 rfl ?_ ?_
   rotate_left
   ·intro w' hSw
    obtain ⟨⟨y0, y1⟩, y2, y3, y4, y5⟩ := KS.out w' hSw
    go_simp <;> with_reducible rfl
   try simp only [Act.put, sq]
   refine tkq (v := ?_) 4 rfl ?_ ?_
   rotate_left
   ·intro w' hSw
    go_simp <;> with_reducible rfl
   try simp only [Act.put, sq]
   refine tkq (v := ?_) 5 rfl ?_ ?_
   rotate_left
   ·intro w' hSw
    obtain ⟨⟨y0, y1⟩, y2, y3, y4, y5⟩ := KS.out w' hSw
    go_simp <;> with_reducible rfl
   try simp only [Act.put, sq]
   refine tkq (v := ?_) 6 rfl ?_ ?_
   rotate_left
   ·intro w' hSw
    go_simp <;> with_reducible rfl
   try simp only [Act.put, sq]
   have CALL := IHB.out (fun b => E b ∨ b = w.heap.size + 1) N P (n + 1) q (.agg #[.int .i64 b.kind, .int .i64 b.idx, .slice a1 b.subs.length c1]) cs (ar ++ [vrT 86 (n + 1)]) (some ⟨g, 0, none⟩) cap w6.drew X HEB.out HCB.out (by omega) (by omega) (by simp; omega) (by simp; exact HCAP.out) (KP.out w6.drew kd.2.2).2 HX.out hBN (HT.out.on kd.2.2) (K6.out.later (Below.refl _ _).drew) (S6.out.later (Below.refl _ _).drew) HE6.out
   rw [show (ar ++ [vrT 86 (n + 1)]).length = ar.length + 1 by simp] at CALL
   have HCALL := hide CALL
   clear CALL
   refine rdq 7 rfl fun K hK => ?_
   go_simp
   go_at_call 62
   refine HCALL.out.mono ?_
   rintro e w7 ⟨a7, c7, q7, cs7, rfl, hs7, hk7, hm7, hf7⟩
   have F7 : Hid (AsF w w7 P q q7) := (F6.out.then (Below.refl _ _).drew).trans hf7
   have V7 := hide (hf7.bq (V6.out.later (Below.refl _ _).drew))
   have A7 := hide (hf7.bq (A6.out.later (Below.refl _ _).drew))
   have R7 := hide (hf7.bq (R6.out.later (Below.refl _ _).drew))
   have UP7 : Hid (Below B w w7) := (F7.out.1.below hK0 (fun b hb => by rcases hb with rfl | hb; exact K6.out.ge; exact (hq0 b hb).1)).mono hBN
   have k7 : Blk w7 V #[.string (vrN 86 (n + 1)), .slice none 0 0] 48 ∧ Blk w7 w.heap.size #[.int .i64 2, .int .i64 0, .slice (some ⟨b', o', none⟩) 1 c] 25 ∧ Below B w w7 := ⟨V7.out.1, A7.out.1, UP7.out⟩
   have K7 := hide hk7
   have S7 := hide hs7
   have M7 := hide hm7
   have hE7 : Hid (∀ b, (E b ∨ b = w.heap.size + 1) → b < w7.heap.size) := fun b hb => Nat.lt_of_lt_of_le (HE6.out b hb) hf7.1.size
   clear hs7 hk7 hm7 hf7 V6 A6 R6 K6 F6 HE6 HCALL S6 UP6
   generalize hty : tyT 86 b (ar ++ [vrT 86 (n + 1)]) (n + 1) = r at *
   clear hty
   go_simp
   refine hK.out _ _ (by exact k7) (fun hHeld => ?_)
   clear hK K
   try simp only [Act.put, sq]
   refine rdq 8 rfl fun K hK => ?_
   go_simp
   go_at_call 77
   refine (arrowI_any (vrT 86 (n + 1)) r.1 _ _ _ (Zq (fun b => E b ∨ b = w.heap.size + 1) N P q7) ⟨none, 0, rfl, by simp [vrT], Or.inl rfl⟩ ⟨_, _, rfl, S7.out⟩).mono ?_
   rintro e w8 ⟨v8, rfl, ⟨a8, c8, rfl, hs8⟩, hb8⟩
   rw [show (arT (vrT 86 (n + 1)) r.1).name = ⟨#[102]⟩ from rfl, show (arT (vrT 86 (n + 1)) r.1).args.length = 2 from rfl]
   have K8 := hide (K7.out.later hb8)
   have F8 := hide (F7.out.then hb8)
   have V8 := hide (V7.out.later hb8)
   have A8 := hide (A7.out.later hb8)
   have R8 := hide (R7.out.later hb8)
   have S8 : Hid (Sl w8 (Zq (fun b => E b ∨ b = w.heap.size + 1) N P q7) a8 (arT (vrT 86 (n + 1)) r.1).args) := hs8.mono fun b hb _ => hb.elim id (zq_alloc K7.out hE7.out b)
   have k8 : Blk w8 V #[.string (vrN 86 (n + 1)), .slice none 0 0] 48 ∧ Blk w8 w.heap.size #[.int .i64 2, .int .i64 0, .slice (some ⟨b', o', none⟩) 1 c] 25 ∧ Below B w w8 := ⟨V8.out.1, A8.out.1, UP7.out.trans (hb8.mono (belSizeI UP7.out (Nat.le_trans hBN hK0)))⟩
   clear hs8 hb8 K7 F7 V7 A7 R7 S7
   go_simp
   refine hK.out _ _ (by exact k8) (fun hHeld => ?_)
   clear hK K
   try simp only [Act.put, sq]
   have r0 := R8.out.1.c0
   have r1 := R8.out.1.c1
   have f0 : w8.frozen? ⟨w.heap.size + 1, 0, none⟩ = false := R8.out.1.frozen 0
   have f1 : w8.frozen? ⟨w.heap.size + 1, 1, none⟩ = false := R8.out.1.frozen 1
   have k9 : Blk ((w8.setCell ⟨w.heap.size + 1, 0, none⟩ (.string ⟨#[102]⟩)).setCell ⟨w.heap.size + 1, 1, none⟩ (.slice a8 2 c8)) V #[.string (vrN 86 (n + 1)), .slice none 0 0] 48 ∧ Blk ((w8.setCell ⟨w.heap.size + 1, 0, none⟩ (.string ⟨#[102]⟩)).setCell ⟨w.heap.size + 1, 1, none⟩ (.slice a8 2 c8)) w.heap.size #[.int .i64 2, .int .i64 0, .slice (some ⟨b', o', none⟩) 1 c] 25 ∧ Below B w ((w8.setCell ⟨w.heap.size + 1, 0, none⟩ (.string ⟨#[102]⟩)).setCell ⟨w.heap.size + 1, 1, none⟩ (.slice a8 2 c8)) := ⟨(V8.out.1.setOther 0 _ HVR.out).setOther 1 _ HVR.out, (A8.out.1.setOther 0 _ (by omega)).setOther 1 _ (by omega), belSetI (belSetI k8.2.2 (by omega) 0 _) (by omega) 1 _⟩
   refine rdq 9 rfl fun K hK => ?_
   go_simp
   refine hK.out _ _ (by exact k9) (fun hHeld => ?_)
   clear hK K
   try simp only [Act.put, sq]
   refine wpAnyH_done (by kernel_rfl) ?_ _
   obtain ⟨K9, F9, R9, S9⟩ := K8.out.store F8.out R8.out (by omega) (.string ⟨#[102]⟩) (.slice a8 2 c8) S8.out
   generalize ((w8.setCell ⟨w.heap.size + 1, 0, none⟩ (.string ⟨#[102]⟩)).setCell ⟨w.heap.size + 1, 1, none⟩ (.slice a8 2 c8)) = w9 at *
   have c0 := R9.cell 0
   have c1 := R9.cell 1
   simp only [List.getElem?_toArray, List.getElem?_cons_zero, List.getElem?_cons_succ] at c0 c1
   clear r0 r1 f0 f1
   go_wp2_with fail
   refine bodyPost_ret (v := .agg #[.string ⟨#[102]⟩, .slice a8 2 c8]) (by simp [results, Tryz.results62, go_sem, c0, c1]) rfl ?_
   refine ⟨a8, c8, q7, cs7, ?_, ?_, ?_, ?_, F9⟩
   ·rw [HF.out]; rfl
   ·rw [HF.out]; exact S9
   ·rw [HF.out]; exact K9
   ·rw [HF.out]; exact M7.out
  ·cases e
   obtain ⟨b', o', a1, c1, a2, c2, rfl, hKP⟩ := slM_two (B := B) hs hX
   have KP := hide hKP
   have hK0 := hK.le
   have hq0 : ∀ b, some b = q.ownBlock → N ≤ b ∧ b < w.heap.size := fun b hb => hK.own.lt b hb.symm
   have IHF := hide (IH.out f (by simp))
   have IHX := hide (IH.out x (by simp))
   clear hKP hs IH
   have e1 : ([f, x] : List Lm).length = 2 := rfl
   rw [e1]
   clear e1
   have K1 := hide (hK.later ((Below.refl _ _).alloc (Nat.le_refl _) (.cells #[.int .i64 3, .int .i64 0, .slice (some ⟨b', o', none⟩) 2 c] 25)))
   have K2 : Hid (AsK (fun b => E b ∨ b = w.heap.size + 1) ((w.alloc (.cells #[.int .i64 3, .int .i64 0, .slice (some ⟨b', o', none⟩) 2 c] 25)).alloc (.cells #[.string ⟨#[]⟩, .slice none 0 0] 48)) N P 102 n q cs) := (hK.excl (E' := fun b => E b ∨ b = w.heap.size + 1) fun b hb h => h.elim id (fun h => by omega)).later (((Below.refl _ _).alloc (Nat.le_refl _) _).alloc (by simp) _)
   have A2 : Hid (Bq ((w.alloc (.cells #[.int .i64 3, .int .i64 0, .slice (some ⟨b', o', none⟩) 2 c] 25)).alloc (.cells #[.string ⟨#[]⟩, .slice none 0 0] 48)) P q w.heap.size #[.int .i64 3, .int .i64 0, .slice (some ⟨b', o', none⟩) 2 c] 25) := (Bq.new hK _ _).later ((Below.refl _ _).alloc (Nat.le_refl _) _)
   have R2 : Hid (Bq ((w.alloc (.cells #[.int .i64 3, .int .i64 0, .slice (some ⟨b', o', none⟩) 2 c] 25)).alloc (.cells #[.string ⟨#[]⟩, .slice none 0 0] 48)) P q (w.heap.size + 1) #[.string ⟨#[]⟩, .slice none 0 0] 48) := by have h := Bq.new K1.out #[.string ⟨#[]⟩, .slice none 0 0] 48; rw [World.size_alloc] at h; exact h
   have B2 : Hid (Below w.heap.size w ((w.alloc (.cells #[.int .i64 3, .int .i64 0, .slice (some ⟨b', o', none⟩) 2 c] 25)).alloc (.cells #[.string ⟨#[]⟩, .slice none 0 0] 48))) := ((Below.refl _ _).alloc (Nat.le_refl _) _).alloc (by simp) _
   have S2 := hide ((sl_excl (E' := fun b => E b ∨ b = w.heap.size + 1) hS fun b hb h => h.elim id (fun h => by omega)).later B2.out)
   have F2 := hide (AsF.ofBelow B2.out P q)
   clear hK hS K1
   have HF := hide (tyT_app 86 0 f x ar n)
   have hzb : sizeM [(⟨3, 0, [f, x]⟩ : Lm)] = 1 + (sizeM [f] + sizeM [x]) := by rw [sizeM_oneI, sizeM_two]
   rw [hzb] at hn hcs har
   clear hzb HN HCS HAR
   have hcb : csL [f] = false ∧ csL [x] = false := by rw [csL_one, csL_cons] at hc; simpa using hc
   have HCB := hide hcb
   have HEF := hide hf
   have HEX := hide hx
   have HOK := hide (fun m => ty_cnt (p := 86) f ar m hf hcb.1)
   have HOX := hide (fun m => ty_cnt (p := 86) x ar m hx hcb.2)
   clear hcb hc he hf hx hX hT
   have hsf := tyM_pos f
   have hsx := tyM_pos x
   have UP2 : Hid (Below B w _) := B2.out.mono (Nat.le_trans hBN hK0)
   have HT2 := hide (HT.out.on UP2.out)
   have HE2 : Hid (∀ b, (E b ∨ b = w.heap.size + 1) → b < ((w.alloc (.cells #[.int .i64 3, .int .i64 0, .slice (some ⟨b', o', none⟩) 2 c] 25)).alloc (.cells #[.string ⟨#[]⟩, .slice none 0 0] 48)).heap.size) := fun b hb => by have h1 := R2.out.1.lt; rcases hb with hb | hb; exact Nat.lt_trans (hEw b hb) (by omega); omega
   go_enter Tryz.func62, Tryz.ntmps62
   go_upto_region 1 with fail
   generalize ((w.alloc (.cells #[.int .i64 3, .int .i64 0, .slice (some ⟨b', o', none⟩) 2 c] 25)).alloc (.cells #[.string ⟨#[]⟩, .slice none 0 0] 48)) = w2 at *
   have x0 := A2.out.1.c0
   have x1 := A2.out.1.c1
   have x2 := A2.out.1.c2
   obtain ⟨⟨⟨y0, y1, y2⟩, y3, y4, y5⟩, hmf, hmx⟩ := KP.out w2 UP2.out
   go_wp2_with fail
   refine (IHF.out (fun b => E b ∨ b = w.heap.size + 1) N P n q _ cs ar au ac w2 X HEF.out HCB.out.1 (by omega) (by omega) (by omega) hac hmf HX.out hBN HT2.out K2.out S2.out HE2.out).mono ?_
   rintro e w3 ⟨a3, c3, q3, cs3, rfl, hs3, hk3, hm3, hf3⟩
   have hcnt := HOK.out n
   have hlen3 := congrArg List.length hm3
   simp only [List.length_map, List.length_append] at hlen3
   obtain ⟨rf, hrf⟩ : ∃ r, r = tyT 86 f ar n := ⟨_, rfl⟩
   rw [← hrf] at hs3 hk3 hm3 hcnt hlen3 HF ⊢
   clear hrf
   have hbd3 : cs3.length ≤ cs.length + sizeM [f] := by omega
   clear hlen3
   have W3 := hide (And.intro hs3 (And.intro hk3 (And.intro hm3 hf3)))
   clear hs3 hk3 hm3 hf3 y0 y1 y2 y3 y4 y5 hmf hmx x0 x1 x2
   have O4 : Hid (Below w3.heap.size w3 (w3.alloc (.cells #[.string rf.1.name, .slice a3 rf.1.args.length c3] 48))) := (Below.refl _ _).alloc (Nat.le_refl _) _
   have V4 : Hid (Bq (w3.alloc (.cells #[.string rf.1.name, .slice a3 rf.1.args.length c3] 48)) P q3 w3.heap.size #[.string rf.1.name, .slice a3 rf.1.args.length c3] 48) := Bq.new W3.out.2.1 _ _
   have SF4 := hide (W3.out.1.later O4.out)
   have K4 := hide (W3.out.2.1.later O4.out)
   have F4 := hide ((F2.out.trans W3.out.2.2.2).then O4.out)
   have A4 := hide ((W3.out.2.2.2.bq A2.out).later O4.out)
   have R4 := hide ((W3.out.2.2.2.bq R2.out).later O4.out)
   have S4 := hide ((W3.out.2.2.2.sl S2.out).later O4.out)
   have M3 := hide W3.out.2.2.1
   have HE4 : Hid (∀ b, (E b ∨ b = w.heap.size + 1) → b < (w3.alloc (.cells #[.string rf.1.name, .slice a3 rf.1.args.length c3] 48)).heap.size) := fun b hb => Nat.lt_of_lt_of_le (HE2.out b hb) (Nat.le_trans W3.out.2.2.2.1.size O4.out.size)
   clear W3 O4 K2 F2 A2 R2 S2 HE2
   go_upto_region 9 with fail
   generalize w3.heap.size = V1 at *
   generalize w3.alloc (.cells #[.string rf.1.name, .slice a3 rf.1.args.length c3] 48) = w4 at *
   skip
   have UP4 : Hid (Below B w w4) := (F4.out.1.below hK0 (fun b hb => by rcases hb with rfl | hb; exact K4.out.ge; exact (hq0 b hb).1)).mono hBN
   obtain ⟨⟨⟨y0, y1, y2⟩, y3, y4, y5⟩, hmf, hmx⟩ := KP.out w4 UP4.out
   have x2 := A4.out.1.c2
   go_wp2_with fail
   refine (IHX.out (fun b => E b ∨ b = w.heap.size + 1) N P rf.2.2 q3 _ cs3 ar au ac w4 X HEX.out HCB.out.2 (by omega) (by omega) (by omega) hac hmx HX.out hBN (HT.out.on UP4.out) K4.out S4.out HE4.out).mono ?_
   rintro e w5 ⟨a5, c5, q5, cs5, rfl, hs5, hk5, hm5, hf5⟩
   have hcnx := HOX.out rf.2.2
   have hlen5 := congrArg List.length hm5
   simp only [List.length_map, List.length_append] at hlen5
   obtain ⟨rx, hrx⟩ : ∃ r, r = tyT 86 x ar rf.2.2 := ⟨_, rfl⟩
   rw [← hrx] at hs5 hk5 hm5 hcnx hlen5 HF ⊢
   clear hrx
   have hbd5 : cs5.length ≤ cs3.length + sizeM [x] := by omega
   clear hlen5
   have W5 := hide (And.intro hs5 (And.intro hk5 (And.intro hm5 hf5)))
   clear hs5 hk5 hm5 hf5 y0 y1 y2 y3 y4 y5 hmf hmx x2
   have O6 : Hid (Below w5.heap.size w5 (w5.alloc (.cells #[.string rx.1.name, .slice a5 rx.1.args.length c5] 48))) := (Below.refl _ _).alloc (Nat.le_refl _) _
   have V6 : Hid (Bq (w5.alloc (.cells #[.string rx.1.name, .slice a5 rx.1.args.length c5] 48)) P q5 w5.heap.size #[.string rx.1.name, .slice a5 rx.1.args.length c5] 48) := Bq.new W5.out.2.1 _ _
   have SX6 := hide (W5.out.1.later O6.out)
   have SF6 := hide ((W5.out.2.2.2.sl SF4.out).later O6.out)
   have K6 := hide (W5.out.2.1.later O6.out)
   have F6 := hide ((F4.out.trans W5.out.2.2.2).then O6.out)
   have R6 := hide ((W5.out.2.2.2.bq R4.out).later O6.out)
   have VF6 := hide ((W5.out.2.2.2.bq V4.out).later O6.out)
   have M5 := hide W5.out.2.2.1
   have HE6 : Hid (∀ b, (E b ∨ b = w.heap.size + 1) → b < (w5.alloc (.cells #[.string rx.1.name, .slice a5 rx.1.args.length c5] 48)).heap.size) := fun b hb => Nat.lt_of_lt_of_le (HE4.out b hb) (Nat.le_trans W5.out.2.2.2.1.size O6.out.size)
   clear W5 O6 K4 F4 A4 R4 S4 V4 SF4 HE4 UP4
   go_upto_region 10 with fail
   generalize w5.heap.size = V2 at *
   generalize w5.alloc (.cells #[.string rx.1.name, .slice a5 rx.1.args.length c5] 48) = w6 at *
   have UP6 : Hid (Below B w w6) := (F6.out.1.below hK0 (fun b hb => by rcases hb with rfl | hb; exact K6.out.ge; exact (hq0 b hb).1)).mono hBN
   go_wp2_with fail
   refine (freshI_any K6.out (by omega) hBN (HT.out.on UP6.out)).mono ?_
   rintro e w7 ⟨rfl, hk7, hf7⟩
   obtain ⟨m, hm⟩ : ∃ m, m = rx.2.2 + 1 := ⟨_, rfl⟩
   rw [← hm] at hk7 HF ⊢
   have HMM := hide hm
   clear hm
   have W7 := hide (And.intro hk7 hf7)
   clear hk7 hf7
   have O8 : Hid (Below w7.heap.size w7 (w7.alloc (.cells #[.string (vrN 86 m), .slice none 0 0] 48))) := (Below.refl _ _).alloc (Nat.le_refl _) _
   have VV8 : Hid (Bq (w7.alloc (.cells #[.string (vrN 86 m), .slice none 0 0] 48)) P q5 w7.heap.size #[.string (vrN 86 m), .slice none 0 0] 48) := Bq.new W7.out.1 _ _
   have SX8 := hide ((W7.out.2.sl SX6.out).later O8.out)
   have SF8 := hide ((W7.out.2.sl SF6.out).later O8.out)
   have K8 := hide (W7.out.1.later O8.out)
   have F8 := hide ((F6.out.trans W7.out.2).then O8.out)
   have R8 := hide ((W7.out.2.bq R6.out).later O8.out)
   have VF8 := hide ((W7.out.2.bq VF6.out).later O8.out)
   have VX8 := hide ((W7.out.2.bq V6.out).later O8.out)
   have HE8 : Hid (∀ b, (E b ∨ b = w.heap.size + 1) → b < (w7.alloc (.cells #[.string (vrN 86 m), .slice none 0 0] 48)).heap.size) := fun b hb => Nat.lt_of_lt_of_le (HE6.out b hb) (Nat.le_trans W7.out.2.1.size O8.out.size)
   have HVR : Hid (w7.heap.size ≠ w.heap.size + 1) := by have h1 := R6.out.1.lt; have h2 := W7.out.2.1.size; unfold Hid; omega
   clear W7 O8 K6 F6 R6 V6 VF6 SX6 SF6 HE6 UP6
   go_upto_region 11 with fail
   generalize w7.heap.size = V3 at *
   generalize w7.alloc (.cells #[.string (vrN 86 m), .slice none 0 0] 48) = w8 at *
   have KS : Hid (∀ w', (Blk w' V1 #[.string rf.1.name, .slice a3 rf.1.args.length c3] 48 ∧ Blk w' V2 #[.string rx.1.name, .slice a5 rx.1.args.length c5] 48 ∧ Blk w' V3 #[.string (vrN 86 m), .slice none 0 0] 48) → (w'.cell? ⟨V1, 0, none⟩ = some (.string rf.1.name) ∧ w'.cell? ⟨V1, 1, none⟩ = some (.slice a3 rf.1.args.length c3)) ∧ (w'.cell? ⟨V2, 0, none⟩ = some (.string rx.1.name) ∧ w'.cell? ⟨V2, 1, none⟩ = some (.slice a5 rx.1.args.length c5)) ∧ w'.cell? ⟨V3, 0, none⟩ = some (.string (vrN 86 m)) ∧ w'.cell? ⟨V3, 1, none⟩ = some (.slice none 0 0)) := fun w' h => ⟨⟨h.1.cell 0, h.1.cell 1⟩, ⟨h.2.1.cell 0, h.2.1.cell 1⟩, h.2.2.cell 0, h.2.2.cell 1⟩
   have kd : Blk w8.drew V1 #[.string rf.1.name, .slice a3 rf.1.args.length c3] 48 ∧ Blk w8.drew V2 #[.string rx.1.name, .slice a5 rx.1.args.length c5] 48 ∧ Blk w8.drew V3 #[.string (vrN 86 m), .slice none 0 0] 48 := ⟨VF8.out.1, VX8.out.1, VV8.out.1⟩
   refine wp_region_held_drew (S := fun w' => Blk w' V1 #[.string rf.1.name, .slice a3 rf.1.args.length c3] 48 ∧ Blk w' V2 #[.string rx.1.name, .slice a5 rx.1.args.length c5] 48 ∧ Blk w' V3 #[.string (vrN 86 m), .slice none 0 0] 48) (by kernel_rfl) kd (fun hHeld => ?_)
   refine tkq (v := ?_) 0 rfl ?_ ?_
   rotate_left
   ·intro w' hSw
    go_simp <;> with_reducible rfl
   try simp only [Act.put, sq]
   refine tkq (v := ?_) 1 rfl ?_ ?_
   rotate_left
   ·intro w' hSw
    go_simp <;> with_reducible rfl
   try simp only [Act.put, sq]
   refine tkq (v := ?_) 2 rfl ?_ ?_
   rotate_left
   ·intro w' hSw
    go_simp <;> with_reducible rfl
   try simp only [Act.put, sq]
   refine tkq (v := ?_) 3 rfl ?_ ?_
   rotate_left
   ·intro w' hSw
    go_simp <;> with_reducible rfl
   try simp only [Act.put, sq]
   refine tkq (v := ?_) 5 rfl ?_ ?_
   rotate_left
   ·intro w' hSw
    obtain ⟨⟨y0, y1⟩, ⟨y2, y3⟩, y4, y5⟩ := KS.out w' hSw
    go_simp <;> with_reducible rfl
   try simp only [Act.put, sq]
   refine tkq (v := ?_) 6 rfl ?_ ?_
   rotate_left
   ·intro w' hSw
    obtain ⟨⟨y0, y1⟩, ⟨y2, y3⟩, y4, y5⟩ := KS.out w' hSw
    go_simp <;> with_reducible rfl
   try simp only [Act.put, sq]
   refine tkq (v := ?_) 7 rfl ?_ ?_
   rotate_left
   ·intro w' hSw
    obtain ⟨⟨y0, y1⟩, ⟨y2, y3⟩, y4, y5⟩ := KS.out w' hSw
    go_simp <;> with_reducible rfl
   try simp only [Act.put, sq]
   refine wpAnyH_ready (rs := [4, 8]) (by kernel_rfl) (by simp) ?_
   refine AllReadyH.cons rfl (fun K hK => ?_) (AllReadyH.cons rfl (fun K hK => ?_) AllReadyH.nil)
   ·have p0 : w8.cell? ⟨P, 0, none⟩ = some q5 := K8.out.box.cell 0
    go_simp
    refine hK.out _ _ (by exact kd) (fun hHeld => ?_)
    clear hK K
    try simp only [Act.put, sq]
    clear p0
    refine rdq 8 rfl fun K hK => ?_
    go_simp
    go_at_call 77
    refine (arrowI_any rx.1 (vrT 86 m) _ _ _ (Zq (fun b => E b ∨ b = w.heap.size + 1) N P q5) ⟨_, _, rfl, SX8.out.later (Below.refl _ _).drew⟩ ⟨none, 0, rfl, by simp [vrT], Or.inl rfl⟩).mono ?_
    rintro e w9 ⟨v9, rfl, ⟨a9, c9, rfl, hs9⟩, hb9⟩
    rw [show (arT rx.1 (vrT 86 m)).name = ⟨#[102]⟩ from rfl, show (arT rx.1 (vrT 86 m)).args.length = 2 from rfl]
    have hb9 : Below w8.heap.size w8 w9 := (Below.refl w8.heap.size w8).drew.trans hb9
    have K9 := hide (K8.out.later hb9)
    have F9 := hide (F8.out.then hb9)
    have SF9 := hide (SF8.out.later hb9)
    have R9 := hide (R8.out.later hb9)
    have VF9 := hide (VF8.out.later hb9)
    have VX9 := hide (VX8.out.later hb9)
    have VV9 := hide (VV8.out.later hb9)
    have SA9 : Hid (Sl w9 (Zq (fun b => E b ∨ b = w.heap.size + 1) N P q5) a9 (arT rx.1 (vrT 86 m)).args) := hs9.mono fun b hb _ => hb.elim id (zq_alloc K8.out HE8.out b)
    have k9 : Blk w9 V1 #[.string rf.1.name, .slice a3 rf.1.args.length c3] 48 ∧ Blk w9 V2 #[.string rx.1.name, .slice a5 rx.1.args.length c5] 48 ∧ Blk w9 V3 #[.string (vrN 86 m), .slice none 0 0] 48 := ⟨VF9.out.1, VX9.out.1, VV9.out.1⟩
    clear hs9 hb9
    go_simp
    refine hK.out _ _ (by exact k9) (fun hHeld => ?_)
    clear hK K
    try simp only [Act.put, sq]
    refine tkq (v := ?_) 9 rfl ?_ ?_
    rotate_left
    ·intro w' hSw
     go_simp <;> with_reducible rfl
    try simp only [Act.put, sq]
    refine rdq 10 rfl fun K hK => ?_
    go_simp
    have kA : Blk (w9.alloc (.cells #[.string rf.1.name, .slice a3 rf.1.args.length c3, .string ⟨#[102]⟩, .slice a9 2 c9] 75)) V1 #[.string rf.1.name, .slice a3 rf.1.args.length c3] 48 ∧ Blk (w9.alloc (.cells #[.string rf.1.name, .slice a3 rf.1.args.length c3, .string ⟨#[102]⟩, .slice a9 2 c9] 75)) V2 #[.string rx.1.name, .slice a5 rx.1.args.length c5] 48 ∧ Blk (w9.alloc (.cells #[.string rf.1.name, .slice a3 rf.1.args.length c3, .string ⟨#[102]⟩, .slice a9 2 c9] 75)) V3 #[.string (vrN 86 m), .slice none 0 0] 48 := ⟨k9.1.alloc _, k9.2.1.alloc _, k9.2.2.alloc _⟩
    refine hK.out _ _ (by exact kA) (fun hHeld => ?_)
    clear hK K
    try simp only [Act.put, sq]
    obtain ⟨g, cap, wB, hap, hst, hexB, hboxB⟩ := app_pairK (⟨⟨rf.1, arT rx.1 (vrT 86 m)⟩, (a3, c3), (a9, c9)⟩ : Pc) K9.out (by omega) ⟨SF9.out, SA9.out⟩
    have HAP := hide hap
    have kB : Blk wB V1 #[.string rf.1.name, .slice a3 rf.1.args.length c3] 48 ∧ Blk wB V2 #[.string rx.1.name, .slice a5 rx.1.args.length c5] 48 ∧ Blk wB V3 #[.string (vrN 86 m), .slice none 0 0] 48 := ⟨VF9.out.1.exq hexB (fun e => e.elim VF9.out.2.1 VF9.out.2.2), VX9.out.1.exq hexB (fun e => e.elim VX9.out.2.1 VX9.out.2.2), VV9.out.1.exq hexB (fun e => e.elim VV9.out.2.1 VV9.out.2.2)⟩
    clear hap
    refine rdq 11 rfl fun K hK => ?_
    refine step_append_eqM rfl _ _ _ _ rfl rfl rfl HAP.out ?_
    refine hK.out _ _ (by exact kB) (fun hHeld => ?_)
    clear hK K
    try simp only [Act.put, sq]
    have p0 : wB.cell? ⟨P, 0, none⟩ = some q5 := hboxB.cell 0
    have pf : wB.frozen? ⟨P, 0, none⟩ = false := hboxB.frozen 0
    obtain ⟨KC, FC⟩ := hst _ rfl
    have kC : Blk (wB.setCell ⟨P, 0, none⟩ (.slice (some ⟨g, 0, none⟩) (cs5.length + 1) cap)) V1 #[.string rf.1.name, .slice a3 rf.1.args.length c3] 48 ∧ Blk (wB.setCell ⟨P, 0, none⟩ (.slice (some ⟨g, 0, none⟩) (cs5.length + 1) cap)) V2 #[.string rx.1.name, .slice a5 rx.1.args.length c5] 48 ∧ Blk (wB.setCell ⟨P, 0, none⟩ (.slice (some ⟨g, 0, none⟩) (cs5.length + 1) cap)) V3 #[.string (vrN 86 m), .slice none 0 0] 48 := ⟨kB.1.setOther 0 _ VF9.out.2.1, kB.2.1.setOther 0 _ VX9.out.2.1, kB.2.2.setOther 0 _ VV9.out.2.1⟩
    refine tkq (v := ?_) 12 rfl ?_ ?_
    rotate_left
    ·intro w' hSw
     go_simp <;> with_reducible rfl
    try simp only [Act.put, sq]
    refine tkq (v := ?_) 13 rfl ?_ ?_
    rotate_left
    ·intro w' hSw
     go_simp <;> with_reducible rfl
    try simp only [Act.put, sq]
    refine rdq 14 rfl fun K hK => ?_
    go_simp
    refine hK.out _ _ (by exact kC) (fun hHeld => ?_)
    clear hK K
    try simp only [Act.put, sq]
    refine wpAnyH_done (by kernel_rfl) ?_ _
    have R10 := hide (FC.bq R9.out)
    have F10 := hide (F9.out.trans FC)
    have K10 := hide KC
    clear KC FC hst hexB hboxB p0 pf
    generalize (wB.setCell ⟨P, 0, none⟩ (.slice (some ⟨g, 0, none⟩) (cs5.length + 1) cap)) = w10 at *
    generalize (Value.slice (some ⟨g, 0, none⟩) (cs5.length + 1) cap) = q10 at *
    have v0 := kC.2.2.cell 0
    have v1 := kC.2.2.cell 1
    simp only [List.getElem?_toArray, List.getElem?_cons_zero, List.getElem?_cons_succ] at v0 v1
    have r0 := R10.out.1.c0
    have r1 := R10.out.1.c1
    have f0 : w10.frozen? ⟨w.heap.size + 1, 0, none⟩ = false := R10.out.1.frozen 0
    have f1 : w10.frozen? ⟨w.heap.size + 1, 1, none⟩ = false := R10.out.1.frozen 1
    go_wp2_with fail
    obtain ⟨K11, F11, R11, S11⟩ := K10.out.store F10.out R10.out (by omega) (.string (vrN 86 m)) (.slice none 0 0) (a := none) (l := []) ⟨by simp, Or.inl rfl⟩
    generalize ((w10.setCell ⟨w.heap.size + 1, 0, none⟩ (.string (vrN 86 m))).setCell ⟨w.heap.size + 1, 1, none⟩ (.slice none 0 0)) = w11 at *
    have c0 := R11.cell 0
    have c1 := R11.cell 1
    simp only [List.getElem?_toArray, List.getElem?_cons_zero, List.getElem?_cons_succ] at c0 c1
    refine bodyPost_ret (v := .agg #[.string (vrN 86 m), .slice none 0 0]) (by simp [results, Tryz.results62, go_sem, c0, c1]) rfl ?_
    refine ⟨none, 0, q10, cs5 ++ [⟨⟨rf.1, arT rx.1 (vrT 86 m)⟩, (a3, c3), (a9, c9)⟩], ?_, ?_, ?_, ?_, F11⟩
    ·rw [HF.out]; rfl
    ·rw [HF.out]; exact S11
    ·rw [HF.out]; exact K11
    ·rw [HF.out, List.map_append, M5.out, M3.out]; simp
   ·go_simp
    go_at_call 77
    refine (arrowI_any rx.1 (vrT 86 m) _ _ _ (Zq (fun b => E b ∨ b = w.heap.size + 1) N P q5) ⟨_, _, rfl, SX8.out.later (Below.refl _ _).drew⟩ ⟨none, 0, rfl, by simp [vrT], Or.inl rfl⟩).mono ?_
    rintro e w9 ⟨v9, rfl, ⟨a9, c9, rfl, hs9⟩, hb9⟩
    rw [show (arT rx.1 (vrT 86 m)).name = ⟨#[102]⟩ from rfl, show (arT rx.1 (vrT 86 m)).args.length = 2 from rfl]
    have hb9 : Below w8.heap.size w8 w9 := (Below.refl w8.heap.size w8).drew.trans hb9
    have K9 := hide (K8.out.later hb9)
    have F9 := hide (F8.out.then hb9)
    have SF9 := hide (SF8.out.later hb9)
    have R9 := hide (R8.out.later hb9)
    have VF9 := hide (VF8.out.later hb9)
    have VX9 := hide (VX8.out.later hb9)
    have VV9 := hide (VV8.out.later hb9)
    have SA9 : Hid (Sl w9 (Zq (fun b => E b ∨ b = w.heap.size + 1) N P q5) a9 (arT rx.1 (vrT 86 m)).args) := hs9.mono fun b hb _ => hb.elim id (zq_alloc K8.out HE8.out b)
    have k9 : Blk w9 V1 #[.string rf.1.name, .slice a3 rf.1.args.length c3] 48 ∧ Blk w9 V2 #[.string rx.1.name, .slice a5 rx.1.args.length c5] 48 ∧ Blk w9 V3 #[.string (vrN 86 m), .slice none 0 0] 48 := ⟨VF9.out.1, VX9.out.1, VV9.out.1⟩
    clear hs9 hb9
    go_simp
    refine hK.out _ _ (by exact k9) (fun hHeld => ?_)
    clear hK K
    try simp only [Act.put, sq]
    refine tkq (v := ?_) 9 rfl ?_ ?_
    rotate_left
    ·intro w' hSw
     go_simp <;> with_reducible rfl
    try simp only [Act.put, sq]
    refine wpAnyH_ready (rs := [4, 10]) (by kernel_rfl) (by simp) ?_
    refine AllReadyH.cons rfl (fun K hK => ?_) (AllReadyH.cons rfl (fun K hK => ?_) AllReadyH.nil)
    ·have p0 : w9.cell? ⟨P, 0, none⟩ = some q5 := K9.out.box.cell 0
     go_simp
     refine hK.out _ _ (by exact k9) (fun hHeld => ?_)
     clear hK K
     try simp only [Act.put, sq]
     clear p0
     refine rdq 10 rfl fun K hK => ?_
     go_simp
     have kA : Blk (w9.alloc (.cells #[.string rf.1.name, .slice a3 rf.1.args.length c3, .string ⟨#[102]⟩, .slice a9 2 c9] 75)) V1 #[.string rf.1.name, .slice a3 rf.1.args.length c3] 48 ∧ Blk (w9.alloc (.cells #[.string rf.1.name, .slice a3 rf.1.args.length c3, .string ⟨#[102]⟩, .slice a9 2 c9] 75)) V2 #[.string rx.1.name, .slice a5 rx.1.args.length c5] 48 ∧ Blk (w9.alloc (.cells #[.string rf.1.name, .slice a3 rf.1.args.length c3, .string ⟨#[102]⟩, .slice a9 2 c9] 75)) V3 #[.string (vrN 86 m), .slice none 0 0] 48 := ⟨k9.1.alloc _, k9.2.1.alloc _, k9.2.2.alloc _⟩
     refine hK.out _ _ (by exact kA) (fun hHeld => ?_)
     clear hK K
     try simp only [Act.put, sq]
     obtain ⟨g, cap, wB, hap, hst, hexB, hboxB⟩ := app_pairK (⟨⟨rf.1, arT rx.1 (vrT 86 m)⟩, (a3, c3), (a9, c9)⟩ : Pc) K9.out (by omega) ⟨SF9.out, SA9.out⟩
     have HAP := hide hap
     have kB : Blk wB V1 #[.string rf.1.name, .slice a3 rf.1.args.length c3] 48 ∧ Blk wB V2 #[.string rx.1.name, .slice a5 rx.1.args.length c5] 48 ∧ Blk wB V3 #[.string (vrN 86 m), .slice none 0 0] 48 := ⟨VF9.out.1.exq hexB (fun e => e.elim VF9.out.2.1 VF9.out.2.2), VX9.out.1.exq hexB (fun e => e.elim VX9.out.2.1 VX9.out.2.2), VV9.out.1.exq hexB (fun e => e.elim VV9.out.2.1 VV9.out.2.2)⟩
     clear hap
     refine rdq 11 rfl fun K hK => ?_
     refine step_append_eqM rfl _ _ _ _ rfl rfl rfl HAP.out ?_
     refine hK.out _ _ (by exact kB) (fun hHeld => ?_)
     clear hK K
     try simp only [Act.put, sq]
     have p0 : wB.cell? ⟨P, 0, none⟩ = some q5 := hboxB.cell 0
     have pf : wB.frozen? ⟨P, 0, none⟩ = false := hboxB.frozen 0
     obtain ⟨KC, FC⟩ := hst _ rfl
     have kC : Blk (wB.setCell ⟨P, 0, none⟩ (.slice (some ⟨g, 0, none⟩) (cs5.length + 1) cap)) V1 #[.string rf.1.name, .slice a3 rf.1.args.length c3] 48 ∧ Blk (wB.setCell ⟨P, 0, none⟩ (.slice (some ⟨g, 0, none⟩) (cs5.length + 1) cap)) V2 #[.string rx.1.name, .slice a5 rx.1.args.length c5] 48 ∧ Blk (wB.setCell ⟨P, 0, none⟩ (.slice (some ⟨g, 0, none⟩) (cs5.length + 1) cap)) V3 #[.string (vrN 86 m), .slice none 0 0] 48 := ⟨kB.1.setOther 0 _ VF9.out.2.1, kB.2.1.setOther 0 _ VX9.out.2.1, kB.2.2.setOther 0 _ VV9.out.2.1⟩
     refine tkq (v := ?_) 12 rfl ?_ ?_
     rotate_left
     ·intro w' hSw
      go_simp <;> with_reducible rfl
     try simp only [Act.put, sq]
     refine tkq (v := ?_) 13 rfl ?_ ?_
     rotate_left
     ·intro w' hSw
      go_simp <;> with_reducible rfl
     try simp only [Act.put, sq]
     refine rdq 14 rfl fun K hK => ?_
     go_simp
     refine hK.out _ _ (by exact kC) (fun hHeld => ?_)
     clear hK K
     try simp only [Act.put, sq]
     refine wpAnyH_done (by kernel_rfl) ?_ _
     have R10 := hide (FC.bq R9.out)
     have F10 := hide (F9.out.trans FC)
     have K10 := hide KC
     clear KC FC hst hexB hboxB p0 pf
     generalize (wB.setCell ⟨P, 0, none⟩ (.slice (some ⟨g, 0, none⟩) (cs5.length + 1) cap)) = w10 at *
     generalize (Value.slice (some ⟨g, 0, none⟩) (cs5.length + 1) cap) = q10 at *
     have v0 := kC.2.2.cell 0
     have v1 := kC.2.2.cell 1
     simp only [List.getElem?_toArray, List.getElem?_cons_zero, List.getElem?_cons_succ] at v0 v1
     have r0 := R10.out.1.c0
     have r1 := R10.out.1.c1
     have f0 : w10.frozen? ⟨w.heap.size + 1, 0, none⟩ = false := R10.out.1.frozen 0
     have f1 : w10.frozen? ⟨w.heap.size + 1, 1, none⟩ = false := R10.out.1.frozen 1
     go_wp2_with fail
     obtain ⟨K11, F11, R11, S11⟩ := K10.out.store F10.out R10.out (by omega) (.string (vrN 86 m)) (.slice none 0 0) (a := none) (l := []) ⟨by simp, Or.inl rfl⟩
     generalize ((w10.setCell ⟨w.heap.size + 1, 0, none⟩ (.string (vrN 86 m))).setCell ⟨w.heap.size + 1, 1, none⟩ (.slice none 0 0)) = w11 at *
     have c0 := R11.cell 0
     have c1 := R11.cell 1
     simp only [List.getElem?_toArray, List.getElem?_cons_zero, List.getElem?_cons_succ] at c0 c1
     refine bodyPost_ret (v := .agg #[.string (vrN 86 m), .slice none 0 0]) (by simp [results, Tryz.results62, go_sem, c0, c1]) rfl ?_
     refine ⟨none, 0, q10, cs5 ++ [⟨⟨rf.1, arT rx.1 (vrT 86 m)⟩, (a3, c3), (a9, c9)⟩], ?_, ?_, ?_, ?_, F11⟩
     ·rw [HF.out]; rfl
     ·rw [HF.out]; exact S11
     ·rw [HF.out]; exact K11
     ·rw [HF.out, List.map_append, M5.out, M3.out]; simp
    ·go_simp
     have kA : Blk (w9.alloc (.cells #[.string rf.1.name, .slice a3 rf.1.args.length c3, .string ⟨#[102]⟩, .slice a9 2 c9] 75)) V1 #[.string rf.1.name, .slice a3 rf.1.args.length c3] 48 ∧ Blk (w9.alloc (.cells #[.string rf.1.name, .slice a3 rf.1.args.length c3, .string ⟨#[102]⟩, .slice a9 2 c9] 75)) V2 #[.string rx.1.name, .slice a5 rx.1.args.length c5] 48 ∧ Blk (w9.alloc (.cells #[.string rf.1.name, .slice a3 rf.1.args.length c3, .string ⟨#[102]⟩, .slice a9 2 c9] 75)) V3 #[.string (vrN 86 m), .slice none 0 0] 48 := ⟨k9.1.alloc _, k9.2.1.alloc _, k9.2.2.alloc _⟩
     refine hK.out _ _ (by exact kA) (fun hHeld => ?_)
     clear hK K
     try simp only [Act.put, sq]
     refine rdq 4 rfl fun K hK => ?_
     have p0 : (w9.alloc (.cells #[.string rf.1.name, .slice a3 rf.1.args.length c3, .string ⟨#[102]⟩, .slice a9 2 c9] 75)).cell? ⟨P, 0, none⟩ = some q5 := (K9.out.later ((Below.refl _ _).alloc (Nat.le_refl _) (.cells #[.string rf.1.name, .slice a3 rf.1.args.length c3, .string ⟨#[102]⟩, .slice a9 2 c9] 75))).box.cell 0
     go_simp
     refine hK.out _ _ (by exact kA) (fun hHeld => ?_)
     clear hK K
     try simp only [Act.put, sq]
     clear p0
     obtain ⟨g, cap, wB, hap, hst, hexB, hboxB⟩ := app_pairK (⟨⟨rf.1, arT rx.1 (vrT 86 m)⟩, (a3, c3), (a9, c9)⟩ : Pc) K9.out (by omega) ⟨SF9.out, SA9.out⟩
     have HAP := hide hap
     have kB : Blk wB V1 #[.string rf.1.name, .slice a3 rf.1.args.length c3] 48 ∧ Blk wB V2 #[.string rx.1.name, .slice a5 rx.1.args.length c5] 48 ∧ Blk wB V3 #[.string (vrN 86 m), .slice none 0 0] 48 := ⟨VF9.out.1.exq hexB (fun e => e.elim VF9.out.2.1 VF9.out.2.2), VX9.out.1.exq hexB (fun e => e.elim VX9.out.2.1 VX9.out.2.2), VV9.out.1.exq hexB (fun e => e.elim VV9.out.2.1 VV9.out.2.2)⟩
     clear hap
     refine rdq 11 rfl fun K hK => ?_
     refine step_append_eqM rfl _ _ _ _ rfl rfl rfl HAP.out ?_
     refine hK.out _ _ (by exact kB) (fun hHeld => ?_)
     clear hK K
     try simp only [Act.put, sq]
     have p0 : wB.cell? ⟨P, 0, none⟩ = some q5 := hboxB.cell 0
     have pf : wB.frozen? ⟨P, 0, none⟩ = false := hboxB.frozen 0
     obtain ⟨KC, FC⟩ := hst _ rfl
     have kC : Blk (wB.setCell ⟨P, 0, none⟩ (.slice (some ⟨g, 0, none⟩) (cs5.length + 1) cap)) V1 #[.string rf.1.name, .slice a3 rf.1.args.length c3] 48 ∧ Blk (wB.setCell ⟨P, 0, none⟩ (.slice (some ⟨g, 0, none⟩) (cs5.length + 1) cap)) V2 #[.string rx.1.name, .slice a5 rx.1.args.length c5] 48 ∧ Blk (wB.setCell ⟨P, 0, none⟩ (.slice (some ⟨g, 0, none⟩) (cs5.length + 1) cap)) V3 #[.string (vrN 86 m), .slice none 0 0] 48 := ⟨kB.1.setOther 0 _ VF9.out.2.1, kB.2.1.setOther 0 _ VX9.out.2.1, kB.2.2.setOther 0 _ VV9.out.2.1⟩
     refine tkq (v := ?_) 12 rfl ?_ ?_
     rotate_left
     ·intro w' hSw
      go_simp <;> with_reducible rfl
     try simp only [Act.put, sq]
     refine tkq (v := ?_) 13 rfl ?_ ?_
     rotate_left
     ·intro w' hSw
      go_simp <;> with_reducible rfl
     try simp only [Act.put, sq]
     refine rdq 14 rfl fun K hK => ?_
     go_simp
     refine hK.out _ _ (by exact kC) (fun hHeld => ?_)
     clear hK K
     try simp only [Act.put, sq]
     refine wpAnyH_done (by kernel_rfl) ?_ _
     have R10 := hide (FC.bq R9.out)
     have F10 := hide (F9.out.trans FC)
     have K10 := hide KC
     clear KC FC hst hexB hboxB p0 pf
     generalize (wB.setCell ⟨P, 0, none⟩ (.slice (some ⟨g, 0, none⟩) (cs5.length + 1) cap)) = w10 at *
     generalize (Value.slice (some ⟨g, 0, none⟩) (cs5.length + 1) cap) = q10 at *
     have v0 := kC.2.2.cell 0
     have v1 := kC.2.2.cell 1
     simp only [List.getElem?_toArray, List.getElem?_cons_zero, List.getElem?_cons_succ] at v0 v1
     have r0 := R10.out.1.c0
     have r1 := R10.out.1.c1
     have f0 : w10.frozen? ⟨w.heap.size + 1, 0, none⟩ = false := R10.out.1.frozen 0
     have f1 : w10.frozen? ⟨w.heap.size + 1, 1, none⟩ = false := R10.out.1.frozen 1
     go_wp2_with fail
     obtain ⟨K11, F11, R11, S11⟩ := K10.out.store F10.out R10.out (by omega) (.string (vrN 86 m)) (.slice none 0 0) (a := none) (l := []) ⟨by simp, Or.inl rfl⟩
     generalize ((w10.setCell ⟨w.heap.size + 1, 0, none⟩ (.string (vrN 86 m))).setCell ⟨w.heap.size + 1, 1, none⟩ (.slice none 0 0)) = w11 at *
     have c0 := R11.cell 0
     have c1 := R11.cell 1
     simp only [List.getElem?_toArray, List.getElem?_cons_zero, List.getElem?_cons_succ] at c0 c1
     refine bodyPost_ret (v := .agg #[.string (vrN 86 m), .slice none 0 0]) (by simp [results, Tryz.results62, go_sem, c0, c1]) rfl ?_
     refine ⟨none, 0, q10, cs5 ++ [⟨⟨rf.1, arT rx.1 (vrT 86 m)⟩, (a3, c3), (a9, c9)⟩], ?_, ?_, ?_, ?_, F11⟩
     ·rw [HF.out]; rfl
     ·rw [HF.out]; exact S11
     ·rw [HF.out]; exact K11
     ·rw [HF.out, List.map_append, M5.out, M3.out]; simp
  ·cases e
   rw [csL_one] at hc
   simp at hc
theorem spreadTI {W0 W : World} {G0 : Nat} {Y : Nat → Prop} {a : Option Addr} {c : Nat} {l : List Tm} (hb : Below W0.heap.size W0 W) (hG : W0.heap.size ≤ G0) (hB : Blk W G0 #[] 48) (hs : Sl W0 Y a l) (hl : l.length ≤ 100000) :
  ∃ v1 W1 xs, (Builtin.append_ #[46, 46] 46 #[.slice (some ⟨G0, 0, none⟩) 0 0, .slice a l.length c]).run Tryz.prog W = .ok v1 W1 ∧ W1.ownsRow W0.heap.size 48 2 v1 l.length xs ∧ RowT W0 Y l xs ∧ Below W0.heap.size W0 W1 ∧ (∀ q, q < W.heap.size → q ≠ G0 → W1.heap[q]? = W.heap[q]?) ∧ W.heap.size ≤ W1.heap.size ∧ (∀ b, v1.ownBlock = some b → b = G0 ∨ W.heap.size ≤ b) := by
 obtain ⟨i0, hi, hz0, hz1, hz2⟩ := info_parts Tryz.infoTerm
 have hbs := hb.size
 have hown : W.ownsRow W0.heap.size 48 2 (.slice (some ⟨G0, 0, none⟩) 0 0) 0 [] := ⟨by simp, Or.inr ⟨G0, 0, #[], rfl, hG, hB, by omega, by unfold maxLen; omega, by simp, by simp⟩⟩
 have fin : ∀ (W1 : World), W.grownBy W1 (some G0) → Below W0.heap.size W0 W1 ∧ (∀ q, q < W.heap.size → q ≠ G0 → W1.heap[q]? = W.heap[q]?) ∧ W.heap.size ≤ W1.heap.size := by
  intro W1 hg
  exact ⟨hb.grown hg hbs (fun k hk => by simp at hk; omega), fun q hq hne => hg.block q hq (by simp; exact fun e => hne e), hg.size⟩
 cases a with
 | none =>
  have hl0 : l = [] := by
   rcases hs.2 with h | ⟨b, o, e, _⟩
   ·exact h
   ·cases e
  subst hl0
  obtain ⟨f1, f2, f3⟩ := fin W ⟨rfl, rfl, rfl, Nat.le_refl _, fun k hk _ => rfl⟩
  refine ⟨.slice (some ⟨G0, 0, none⟩) 0 0, W, [], ?_, hown, rfl, f1, f2, f3, fun b h => Or.inl (by simpa [Value.ownBlock] using h.symm)⟩
  have hrun : ∀ cc, (Builtin.append_ #[46, 46] 46 #[.slice (some ⟨G0, 0, none⟩) 0 0, .slice none 0 cc]).run Tryz.prog W = .ok (.slice (some ⟨G0, 0, none⟩) 0 0) W := fun cc => by
   simp [Builtin.append_, run_underlying Tryz.underlying46, sizeOf, typeInfo, hi, Builtin.lenOf, Builtin.firstCells, storeCells]
  exact hrun c
 | some ad =>
  obtain ⟨xs, hr, hx⟩ : ∃ xs, RowT W0 Y l xs ∧ ∀ j u, xs[j]? = some u → W.cell? (ad.add j) = some u := by
   rcases hs.2 with rfl | ⟨b, o, e, hL⟩
   ·exact ⟨[], rfl, fun j u hj => by simp at hj⟩
   ·cases e
    obtain ⟨xs, h1, h2⟩ := rowT_of_lies l b o hL
    refine ⟨xs, h1, fun j u hj => ?_⟩
    have e : (⟨b, o, none⟩ : Addr).add j = ⟨b, o + j, none⟩ := by
     by_cases h0 : j = 0
     ·subst h0; simp [Addr.add]
     ·simp [Addr.add, h0]
    rw [e]
    exact cell_later hb (h2 j u hj)
  obtain ⟨v1, W1, hrun, ho, hg, _, h5⟩ := run_append_own_at (P := Tryz.prog) W W0.heap.size 46 46 48 i0 _ 2 40 Tryz.underlying46 hi hz0 hz1 hz2 rfl (by decide) _ 0 [] hown ad l.length c xs hr.len hx (fun u hu => RowT.one hr u hu) (by unfold maxLen; omega) (by omega) hbs
  obtain ⟨f1, f2, f3⟩ := fin W1 (by simpa [Value.ownBlock] using hg)
  refine ⟨v1, W1, xs, hrun, by simpa using ho, hr, f1, f2, f3, fun b h => ?_⟩
  rcases h5 with h5 | h5
  ·rw [h5] at h
   exact Or.inl (by simpa [Value.ownBlock] using h.symm)
  ·rw [h5] at h
   exact Or.inr (by simp at h; omega)
theorem oneTI {W0 W : World} {P0 T : Nat} {Y : Nat → Prop} {v : Value} {l : List Tm} {xs : List Value} {s : ByteArray} (hb : Below W0.heap.size W0 W) (ho : W.ownsRow W0.heap.size 48 2 v l.length xs) (hr : RowT W0 Y l xs) (hP : Blk W P0 #[.string s, .slice none 0 0] T) (hl : l.length ≤ 100000) :
  ∃ g cap W1, (Builtin.append_ #[46, 46] 46 #[v, .slice (some ⟨P0, 0, none⟩) 1 1]).run Tryz.prog W = .ok (.slice (some ⟨g, 0, none⟩) (l.length + 1) cap) W1 ∧
   Sl W1 (fun b => Y b ∨ b = g) (some ⟨g, 0, none⟩) (l ++ [⟨s, []⟩]) ∧ Below W0.heap.size W0 W1 ∧ (W0.heap.size ≤ g ∧ g < W1.heap.size) ∧ l.length + 1 ≤ cap ∧ (∀ q, q < W.heap.size → some q ≠ v.ownBlock → W1.heap[q]? = W.heap[q]?) ∧ W.heap.size ≤ W1.heap.size ∧ (v.ownBlock = some g ∨ W.heap.size ≤ g) := by
 obtain ⟨i0, hi, hz0, hz1, hz2⟩ := info_parts Tryz.infoTerm
 have hbs := hb.size
 obtain ⟨g, cap, W1, hrun, ho1, hg, hat, hgl⟩ := run_append_lies (P := Tryz.prog) (w := W) 46 46 W0.heap.size 48 i0 _ 2 40 Tryz.underlying46 hi hz0 hz1 hz2 rfl (by decide) v l.length xs ho ⟨P0, 0, none⟩ 1 1 [.string s, .slice none 0 0] rfl (cells_two hP) (fun x hx => by simp at hx; rcases hx with rfl | rfl <;> rfl) (by decide) (by unfold maxLen; omega) (by omega) hbs _ rfl
 have hbl : Below W0.heap.size W0 W1 := hb.grown hg hbs (fun k hk => (ho.lt k hk).1)
 obtain ⟨g2, cap2, e, hg1, _, _⟩ := owned_val ho1 (by omega)
 cases e
 have hcap : l.length + 1 ≤ cap := by
  rcases ho1.2 with ⟨_, h0⟩ | ⟨g1, cap1, cur, e, _, _, h1, _⟩
  ·omega
  ·cases e; exact h1
 refine ⟨g, cap, W1, hrun, sl_owned (Y := fun b => Y b ∨ b = g) ho1 (by omega) (l := l ++ [⟨s, []⟩]) (RowT.append hr ⟨none, 0, [], rfl, ⟨by simp, Or.inl rfl⟩, rfl⟩) (fun a k h => (h.later hbl).mono fun b h _ => Or.inl h) (Or.inr rfl) (by simp; omega), hbl, ⟨hg1, hgl⟩, hcap, fun q hq hne => hg.block q hq hne, hg.size, ?_⟩
 rcases hat with h | h
 ·exact Or.inl h
 ·exact Or.inr (by omega)
theorem wpAnyH_name {P : Program} {md : Region.Mode} {ops : Array Oper} {Q : Exit → Act → World → Prop} {S : World → Prop} {fuel : Nat} {listed : Array Bool} {a : Act} {w : World} (h : ∀ (X : Nat → Array Bool → Act → World → Prop) (li : Array Bool) (a0 : Act), X = wpAnyH P md ops Q S → li = listed → a0 = a → X fuel li a0 w) : wpAnyH P md ops Q S fuel listed a w := h _ _ _ rfl rfl rfl
def RgO (E : Nat → Prop) (N P T n : Nat) (q : Value) (cs : List Pc) (b : Lm) (ar : List Tm) (w4 : World) (V8 : Value) (w' : World) : Prop :=
 ∃ A8 a c q' cs', V8 = .pointer (some ⟨A8, 0, none⟩) ∧ Bq w' P q' A8 #[.string (tyT 84 b (ar ++ [vrT 84 (n + 1)]) (n + 1)).1.name, .slice a (tyT 84 b (ar ++ [vrT 84 (n + 1)]) (n + 1)).1.args.length c] 48 ∧ Sl w' (Zq E N P q') a (tyT 84 b (ar ++ [vrT 84 (n + 1)]) (n + 1)).1.args ∧ AsK E w' N P T (tyT 84 b (ar ++ [vrT 84 (n + 1)]) (n + 1)).2.2 q' cs' ∧ cs'.map (·.1) = cs.map (·.1) ++ (tyT 84 b (ar ++ [vrT 84 (n + 1)]) (n + 1)).2.1 ∧ AsF w4 w' P q q'
theorem rgO_mk {E : Nat → Prop} {N P T n : Nat} {q : Value} {cs : List Pc} {b : Lm} {ar : List Tm} {w4 w' : World} {r : Tm × List Pr × Nat} (hr : tyT 84 b (ar ++ [vrT 84 (n + 1)]) (n + 1) = r) {A8 c : Nat} {a : Option Addr} {q' : Value} {cs' : List Pc} (h1 : Bq w' P q' A8 #[.string r.1.name, .slice a r.1.args.length c] 48) (h2 : Sl w' (Zq E N P q') a r.1.args) (h3 : AsK E w' N P T r.2.2 q' cs') (h4 : cs'.map (·.1) = cs.map (·.1) ++ r.2.1) (h5 : AsF w4 w' P q q') : RgO E N P T n q cs b ar w4 (.pointer (some ⟨A8, 0, none⟩)) w' := by
 subst hr
 exact ⟨A8, a, c, q', cs', rfl, h1, h2, h3, h4, h5⟩
theorem seI {w : World} {E1 E2 : Nat → Prop} {N P s g : Nat} {q : Value} {a : Option Addr} {l : List Tm} (hs : Sl w (fun d => (Zq E1 N P q d ∧ d < s) ∨ d = g) a l) (hE : ∀ d, d < s → E2 d → E1 d) (hg : Zq E2 N P q g) : Sl w (Zq E2 N P q) a l :=
 hs.mono fun d hd _ => hd.elim (fun h => ⟨h.1.1, h.1.2.1, h.1.2.2.1, fun e => h.1.2.2.2 (hE d h.2 e)⟩) (fun e => by rw [e]; exact hg)
theorem AsF.bq0 {w w' : World} {P : Nat} {q q' : Value} (h : AsF w w' P q q') {w1 : World} {b : Nat} {cs : Array Value} {T : Nat} (hb : Bq w1 P q' b cs T) : b ≠ P ∧ some b ≠ q'.ownBlock := hb.2
def S8 (B n V : Nat) (w : World) (b' o' c : Nat) (w' : World) : Prop := Blk w' V #[.string (vrN 84 (n + 1)), .slice none 0 0] 48 ∧ Blk w' w.heap.size #[.int .i64 2, .int .i64 0, .slice (some ⟨b', o', none⟩) 1 c] 25 ∧ Below B w w'
set_option maxHeartbeats 8000000 in
theorem typeR_any {B : Nat} (t : Lm) : ∀ (E : Nat → Prop) (N P n : Nat) (q v : Value) (cs : List Pc) (ar : List Tm) (au : Option Addr) (ac : Nat) (w : World) (X : Nat → Prop), errM ar.length 0 [t] = 0 → csL [t] = false → n + sizeM [t] ≤ 900 → cs.length + sizeM [t] ≤ 100000 → ar.length + sizeM [t] ≤ 1000 → ar.length ≤ ac → MV w X v t → (∀ x, X x → x < B) → B ≤ N → AsK E w N P 45 n q cs → Sl w (Zq E N P q) au ar → (∀ b, E b → b < w.heap.size) →
  Calls Tryz.prog 12 #[.pointer (some ⟨P, 0, none⟩), v, .slice au ar.length ac] w fun e w' => TyP 84 E N P 45 n q cs t ar w e w' := by
 induction t using Lm.ind with
 | h k0 i0 l0 ih =>
  intro E N P n q v cs ar au ac w X he hc hn hcs har hac hv hX hBN hK hS hEw
  have IH := hide ih
  clear ih
  obtain ⟨a, c, rfl, hs⟩ := hv
  have HX := hide hX
  have HAR := hide har
  have HN := hide hn
  have HCS := hide hcs
  rcases may_look he with ⟨x, e, h1, h2⟩ | ⟨b, e, hb⟩ | ⟨f, x, e, hf, hx⟩ | ⟨x, e, _, _⟩
  ·cases e
   obtain ⟨i, rfl⟩ : ∃ i : Nat, i0 = (i : Int) := ⟨i0.toNat, by omega⟩
   have hil : i < ar.length := by omega
   have K1 := hide (hK.later ((Below.refl _ _).alloc (Nat.le_refl _) (.cells #[.int .i64 1, .int .i64 (i : Int), .slice a 0 c] 25)))
   have K2 : Hid (AsK (fun b => E b ∨ b = w.heap.size + 1) ((w.alloc (.cells #[.int .i64 1, .int .i64 (i : Int), .slice a 0 c] 25)).alloc (.cells #[.string ⟨#[]⟩, .slice none 0 0] 48)) N P 45 n q cs) := (hK.excl (E' := fun b => E b ∨ b = w.heap.size + 1) fun b hb h => h.elim id (fun h => by omega)).later (((Below.refl _ _).alloc (Nat.le_refl _) _).alloc (by simp) _)
   have A2 : Hid (Bq ((w.alloc (.cells #[.int .i64 1, .int .i64 (i : Int), .slice a 0 c] 25)).alloc (.cells #[.string ⟨#[]⟩, .slice none 0 0] 48)) P q w.heap.size #[.int .i64 1, .int .i64 (i : Int), .slice a 0 c] 25) := (Bq.new hK _ _).later ((Below.refl _ _).alloc (Nat.le_refl _) _)
   have R2 : Hid (Bq ((w.alloc (.cells #[.int .i64 1, .int .i64 (i : Int), .slice a 0 c] 25)).alloc (.cells #[.string ⟨#[]⟩, .slice none 0 0] 48)) P q (w.heap.size + 1) #[.string ⟨#[]⟩, .slice none 0 0] 48) := by have h := Bq.new K1.out #[.string ⟨#[]⟩, .slice none 0 0] 48; rw [World.size_alloc] at h; exact h
   have B2 : Hid (Below w.heap.size w ((w.alloc (.cells #[.int .i64 1, .int .i64 (i : Int), .slice a 0 c] 25)).alloc (.cells #[.string ⟨#[]⟩, .slice none 0 0] 48))) := ((Below.refl _ _).alloc (Nat.le_refl _) _).alloc (by simp) _
   have S2 := hide ((sl_excl (E' := fun b => E b ∨ b = w.heap.size + 1) hS fun b hb h => h.elim id (fun h => by omega)).later B2.out)
   have F2 := hide (AsF.ofBelow B2.out P q)
   clear hK hS K1
   have HR := hide (tyT_bound 84 (i : Int) ar n)
   have hlt : ar.length - 1 - i < ar.length := by omega
   have HG : Hid ((tyT 84 ⟨1, (i : Int), []⟩ ar n).1 = ar[ar.length - 1 - i]) := by unfold Hid; rw [HR.out]; show ar.getD (ar.length - 1 - (i : Int).toNat) noT = _; rw [Int.toNat_natCast, List.getD_eq_getElem?_getD, List.getElem?_eq_getElem hlt]; rfl
   have HR2 : Hid ((tyT 84 ⟨1, (i : Int), []⟩ ar n).2 = ([], n)) := by unfold Hid; rw [HR.out]
   obtain ⟨b, o, a', c', rfl, d0, d1, hx⟩ := S2.out.get (Below.refl _ _) (fun _ _ h => h) (ar.length - 1 - i) hlt
   obtain ⟨j, hj⟩ : ∃ j, j = ar.length - 1 - i := ⟨_, rfl⟩
   have hji : (ar.length : Int) - 1 - (i : Int) = (j : Int) := by omega
   have HJ : Hid (ar.length - 1 - i = j) := hj.symm
   have hjl : (j : Int) < (ar.length : Int) := by omega
   have HM := S2.out.1
   obtain ⟨y, hy⟩ : ∃ y, y = ar[ar.length - 1 - i] := ⟨_, rfl⟩
   rw [← hy] at d0 d1 hx HG
   rw [← hj] at d0 d1
   clear hy hj hlt
   obtain ⟨a9, c9, e9, hy9⟩ := hx
   cases e9
   have Y9 := hide hy9
   clear hy9
   go_enter Tryz.func12, Tryz.ntmps12
   go_upto_region 1 with fail
   generalize ((w.alloc (.cells #[.int .i64 1, .int .i64 (i : Int), .slice a 0 c] 25)).alloc (.cells #[.string ⟨#[]⟩, .slice none 0 0] 48)) = w2 at *
   have x0 := A2.out.1.c0
   have x1 := A2.out.1.c1
   have x2 := A2.out.1.c2
   have r0 := R2.out.1.c0
   have r1 := R2.out.1.c1
   have f0 : w2.frozen? ⟨w.heap.size + 1, 0, none⟩ = false := R2.out.1.frozen 0
   have f1 : w2.frozen? ⟨w.heap.size + 1, 1, none⟩ = false := R2.out.1.frozen 1
   have hneg : ¬ ((ar.length : Int) - 1 - (i : Int) < 0) := by omega
   go_wp2_with fail
   obtain ⟨K3, F3, R3, S3⟩ := K2.out.store F2.out R2.out (by omega) (.string y.name) (.slice a' y.args.length c') Y9.out
   generalize ((w2.setCell ⟨w.heap.size + 1, 0, none⟩ (.string y.name)).setCell ⟨w.heap.size + 1, 1, none⟩ (.slice a' y.args.length c')) = w5 at *
   have c0 := R3.cell 0
   have c1 := R3.cell 1
   simp only [List.getElem?_toArray, List.getElem?_cons_zero, List.getElem?_cons_succ] at c0 c1
   refine bodyPost_ret (v := .agg #[.string y.name, .slice a' y.args.length c']) (by simp [results, Tryz.results12, go_sem, c0, c1]) rfl ?_
   refine ⟨a', c', q, cs, ?_, ?_, ?_, ?_, F3⟩
   ·rw [HG.out]
   ·rw [HG.out]; exact S3
   ·rw [HR2.out]; exact K3
   ·rw [HR2.out]; simp
  ·cases e
   obtain ⟨b', o', a1, c1, rfl, hKP⟩ := slM_one (B := B) hs hX
   have KP := hide hKP
   have hK0 := hK.le
   have hq0 : ∀ b, some b = q.ownBlock → N ≤ b ∧ b < w.heap.size := fun b hb => hK.own.lt b hb.symm
   have IHB := hide (IH.out b (by simp))
   clear hKP hs IH
   have e1 : ([b] : List Lm).length = 1 := rfl
   rw [e1]
   clear e1
   have K1 := hide (hK.later ((Below.refl _ _).alloc (Nat.le_refl _) (.cells #[.int .i64 2, .int .i64 0, .slice (some ⟨b', o', none⟩) 1 c] 25)))
   have K2 : Hid (AsK (fun b => E b ∨ b = w.heap.size + 1) ((w.alloc (.cells #[.int .i64 2, .int .i64 0, .slice (some ⟨b', o', none⟩) 1 c] 25)).alloc (.cells #[.string ⟨#[]⟩, .slice none 0 0] 48)) N P 45 n q cs) := (hK.excl (E' := fun b => E b ∨ b = w.heap.size + 1) fun b hb h => h.elim id (fun h => by omega)).later (((Below.refl _ _).alloc (Nat.le_refl _) _).alloc (by simp) _)
   have A2 : Hid (Bq ((w.alloc (.cells #[.int .i64 2, .int .i64 0, .slice (some ⟨b', o', none⟩) 1 c] 25)).alloc (.cells #[.string ⟨#[]⟩, .slice none 0 0] 48)) P q w.heap.size #[.int .i64 2, .int .i64 0, .slice (some ⟨b', o', none⟩) 1 c] 25) := (Bq.new hK _ _).later ((Below.refl _ _).alloc (Nat.le_refl _) _)
   have R2 : Hid (Bq ((w.alloc (.cells #[.int .i64 2, .int .i64 0, .slice (some ⟨b', o', none⟩) 1 c] 25)).alloc (.cells #[.string ⟨#[]⟩, .slice none 0 0] 48)) P q (w.heap.size + 1) #[.string ⟨#[]⟩, .slice none 0 0] 48) := by have h := Bq.new K1.out #[.string ⟨#[]⟩, .slice none 0 0] 48; rw [World.size_alloc] at h; exact h
   have B2 : Hid (Below w.heap.size w ((w.alloc (.cells #[.int .i64 2, .int .i64 0, .slice (some ⟨b', o', none⟩) 1 c] 25)).alloc (.cells #[.string ⟨#[]⟩, .slice none 0 0] 48))) := ((Below.refl _ _).alloc (Nat.le_refl _) _).alloc (by simp) _
   have S2 := hide ((sl_excl (E' := fun b => E b ∨ b = w.heap.size + 1) hS fun b hb h => h.elim id (fun h => by omega)).later B2.out)
   have F2 := hide (AsF.ofBelow B2.out P q)
   clear hK hS K1
   have HF := hide (tyT_fun 84 0 b ar n)
   have hzb : sizeM [(⟨2, 0, [b]⟩ : Lm)] = 1 + sizeM [b] := sizeM_oneI 2 0 [b]
   have HZB := hide hzb
   rw [hzb] at hn hcs har
   clear hzb HN HCS HAR
   have hcb : csL [b] = false := by rw [csL_one] at hc; simpa using hc
   have HCB := hide hcb
   clear hcb hc he
   have HEB : Hid (errM ((ar ++ [vrT 84 (n + 1)]).length) 0 [b] = 0) := by unfold Hid; rw [show ((ar ++ [vrT 84 (n + 1)]).length : Int) = (ar.length : Int) + 1 by simp]; exact hb
   clear hb hX
   have UP2 : Hid (Below B w _) := B2.out.mono (Nat.le_trans hBN hK0)
   go_enter Tryz.func12, Tryz.ntmps12
   go_upto_region 1 with fail
   generalize ((w.alloc (.cells #[.int .i64 2, .int .i64 0, .slice (some ⟨b', o', none⟩) 1 c] 25)).alloc (.cells #[.string ⟨#[]⟩, .slice none 0 0] 48)) = w2 at *
   have x0 := A2.out.1.c0
   have x1 := A2.out.1.c1
   have x2 := A2.out.1.c2
   go_wp2_with fail
   refine (freshR_any K2.out (by omega)).mono ?_
   rintro e w3 ⟨rfl, hk3, hf3⟩
   have K4 : Hid (AsK (fun b => E b ∨ b = w.heap.size + 1) (w3.alloc (.cells #[.string (vrN 84 (n + 1)), .slice none 0 0] 48)) N P 45 (n + 1) q cs) := hk3.later ((Below.refl _ _).alloc (Nat.le_refl _) _)
   have F4 : Hid (AsF w (w3.alloc (.cells #[.string (vrN 84 (n + 1)), .slice none 0 0] 48)) P q q) := (F2.out.trans hf3).then ((Below.refl _ _).alloc (Nat.le_refl _) _)
   have V4 : Hid (Bq (w3.alloc (.cells #[.string (vrN 84 (n + 1)), .slice none 0 0] 48)) P q w3.heap.size #[.string (vrN 84 (n + 1)), .slice none 0 0] 48) := Bq.new hk3 _ _
   have A4 := hide ((hf3.bq A2.out).later ((Below.refl _ _).alloc (Nat.le_refl _) (.cells #[.string (vrN 84 (n + 1)), .slice none 0 0] 48)))
   have R4 := hide ((hf3.bq R2.out).later ((Below.refl _ _).alloc (Nat.le_refl _) (.cells #[.string (vrN 84 (n + 1)), .slice none 0 0] 48)))
   have S4 := hide ((hf3.sl S2.out).later ((Below.refl _ _).alloc (Nat.le_refl _) (.cells #[.string (vrN 84 (n + 1)), .slice none 0 0] 48)))
   clear hk3 hf3 K2 F2 A2 R2 S2 x0 x1 x2
   go_upto_region 6 with fail
   generalize w3.heap.size = V at *
   generalize w3.alloc (.cells #[.string (vrN 84 (n + 1)), .slice none 0 0] 48) = w4 at *
   have hE4 : Hid (∀ b, (E b ∨ b = w.heap.size + 1) → b < w4.heap.size) := fun b hb => by have h1 := R4.out.1.lt; rcases hb with hb | hb; exact Nat.lt_trans (hEw b hb) (by omega); omega
   have UP4 : Hid (Below B w w4) := (F4.out.1.below hK0 (fun b hb => by rcases hb with rfl | hb; exact K4.out.ge; exact (hq0 b hb).1)).mono hBN
   have hBw : Hid (B ≤ w4.heap.size) := Nat.le_trans (Nat.le_trans hBN hK0) F4.out.1.size
   have KB : Hid (∀ w', Below w4.heap.size w4 w' → (S8 B n V w b' o' c w')) := fun w' hb => ⟨V4.out.1.below hb V4.out.1.lt, A4.out.1.below hb A4.out.1.lt, UP4.out.trans (hb.mono hBw.out)⟩
   have KS : Hid (∀ w', (S8 B n V w b' o' c w') → (w'.cell? ⟨V, 0, none⟩ = some (.string (vrN 84 (n + 1))) ∧ w'.cell? ⟨V, 1, none⟩ = some (.slice none 0 0)) ∧ w'.cell? ⟨w.heap.size, 2, none⟩ = some (.slice (some ⟨b', o', none⟩) 1 c) ∧ (w'.cell? ⟨b', o', none⟩ = some (.int .i64 b.kind) ∧ w'.cell? ⟨b', o' + 1, none⟩ = some (.int .i64 b.idx) ∧ w'.cell? ⟨b', o' + 2, none⟩ = some (.slice a1 b.subs.length c1))) := fun w' h => ⟨⟨h.1.cell 0, h.1.cell 1⟩, h.2.1.cell 2, (KP.out w' h.2.2).1⟩
   have S4B : Hid (Sl w4 (fun d => Zq (fun b => E b ∨ b = w.heap.size + 1) N P q d ∧ d < w4.heap.size) au ar) := S4.out.mono fun d h1 h2 => ⟨h1, h2⟩
   have QN : Hid (∀ g, w4.heap.size ≤ g → g ≠ P ∧ some g ≠ q.ownBlock) := fun g hg => ⟨by have := K4.out.box.lt; omega, fun e => by have := (K4.out.own.lt g e.symm).2; omega⟩
   have HAL : Hid (ar.length ≤ 100000) := by unfold Hid; omega
   have CALL : Hid (∀ (E2 : Nat → Prop) (g cap : Nat) (wC : World), Below w4.heap.size w4 wC → Sl wC (Zq E2 N P q) (some ⟨g, 0, none⟩) (ar ++ [vrT 84 (n + 1)]) → ar.length + 1 ≤ cap → (∀ d, E2 d → d < wC.heap.size) → (∀ d, d < w4.heap.size → E2 d → E d ∨ d = w.heap.size + 1) → Calls Tryz.prog 12 #[.pointer (some ⟨P, 0, none⟩), .agg #[.int .i64 b.kind, .int .i64 b.idx, .slice a1 b.subs.length c1], .slice (some ⟨g, 0, none⟩) (ar.length + 1) cap] wC fun e w' => TyP 84 E2 N P 45 (n + 1) q cs b (ar ++ [vrT 84 (n + 1)]) wC e w') := by
    intro E2 g cap wC hb hs hc hE2 hEE
    have h := IHB.out E2 N P (n + 1) q (.agg #[.int .i64 b.kind, .int .i64 b.idx, .slice a1 b.subs.length c1]) cs (ar ++ [vrT 84 (n + 1)]) (some ⟨g, 0, none⟩) cap wC X HEB.out HCB.out (by omega) (by omega) (by simp; omega) (by simp; exact hc) (KP.out wC (KB.out wC hb).2.2).2 HX.out hBN ((K4.out.excl hEE).later hb) hs hE2
    rw [show (ar ++ [vrT 84 (n + 1)]).length = ar.length + 1 by simp] at h
    exact h
   go_cut [8] (fun V8 w9 => RgO (fun b => E b ∨ b = w.heap.size + 1) N P 45 n q cs b ar w4 V8 w9)
   case first =>
    have kd : (S8 B n V w b' o' c w4.drew) := KB.out _ (Below.refl _ _).drew
    have k0 : Below w4.heap.size w4 w4.drew := (Below.refl _ _).drew
    refine wp_region_held_drew (S := fun w' => (S8 B n V w b' o' c w')) (by kernel_rfl) kd (fun hHeld => ?_)
    refine tkq (v := ?_) 0 rfl ?_ ?_
    rotate_left
    ·intro w' hSw
     go_simp <;> with_reducible rfl
    try simp only [Act.put, sq]
    refine tkq (v := ?_) 1 rfl ?_ ?_
    rotate_left
    ·intro w' hSw
     go_simp <;> with_reducible rfl
    try simp only [Act.put, sq]
    refine tkq (v := ?_) 2 rfl ?_ ?_
    rotate_left
    ·intro w' hSw
     obtain ⟨⟨y0, y1⟩, y2, y3, y4, y5⟩ := KS.out w' hSw
     go_simp <;> with_reducible rfl
    try simp only [Act.put, sq]
    refine tkq (v := ?_) 3 rfl ?_ ?_
    rotate_left
    ·intro w' hSw
     go_simp <;> with_reducible rfl
    try simp only [Act.put, sq]
    refine tkq (v := ?_) 4 rfl ?_ ?_
    rotate_left
    ·intro w' hSw
     obtain ⟨⟨y0, y1⟩, y2, y3, y4, y5⟩ := KS.out w' hSw
     go_simp <;> with_reducible rfl
    try simp only [Act.put, sq]
    refine tkq (v := ?_) 6 rfl ?_ ?_
    rotate_left
    ·intro w' hSw
     go_simp <;> with_reducible rfl
    try simp only [Act.put, sq]
    refine tkq (v := ?_) 8 rfl ?_ ?_
    rotate_left
    ·intro w' hSw
     obtain ⟨⟨y0, y1⟩, y2, y3, y4, y5⟩ := KS.out w' hSw
     go_simp <;> with_reducible rfl
    try simp only [Act.put, sq]
    refine wpAnyH_name fun XX li ac hX hli hac => ?_
    have H_A : ∀ (wr : World) (v5 v1 : Value) (xs : List Value) (QA AA : Nat), Below w4.heap.size w4 wr → wr.ownsRow w4.heap.size 48 2 v1 ar.length xs → RowT w4 (fun d => Zq (fun b => E b ∨ b = w.heap.size + 1) N P q d ∧ d < w4.heap.size) ar xs → Blk wr QA #[.string (vrN 84 (n + 1)), .slice none 0 0] 48 → Blk wr AA #[.string ⟨#[]⟩, .slice none 0 0] 48 → some AA ≠ v1.ownBlock → w4.heap.size ≤ AA → XX 3 ((((li.setIfInBounds 5 true).setIfInBounds 7 true).setIfInBounds 9 true).setIfInBounds 12 true) ((((ac.put (some 34) v5).put (some 36) v1).put (some 38) (.slice (some ⟨QA, 0, none⟩) 1 1)).put (some 8) (.pointer (some ⟨AA, 0, none⟩))) wr := by
     intro wr v5 v1 xs QA AA kwr h1 h2 h3 h4 h5 h6
     have ROa := hide h1
     have RRa := hide h2
     have QQa := hide h3
     have AAa := hide h4
     have NRa := hide h5
     have geAa := hide h6
     clear h1 h2 h3 h4 h5 h6
     subst hX hli hac
     try simp only [Act.put, sq]
     refine rdq 10 rfl fun K hK => ?_
     obtain ⟨gwr1, capwr1, wr1, hrun, hsl, hbel, hgg, hcap, hfr, hsz, hat⟩ := oneTI kwr ROa.out RRa.out QQa.out HAL.out
     have HRwr1 := hide hrun
     have Swr1 := hide hsl
     have Cwr1 := hide hcap
     have glwr1 := hide hgg.2
     have ggwr1 := hide hgg.1
     have kr1 := hbel
     have Awr1 : Hid (Blk wr1 AA #[.string ⟨#[]⟩, .slice none 0 0] 48) := (hfr _ AAa.out.lt NRa.out).trans AAa.out
     have ngwr1 : Hid (gwr1 ≠ AA) := fun e => by have h1 := AAa.out.lt; rcases hat with h2 | h2; exact NRa.out (by rw [h2, e]); omega
     clear hrun hsl hbel hgg hcap hfr hsz hat
     refine step_append_eqM rfl _ _ _ _ rfl rfl rfl HRwr1.out ?_
     refine hK.out _ _ (by exact KB.out _ kr1) (fun hHeld => ?_)
     clear hK K
     try simp only [Act.put, sq]
     refine rdq 11 rfl fun K hK => ?_
     have SE : Hid (Sl wr1 (Zq (fun d => (E d ∨ d = w.heap.size + 1) ∨ d = AA) N P q) (some ⟨gwr1, 0, none⟩) (ar ++ [vrT 84 (n + 1)])) := seI Swr1.out (fun d hd h => h.elim id (fun h => by have h1 := geAa.out; omega)) ⟨Nat.le_trans K4.out.le ggwr1.out, (QN.out _ ggwr1.out).1, (QN.out _ ggwr1.out).2, fun h => h.elim (fun h => by have h1 := hE4.out _ h; have h2 := ggwr1.out; omega) ngwr1.out⟩
     have AQ : Hid (Bq wr1 P q AA #[.string ⟨#[]⟩, .slice none 0 0] 48) := ⟨Awr1.out, QN.out _ geAa.out⟩
     have CL := CALL.out (fun d => (E d ∨ d = w.heap.size + 1) ∨ d = AA) gwr1 capwr1 wr1 kr1 SE.out Cwr1.out (fun d hd => hd.elim (fun h => Nat.lt_of_lt_of_le (hE4.out d h) kr1.size) (fun h => by rw [h]; exact Awr1.out.lt)) (fun d hd h => h.elim id (fun h => by have h1 := geAa.out; omega))
     have HCL := hide CL
     clear CL
     go_simp
     go_at_call 12
     refine HCL.out.mono ?_
     rintro e w9 ⟨a9, c9, q9, cs9, rfl, hs9, hk9, hm9, hf9⟩
     have F9 : Hid (AsF w4 w9 P q q9) := (AsF.ofBelow kr1 P q).trans hf9
     have K9 := hide hk9
     have S9 := hide hs9
     have M9 := hide hm9
     have hS9 : (S8 B n V w b' o' c w9) := ⟨(F9.out.bq V4.out).1, (F9.out.bq A4.out).1, UP4.out.trans ((K4.out.below F9.out).mono hBN)⟩
     have A9 := hide (hf9.bq AQ.out)
     clear hs9 hk9 hm9 hf9 HCL SE
     generalize hty : tyT 84 b (ar ++ [vrT 84 (n + 1)]) (n + 1) = r at *
     have HTY := hide hty
     clear hty
     go_simp
     refine hK.out _ _ (by exact hS9) (fun hHeld => ?_)
     clear hK K
     try simp only [Act.put, sq]
     have hS10 := hS9
     obtain ⟨KX, FX, BX, SX⟩ := AsK.store (E := (fun b => E b ∨ b = w.heap.size + 1)) K9.out F9.out A9.out geAa.out (.string r.1.name) (.slice a9 r.1.args.length c9) S9.out
     have b0 := A9.out.1.cell 0
     have b1 := A9.out.1.cell 1
     have z0 := A9.out.1.frozen 0
     have z1 := A9.out.1.frozen 1
     simp only [List.getElem?_toArray, List.getElem?_cons_zero, List.getElem?_cons_succ] at b0 b1
     have neV : V ≠ AA := fun e => by have h1 := V4.out.1.lt; have h2 := geAa.out; omega
     have neA : w.heap.size ≠ AA := fun e => by have h1 := A4.out.1.lt; have h2 := geAa.out; omega
     have HX : (S8 B n V w b' o' c ((w9.setCell ⟨AA, 0, none⟩ (.string r.1.name)).setCell ⟨AA, 1, none⟩ (.slice a9 r.1.args.length c9))) := ⟨(hS10.1.setOther 0 _ neV).setOther 1 _ neV, (hS10.2.1.setOther 0 _ neA).setOther 1 _ neA, belSetI (belSetI hS10.2.2 (Nat.le_trans hBw.out geAa.out) 0 _) (Nat.le_trans hBw.out geAa.out) 1 _⟩
     refine rdq 13 rfl fun K hK => ?_
     go_simp
     refine hK.out _ _ (by exact HX) (fun hHeld => ?_)
     clear hK K
     try simp only [Act.put, sq]
     refine wpAnyH_done (by kernel_rfl) ?_ _
     have FIN := hide (rgO_mk HTY.out ⟨BX, (FX.bq0 A9.out)⟩ SX KX M9.out FX)
     clear b0 b1 z0 z1
     go_wp2_with fail
     go_meet
     exact FIN.out
    have H_0 : ∀ (wr : World) (v5 v1 : Value) (xs : List Value) (QA : Nat), Below w4.heap.size w4 wr → wr.ownsRow w4.heap.size 48 2 v1 ar.length xs → RowT w4 (fun d => Zq (fun b => E b ∨ b = w.heap.size + 1) N P q d ∧ d < w4.heap.size) ar xs → Blk wr QA #[.string (vrN 84 (n + 1)), .slice none 0 0] 48 → XX 4 (((li.setIfInBounds 5 true).setIfInBounds 7 true).setIfInBounds 9 true) (((ac.put (some 34) v5).put (some 36) v1).put (some 38) (.slice (some ⟨QA, 0, none⟩) 1 1)) wr := by
     intro wr v5 v1 xs QA kwr h1 h2 h3
     have ROa := hide h1
     have RRa := hide h2
     have QQa := hide h3
     clear h1 h2 h3
     subst hX hli hac
     simp only [Act.put, List.setIfInBounds_toArray, List.set_cons_zero, List.set_cons_succ, List.getElem_toArray, List.getElem_cons_succ, List.getElem_cons_zero] at H_A
     try simp only [Act.put, sq]
     refine wpAnyH_ready (rs := [10, 12]) (by kernel_rfl) (by simp) ?_
     refine AllReadyH.cons rfl (fun K hK => ?_) (AllReadyH.cons rfl (fun K hK => ?_) AllReadyH.nil)
     ·obtain ⟨gwr3, capwr3, wr3, hrun, hsl, hbel, hgg, hcap, hfr, hsz, hat⟩ := oneTI kwr ROa.out RRa.out QQa.out HAL.out
      have HRwr3 := hide hrun
      have Swr3 := hide hsl
      have Cwr3 := hide hcap
      have glwr3 := hide hgg.2
      have ggwr3 := hide hgg.1
      have kr3 := hbel
      clear hrun hsl hbel hgg hcap hfr hsz hat
      refine step_append_eqM rfl _ _ _ _ rfl rfl rfl HRwr3.out ?_
      refine hK.out _ _ (by exact KB.out _ kr3) (fun hHeld => ?_)
      clear hK K
      try simp only [Act.put, sq]
      refine wpAnyH_ready (rs := [11, 12]) (by kernel_rfl) (by simp) ?_
      refine AllReadyH.cons rfl (fun K hK => ?_) (AllReadyH.cons rfl (fun K hK => ?_) AllReadyH.nil)
      ·have SE : Hid (Sl wr3 (Zq (fun b => E b ∨ b = w.heap.size + 1) N P q) (some ⟨gwr3, 0, none⟩) (ar ++ [vrT 84 (n + 1)])) := seI Swr3.out (fun d hd h => h) ⟨Nat.le_trans K4.out.le ggwr3.out, (QN.out _ ggwr3.out).1, (QN.out _ ggwr3.out).2, fun h => by have h1 := hE4.out _ h; have h2 := ggwr3.out; omega⟩
       have CL := CALL.out (fun b => E b ∨ b = w.heap.size + 1) gwr3 capwr3 wr3 kr3 SE.out Cwr3.out (fun d h => Nat.lt_of_lt_of_le (hE4.out d h) kr3.size) (fun d hd h => h)
       have HCL := hide CL
       clear CL
       go_simp
       go_at_call 12
       refine HCL.out.mono ?_
       rintro e w9 ⟨a9, c9, q9, cs9, rfl, hs9, hk9, hm9, hf9⟩
       have F9 : Hid (AsF w4 w9 P q q9) := (AsF.ofBelow kr3 P q).trans hf9
       have K9 := hide hk9
       have S9 := hide hs9
       have M9 := hide hm9
       have hS9 : (S8 B n V w b' o' c w9) := ⟨(F9.out.bq V4.out).1, (F9.out.bq A4.out).1, UP4.out.trans ((K4.out.below F9.out).mono hBN)⟩
       clear hs9 hk9 hm9 hf9 HCL SE
       generalize hty : tyT 84 b (ar ++ [vrT 84 (n + 1)]) (n + 1) = r at *
       have HTY := hide hty
       clear hty
       go_simp
       refine hK.out _ _ (by exact hS9) (fun hHeld => ?_)
       clear hK K
       try simp only [Act.put, sq]
       have hS10 := hS9
       refine rdq 12 rfl fun K hK => ?_
       go_simp
       have owr5 : Hid (Below w9.heap.size w9 (w9.alloc (.cells #[.string ⟨#[]⟩, .slice none 0 0] 48))) := (Below.refl _ _).alloc (Nat.le_refl _) _
       have Awr5 : Hid (Bq (w9.alloc (.cells #[.string ⟨#[]⟩, .slice none 0 0] 48)) P q9 w9.heap.size #[.string ⟨#[]⟩, .slice none 0 0] 48) := Bq.new K9.out _ _
       have Kwr5 : Hid (AsK (fun d => (E d ∨ d = w.heap.size + 1) ∨ d = w9.heap.size) (w9.alloc (.cells #[.string ⟨#[]⟩, .slice none 0 0] 48)) N P 45 r.2.2 q9 cs9) := (K9.out.excl (E' := fun d => (E d ∨ d = w.heap.size + 1) ∨ d = w9.heap.size) fun d hd h => h.elim id (fun h => by omega)).later owr5.out
       have Swr5 : Hid (Sl (w9.alloc (.cells #[.string ⟨#[]⟩, .slice none 0 0] 48)) (Zq (fun d => (E d ∨ d = w.heap.size + 1) ∨ d = w9.heap.size) N P q9) a9 r.1.args) := (sl_excl (E' := fun d => (E d ∨ d = w.heap.size + 1) ∨ d = w9.heap.size) S9.out fun d hd h => h.elim id (fun h => by omega)).later owr5.out
       have Fwr5 := hide (F9.out.then owr5.out)
       have gewr5 : Hid (w4.heap.size ≤ w9.heap.size) := F9.out.1.size
       have Hwr5 : (S8 B n V w b' o' c (w9.alloc (.cells #[.string ⟨#[]⟩, .slice none 0 0] 48))) := ⟨hS9.1.alloc _, hS9.2.1.alloc _, hS9.2.2.alloc (belSizeI hS9.2.2 (Nat.le_trans hBN hK0)) _⟩
       refine hK.out _ _ (by exact Hwr5) (fun hHeld => ?_)
       clear hK K
       try simp only [Act.put, sq]
       have hS10 := Hwr5
       generalize (w9.alloc (.cells #[.string ⟨#[]⟩, .slice none 0 0] 48)) = wz at *
       obtain ⟨KX, FX, BX, SX⟩ := AsK.store (E := (fun b => E b ∨ b = w.heap.size + 1)) Kwr5.out Fwr5.out Awr5.out gewr5.out (.string r.1.name) (.slice a9 r.1.args.length c9) Swr5.out
       have b0 := Awr5.out.1.cell 0
       have b1 := Awr5.out.1.cell 1
       have z0 := Awr5.out.1.frozen 0
       have z1 := Awr5.out.1.frozen 1
       simp only [List.getElem?_toArray, List.getElem?_cons_zero, List.getElem?_cons_succ] at b0 b1
       have neV : V ≠ w9.heap.size := fun e => by have h1 := V4.out.1.lt; have h2 := gewr5.out; omega
       have neA : w.heap.size ≠ w9.heap.size := fun e => by have h1 := A4.out.1.lt; have h2 := gewr5.out; omega
       have HX : (S8 B n V w b' o' c ((wz.setCell ⟨w9.heap.size, 0, none⟩ (.string r.1.name)).setCell ⟨w9.heap.size, 1, none⟩ (.slice a9 r.1.args.length c9))) := ⟨(hS10.1.setOther 0 _ neV).setOther 1 _ neV, (hS10.2.1.setOther 0 _ neA).setOther 1 _ neA, belSetI (belSetI hS10.2.2 (Nat.le_trans hBw.out gewr5.out) 0 _) (Nat.le_trans hBw.out gewr5.out) 1 _⟩
       refine rdq 13 rfl fun K hK => ?_
       go_simp
       refine hK.out _ _ (by exact HX) (fun hHeld => ?_)
       clear hK K
       try simp only [Act.put, sq]
       refine wpAnyH_done (by kernel_rfl) ?_ _
       have FIN := hide (rgO_mk HTY.out ⟨BX, (FX.bq0 Awr5.out)⟩ SX KX M9.out FX)
       clear b0 b1 z0 z1
       go_wp2_with fail
       go_meet
       exact FIN.out
      ·go_simp
       have kr6 : Below w4.heap.size w4 (wr3.alloc (.cells #[.string ⟨#[]⟩, .slice none 0 0] 48)) := kr3.alloc kr3.size _
       have owr6 : Hid (Below wr3.heap.size wr3 (wr3.alloc (.cells #[.string ⟨#[]⟩, .slice none 0 0] 48))) := ((Below.refl _ _).alloc (Nat.le_refl _) _)
       have Awr6 : Hid (Blk (wr3.alloc (.cells #[.string ⟨#[]⟩, .slice none 0 0] 48)) wr3.heap.size #[.string ⟨#[]⟩, .slice none 0 0] 48) := Blk.new wr3 _ _
       have geAwr6 : Hid (w4.heap.size ≤ wr3.heap.size) := kr3.size
       have Swr6 := hide (Swr3.out.later owr6.out)
       have glwr6 : Hid (gwr3 < (wr3.alloc (.cells #[.string ⟨#[]⟩, .slice none 0 0] 48)).heap.size) := Nat.lt_of_lt_of_le glwr3.out owr6.out.size
       have ngwr6 : Hid (gwr3 ≠ wr3.heap.size) := by have h1 := glwr3.out; unfold Hid; omega
       refine hK.out _ _ (by exact KB.out _ kr6) (fun hHeld => ?_)
       clear hK K
       try simp only [Act.put, sq]
       generalize (wr3.alloc (.cells #[.string ⟨#[]⟩, .slice none 0 0] 48)) = wr6 at *
       refine rdq 11 rfl fun K hK => ?_
       have SE : Hid (Sl wr6 (Zq (fun d => (E d ∨ d = w.heap.size + 1) ∨ d = wr3.heap.size) N P q) (some ⟨gwr3, 0, none⟩) (ar ++ [vrT 84 (n + 1)])) := seI Swr6.out (fun d hd h => h.elim id (fun h => by have h1 := geAwr6.out; omega)) ⟨Nat.le_trans K4.out.le ggwr3.out, (QN.out _ ggwr3.out).1, (QN.out _ ggwr3.out).2, fun h => h.elim (fun h => by have h1 := hE4.out _ h; have h2 := ggwr3.out; omega) ngwr6.out⟩
       have AQ : Hid (Bq wr6 P q wr3.heap.size #[.string ⟨#[]⟩, .slice none 0 0] 48) := ⟨Awr6.out, QN.out _ geAwr6.out⟩
       have CL := CALL.out (fun d => (E d ∨ d = w.heap.size + 1) ∨ d = wr3.heap.size) gwr3 capwr3 wr6 kr6 SE.out Cwr3.out (fun d hd => hd.elim (fun h => Nat.lt_of_lt_of_le (hE4.out d h) kr6.size) (fun h => by rw [h]; exact Awr6.out.lt)) (fun d hd h => h.elim id (fun h => by have h1 := geAwr6.out; omega))
       have HCL := hide CL
       clear CL
       go_simp
       go_at_call 12
       refine HCL.out.mono ?_
       rintro e w9 ⟨a9, c9, q9, cs9, rfl, hs9, hk9, hm9, hf9⟩
       have F9 : Hid (AsF w4 w9 P q q9) := (AsF.ofBelow kr6 P q).trans hf9
       have K9 := hide hk9
       have S9 := hide hs9
       have M9 := hide hm9
       have hS9 : (S8 B n V w b' o' c w9) := ⟨(F9.out.bq V4.out).1, (F9.out.bq A4.out).1, UP4.out.trans ((K4.out.below F9.out).mono hBN)⟩
       have A9 := hide (hf9.bq AQ.out)
       clear hs9 hk9 hm9 hf9 HCL SE
       generalize hty : tyT 84 b (ar ++ [vrT 84 (n + 1)]) (n + 1) = r at *
       have HTY := hide hty
       clear hty
       go_simp
       refine hK.out _ _ (by exact hS9) (fun hHeld => ?_)
       clear hK K
       try simp only [Act.put, sq]
       have hS10 := hS9
       obtain ⟨KX, FX, BX, SX⟩ := AsK.store (E := (fun b => E b ∨ b = w.heap.size + 1)) K9.out F9.out A9.out geAwr6.out (.string r.1.name) (.slice a9 r.1.args.length c9) S9.out
       have b0 := A9.out.1.cell 0
       have b1 := A9.out.1.cell 1
       have z0 := A9.out.1.frozen 0
       have z1 := A9.out.1.frozen 1
       simp only [List.getElem?_toArray, List.getElem?_cons_zero, List.getElem?_cons_succ] at b0 b1
       have neV : V ≠ wr3.heap.size := fun e => by have h1 := V4.out.1.lt; have h2 := geAwr6.out; omega
       have neA : w.heap.size ≠ wr3.heap.size := fun e => by have h1 := A4.out.1.lt; have h2 := geAwr6.out; omega
       have HX : (S8 B n V w b' o' c ((w9.setCell ⟨wr3.heap.size, 0, none⟩ (.string r.1.name)).setCell ⟨wr3.heap.size, 1, none⟩ (.slice a9 r.1.args.length c9))) := ⟨(hS10.1.setOther 0 _ neV).setOther 1 _ neV, (hS10.2.1.setOther 0 _ neA).setOther 1 _ neA, belSetI (belSetI hS10.2.2 (Nat.le_trans hBw.out geAwr6.out) 0 _) (Nat.le_trans hBw.out geAwr6.out) 1 _⟩
       refine rdq 13 rfl fun K hK => ?_
       go_simp
       refine hK.out _ _ (by exact HX) (fun hHeld => ?_)
       clear hK K
       try simp only [Act.put, sq]
       refine wpAnyH_done (by kernel_rfl) ?_ _
       have FIN := hide (rgO_mk HTY.out ⟨BX, (FX.bq0 A9.out)⟩ SX KX M9.out FX)
       clear b0 b1 z0 z1
       go_wp2_with fail
       go_meet
       exact FIN.out
     ·go_simp
      have kr8 : Below w4.heap.size w4 (wr.alloc (.cells #[.string ⟨#[]⟩, .slice none 0 0] 48)) := kwr.alloc kwr.size _
      have owr8 : Hid (Below wr.heap.size wr (wr.alloc (.cells #[.string ⟨#[]⟩, .slice none 0 0] 48))) := ((Below.refl _ _).alloc (Nat.le_refl _) _)
      have Awr8 : Hid (Blk (wr.alloc (.cells #[.string ⟨#[]⟩, .slice none 0 0] 48)) wr.heap.size #[.string ⟨#[]⟩, .slice none 0 0] 48) := Blk.new wr _ _
      have Qwr8 := hide (QQa.out.below owr8.out QQa.out.lt)
      have neQAwr8 : Hid (QA ≠ wr.heap.size) := by have h1 := QQa.out.lt; unfold Hid; omega
      have geAwr8 : Hid (w4.heap.size ≤ wr.heap.size) := kwr.size
      have Rwr8 := hide (ownsRow_at ROa.out fun g hg => owr8.out.block g (ROa.out.lt g hg).2)
      have nrwr8 : Hid (some wr.heap.size ≠ (v1 : Value).ownBlock) := fun e => by have h1 := (ROa.out.lt _ e.symm).2; omega
      refine hK.out _ _ (by exact KB.out _ kr8) (fun hHeld => ?_)
      clear hK K
      try simp only [Act.put, sq]
      generalize (wr.alloc (.cells #[.string ⟨#[]⟩, .slice none 0 0] 48)) = wr8 at *
      exact H_A wr8 _ _ _ _ _ kr8 Rwr8.out RRa.out Qwr8.out Awr8.out nrwr8.out geAwr8.out
    subst hX hli hac
    simp only [Act.put, List.setIfInBounds_toArray, List.set_cons_zero, List.set_cons_succ, List.getElem_toArray, List.getElem_cons_succ, List.getElem_cons_zero] at H_A H_0
    refine wpAnyH_ready (rs := [5, 9, 12]) (by kernel_rfl) (by simp) ?_
    refine AllReadyH.cons rfl (fun K hK => ?_) (AllReadyH.cons rfl (fun K hK => ?_) (AllReadyH.cons rfl (fun K hK => ?_) AllReadyH.nil))
    ·go_simp
     have kr9 : Below w4.heap.size w4 ((w4.alloc (.cells #[] 48)).drew) := ((Below.refl w4.heap.size w4).alloc (Nat.le_refl _) _).drew
     have owr9 : Hid (Below w4.heap.size w4 ((w4.alloc (.cells #[] 48)).drew)) := ((Below.refl _ _).alloc (Nat.le_refl _) _).drew
     have Gwr9 : Hid (Blk ((w4.alloc (.cells #[] 48)).drew) w4.heap.size #[] 48) := Blk.new w4 _ _
     have geGwr9 : Hid (w4.heap.size ≤ w4.heap.size) := Nat.le_refl _
     refine hK.out _ _ (by exact KB.out _ kr9) (fun hHeld => ?_)
     clear hK K
     try simp only [Act.put, sq]
     generalize ((w4.alloc (.cells #[] 48)).drew) = wr9 at *
     refine wpAnyH_ready (rs := [7, 9, 12]) (by kernel_rfl) (by simp) ?_
     refine AllReadyH.cons rfl (fun K hK => ?_) (AllReadyH.cons rfl (fun K hK => ?_) (AllReadyH.cons rfl (fun K hK => ?_) AllReadyH.nil))
     ·obtain ⟨vwr10, wr10, xswr10, hrun, hown, hrow, hbel, hfr, hsz, hat⟩ := spreadTI (c := ac) kr9 geGwr9.out Gwr9.out S4B.out HAL.out
      have HRwr10 := hide hrun
      have Rwr10 := hide hown
      have RRwr10 := hide hrow
      have kr10 := hbel
      clear hrun hown hrow hbel hfr hsz hat
      refine step_append_eqM rfl _ _ _ _ rfl rfl rfl HRwr10.out ?_
      refine hK.out _ _ (by exact KB.out _ kr10) (fun hHeld => ?_)
      clear hK K
      try simp only [Act.put, sq]
      refine wpAnyH_ready (rs := [9, 12]) (by kernel_rfl) (by simp) ?_
      refine AllReadyH.cons rfl (fun K hK => ?_) (AllReadyH.cons rfl (fun K hK => ?_) AllReadyH.nil)
      ·go_simp
       have kr11 : Below w4.heap.size w4 (wr10.alloc (.cells #[.string (vrN 84 (n + 1)), .slice none 0 0] 48)) := kr10.alloc kr10.size _
       have owr11 : Hid (Below wr10.heap.size wr10 (wr10.alloc (.cells #[.string (vrN 84 (n + 1)), .slice none 0 0] 48))) := ((Below.refl _ _).alloc (Nat.le_refl _) _)
       have Qwr11 : Hid (Blk (wr10.alloc (.cells #[.string (vrN 84 (n + 1)), .slice none 0 0] 48)) wr10.heap.size #[.string (vrN 84 (n + 1)), .slice none 0 0] 48) := Blk.new wr10 _ _
       have geQwr11 : Hid (w4.heap.size ≤ wr10.heap.size) := kr10.size
       have Rwr11 := hide (ownsRow_at Rwr10.out fun g hg => owr11.out.block g (Rwr10.out.lt g hg).2)
       refine hK.out _ _ (by exact KB.out _ kr11) (fun hHeld => ?_)
       clear hK K
       try simp only [Act.put, sq]
       generalize (wr10.alloc (.cells #[.string (vrN 84 (n + 1)), .slice none 0 0] 48)) = wr11 at *
       exact H_0 wr11 _ _ _ _ kr11 Rwr11.out RRwr10.out Qwr11.out
      ·go_simp
       have kr12 : Below w4.heap.size w4 (wr10.alloc (.cells #[.string ⟨#[]⟩, .slice none 0 0] 48)) := kr10.alloc kr10.size _
       have owr12 : Hid (Below wr10.heap.size wr10 (wr10.alloc (.cells #[.string ⟨#[]⟩, .slice none 0 0] 48))) := ((Below.refl _ _).alloc (Nat.le_refl _) _)
       have Awr12 : Hid (Blk (wr10.alloc (.cells #[.string ⟨#[]⟩, .slice none 0 0] 48)) wr10.heap.size #[.string ⟨#[]⟩, .slice none 0 0] 48) := Blk.new wr10 _ _
       have geAwr12 : Hid (w4.heap.size ≤ wr10.heap.size) := kr10.size
       have Rwr12 := hide (ownsRow_at Rwr10.out fun g hg => owr12.out.block g (Rwr10.out.lt g hg).2)
       have nrwr12 : Hid (some wr10.heap.size ≠ (vwr10 : Value).ownBlock) := fun e => by have h1 := (Rwr10.out.lt _ e.symm).2; omega
       refine hK.out _ _ (by exact KB.out _ kr12) (fun hHeld => ?_)
       clear hK K
       try simp only [Act.put, sq]
       generalize (wr10.alloc (.cells #[.string ⟨#[]⟩, .slice none 0 0] 48)) = wr12 at *
       refine rdq 9 rfl fun K hK => ?_
       go_simp
       have kr13 : Below w4.heap.size w4 (wr12.alloc (.cells #[.string (vrN 84 (n + 1)), .slice none 0 0] 48)) := kr12.alloc kr12.size _
       have owr13 : Hid (Below wr12.heap.size wr12 (wr12.alloc (.cells #[.string (vrN 84 (n + 1)), .slice none 0 0] 48))) := ((Below.refl _ _).alloc (Nat.le_refl _) _)
       have Qwr13 : Hid (Blk (wr12.alloc (.cells #[.string (vrN 84 (n + 1)), .slice none 0 0] 48)) wr12.heap.size #[.string (vrN 84 (n + 1)), .slice none 0 0] 48) := Blk.new wr12 _ _
       have Awr13 := hide (Awr12.out.below owr13.out Awr12.out.lt)
       have neAQwr13 : Hid (wr10.heap.size ≠ wr12.heap.size) := by have h1 := Awr12.out.lt; unfold Hid; omega
       have geQwr13 : Hid (w4.heap.size ≤ wr12.heap.size) := kr12.size
       have Rwr13 := hide (ownsRow_at Rwr12.out fun g hg => owr13.out.block g (Rwr12.out.lt g hg).2)
       refine hK.out _ _ (by exact KB.out _ kr13) (fun hHeld => ?_)
       clear hK K
       try simp only [Act.put, sq]
       generalize (wr12.alloc (.cells #[.string (vrN 84 (n + 1)), .slice none 0 0] 48)) = wr13 at *
       exact H_A wr13 _ _ _ _ _ kr13 Rwr13.out RRwr10.out Qwr13.out Awr13.out nrwr12.out geAwr12.out
     ·go_simp
      have kr14 : Below w4.heap.size w4 (wr9.alloc (.cells #[.string (vrN 84 (n + 1)), .slice none 0 0] 48)) := kr9.alloc kr9.size _
      have owr14 : Hid (Below wr9.heap.size wr9 (wr9.alloc (.cells #[.string (vrN 84 (n + 1)), .slice none 0 0] 48))) := ((Below.refl _ _).alloc (Nat.le_refl _) _)
      have Qwr14 : Hid (Blk (wr9.alloc (.cells #[.string (vrN 84 (n + 1)), .slice none 0 0] 48)) wr9.heap.size #[.string (vrN 84 (n + 1)), .slice none 0 0] 48) := Blk.new wr9 _ _
      have Gwr14 := hide (Gwr9.out.below owr14.out Gwr9.out.lt)
      have neGQwr14 : Hid (w4.heap.size ≠ wr9.heap.size) := by have h1 := Gwr9.out.lt; unfold Hid; omega
      have geQwr14 : Hid (w4.heap.size ≤ wr9.heap.size) := kr9.size
      refine hK.out _ _ (by exact KB.out _ kr14) (fun hHeld => ?_)
      clear hK K
      try simp only [Act.put, sq]
      generalize (wr9.alloc (.cells #[.string (vrN 84 (n + 1)), .slice none 0 0] 48)) = wr14 at *
      refine wpAnyH_ready (rs := [7, 12]) (by kernel_rfl) (by simp) ?_
      refine AllReadyH.cons rfl (fun K hK => ?_) (AllReadyH.cons rfl (fun K hK => ?_) AllReadyH.nil)
      ·obtain ⟨vwr15, wr15, xswr15, hrun, hown, hrow, hbel, hfr, hsz, hat⟩ := spreadTI (c := ac) kr14 geGwr9.out Gwr14.out S4B.out HAL.out
       have HRwr15 := hide hrun
       have Rwr15 := hide hown
       have RRwr15 := hide hrow
       have kr15 := hbel
       have Qwr15 : Hid (Blk wr15 wr9.heap.size #[.string (vrN 84 (n + 1)), .slice none 0 0] 48) := (hfr _ Qwr14.out.lt ((neGQwr14.out).symm)).trans Qwr14.out
       clear hrun hown hrow hbel hfr hsz hat
       refine step_append_eqM rfl _ _ _ _ rfl rfl rfl HRwr15.out ?_
       refine hK.out _ _ (by exact KB.out _ kr15) (fun hHeld => ?_)
       clear hK K
       try simp only [Act.put, sq]
       exact H_0 wr15 _ _ _ _ kr15 Rwr15.out RRwr15.out Qwr15.out
      ·go_simp
       have kr16 : Below w4.heap.size w4 (wr14.alloc (.cells #[.string ⟨#[]⟩, .slice none 0 0] 48)) := kr14.alloc kr14.size _
       have owr16 : Hid (Below wr14.heap.size wr14 (wr14.alloc (.cells #[.string ⟨#[]⟩, .slice none 0 0] 48))) := ((Below.refl _ _).alloc (Nat.le_refl _) _)
       have Awr16 : Hid (Blk (wr14.alloc (.cells #[.string ⟨#[]⟩, .slice none 0 0] 48)) wr14.heap.size #[.string ⟨#[]⟩, .slice none 0 0] 48) := Blk.new wr14 _ _
       have Gwr16 := hide (Gwr14.out.below owr16.out Gwr14.out.lt)
       have neGAwr16 : Hid (w4.heap.size ≠ wr14.heap.size) := by have h1 := Gwr14.out.lt; unfold Hid; omega
       have Qwr16 := hide (Qwr14.out.below owr16.out Qwr14.out.lt)
       have neQAwr16 : Hid (wr9.heap.size ≠ wr14.heap.size) := by have h1 := Qwr14.out.lt; unfold Hid; omega
       have geAwr16 : Hid (w4.heap.size ≤ wr14.heap.size) := kr14.size
       refine hK.out _ _ (by exact KB.out _ kr16) (fun hHeld => ?_)
       clear hK K
       try simp only [Act.put, sq]
       generalize (wr14.alloc (.cells #[.string ⟨#[]⟩, .slice none 0 0] 48)) = wr16 at *
       refine rdq 7 rfl fun K hK => ?_
       obtain ⟨vwr17, wr17, xswr17, hrun, hown, hrow, hbel, hfr, hsz, hat⟩ := spreadTI (c := ac) kr16 geGwr9.out Gwr16.out S4B.out HAL.out
       have HRwr17 := hide hrun
       have Rwr17 := hide hown
       have RRwr17 := hide hrow
       have kr17 := hbel
       have Qwr17 : Hid (Blk wr17 wr9.heap.size #[.string (vrN 84 (n + 1)), .slice none 0 0] 48) := (hfr _ Qwr16.out.lt ((neGQwr14.out).symm)).trans Qwr16.out
       have Awr17 : Hid (Blk wr17 wr14.heap.size #[.string ⟨#[]⟩, .slice none 0 0] 48) := (hfr _ Awr16.out.lt ((neGAwr16.out).symm)).trans Awr16.out
       have nrwr17 : Hid (some wr14.heap.size ≠ (vwr17 : Value).ownBlock) := fun e => by have h1 := Awr16.out.lt; rcases hat _ e.symm with h2 | h2; exact ((neGAwr16.out).symm) h2; omega
       clear hrun hown hrow hbel hfr hsz hat
       refine step_append_eqM rfl _ _ _ _ rfl rfl rfl HRwr17.out ?_
       refine hK.out _ _ (by exact KB.out _ kr17) (fun hHeld => ?_)
       clear hK K
       try simp only [Act.put, sq]
       exact H_A wr17 _ _ _ _ _ kr17 Rwr17.out RRwr17.out Qwr17.out Awr17.out nrwr17.out geAwr16.out
     ·go_simp
      have kr18 : Below w4.heap.size w4 (wr9.alloc (.cells #[.string ⟨#[]⟩, .slice none 0 0] 48)) := kr9.alloc kr9.size _
      have owr18 : Hid (Below wr9.heap.size wr9 (wr9.alloc (.cells #[.string ⟨#[]⟩, .slice none 0 0] 48))) := ((Below.refl _ _).alloc (Nat.le_refl _) _)
      have Awr18 : Hid (Blk (wr9.alloc (.cells #[.string ⟨#[]⟩, .slice none 0 0] 48)) wr9.heap.size #[.string ⟨#[]⟩, .slice none 0 0] 48) := Blk.new wr9 _ _
      have Gwr18 := hide (Gwr9.out.below owr18.out Gwr9.out.lt)
      have neGAwr18 : Hid (w4.heap.size ≠ wr9.heap.size) := by have h1 := Gwr9.out.lt; unfold Hid; omega
      have geAwr18 : Hid (w4.heap.size ≤ wr9.heap.size) := kr9.size
      refine hK.out _ _ (by exact KB.out _ kr18) (fun hHeld => ?_)
      clear hK K
      try simp only [Act.put, sq]
      generalize (wr9.alloc (.cells #[.string ⟨#[]⟩, .slice none 0 0] 48)) = wr18 at *
      refine wpAnyH_ready (rs := [7, 9]) (by kernel_rfl) (by simp) ?_
      refine AllReadyH.cons rfl (fun K hK => ?_) (AllReadyH.cons rfl (fun K hK => ?_) AllReadyH.nil)
      ·obtain ⟨vwr19, wr19, xswr19, hrun, hown, hrow, hbel, hfr, hsz, hat⟩ := spreadTI (c := ac) kr18 geGwr9.out Gwr18.out S4B.out HAL.out
       have HRwr19 := hide hrun
       have Rwr19 := hide hown
       have RRwr19 := hide hrow
       have kr19 := hbel
       have Awr19 : Hid (Blk wr19 wr9.heap.size #[.string ⟨#[]⟩, .slice none 0 0] 48) := (hfr _ Awr18.out.lt ((neGAwr18.out).symm)).trans Awr18.out
       have nrwr19 : Hid (some wr9.heap.size ≠ (vwr19 : Value).ownBlock) := fun e => by have h1 := Awr18.out.lt; rcases hat _ e.symm with h2 | h2; exact ((neGAwr18.out).symm) h2; omega
       clear hrun hown hrow hbel hfr hsz hat
       refine step_append_eqM rfl _ _ _ _ rfl rfl rfl HRwr19.out ?_
       refine hK.out _ _ (by exact KB.out _ kr19) (fun hHeld => ?_)
       clear hK K
       try simp only [Act.put, sq]
       refine rdq 9 rfl fun K hK => ?_
       go_simp
       have kr20 : Below w4.heap.size w4 (wr19.alloc (.cells #[.string (vrN 84 (n + 1)), .slice none 0 0] 48)) := kr19.alloc kr19.size _
       have owr20 : Hid (Below wr19.heap.size wr19 (wr19.alloc (.cells #[.string (vrN 84 (n + 1)), .slice none 0 0] 48))) := ((Below.refl _ _).alloc (Nat.le_refl _) _)
       have Qwr20 : Hid (Blk (wr19.alloc (.cells #[.string (vrN 84 (n + 1)), .slice none 0 0] 48)) wr19.heap.size #[.string (vrN 84 (n + 1)), .slice none 0 0] 48) := Blk.new wr19 _ _
       have Awr20 := hide (Awr19.out.below owr20.out Awr19.out.lt)
       have neAQwr20 : Hid (wr9.heap.size ≠ wr19.heap.size) := by have h1 := Awr19.out.lt; unfold Hid; omega
       have geQwr20 : Hid (w4.heap.size ≤ wr19.heap.size) := kr19.size
       have Rwr20 := hide (ownsRow_at Rwr19.out fun g hg => owr20.out.block g (Rwr19.out.lt g hg).2)
       refine hK.out _ _ (by exact KB.out _ kr20) (fun hHeld => ?_)
       clear hK K
       try simp only [Act.put, sq]
       generalize (wr19.alloc (.cells #[.string (vrN 84 (n + 1)), .slice none 0 0] 48)) = wr20 at *
       exact H_A wr20 _ _ _ _ _ kr20 Rwr20.out RRwr19.out Qwr20.out Awr20.out nrwr19.out geAwr18.out
      ·go_simp
       have kr21 : Below w4.heap.size w4 (wr18.alloc (.cells #[.string (vrN 84 (n + 1)), .slice none 0 0] 48)) := kr18.alloc kr18.size _
       have owr21 : Hid (Below wr18.heap.size wr18 (wr18.alloc (.cells #[.string (vrN 84 (n + 1)), .slice none 0 0] 48))) := ((Below.refl _ _).alloc (Nat.le_refl _) _)
       have Qwr21 : Hid (Blk (wr18.alloc (.cells #[.string (vrN 84 (n + 1)), .slice none 0 0] 48)) wr18.heap.size #[.string (vrN 84 (n + 1)), .slice none 0 0] 48) := Blk.new wr18 _ _
       have Gwr21 := hide (Gwr18.out.below owr21.out Gwr18.out.lt)
       have neGQwr21 : Hid (w4.heap.size ≠ wr18.heap.size) := by have h1 := Gwr18.out.lt; unfold Hid; omega
       have Awr21 := hide (Awr18.out.below owr21.out Awr18.out.lt)
       have neAQwr21 : Hid (wr9.heap.size ≠ wr18.heap.size) := by have h1 := Awr18.out.lt; unfold Hid; omega
       have geQwr21 : Hid (w4.heap.size ≤ wr18.heap.size) := kr18.size
       refine hK.out _ _ (by exact KB.out _ kr21) (fun hHeld => ?_)
       clear hK K
       try simp only [Act.put, sq]
       generalize (wr18.alloc (.cells #[.string (vrN 84 (n + 1)), .slice none 0 0] 48)) = wr21 at *
       refine rdq 7 rfl fun K hK => ?_
       obtain ⟨vwr22, wr22, xswr22, hrun, hown, hrow, hbel, hfr, hsz, hat⟩ := spreadTI (c := ac) kr21 geGwr9.out Gwr21.out S4B.out HAL.out
       have HRwr22 := hide hrun
       have Rwr22 := hide hown
       have RRwr22 := hide hrow
       have kr22 := hbel
       have Qwr22 : Hid (Blk wr22 wr18.heap.size #[.string (vrN 84 (n + 1)), .slice none 0 0] 48) := (hfr _ Qwr21.out.lt ((neGQwr21.out).symm)).trans Qwr21.out
       have Awr22 : Hid (Blk wr22 wr9.heap.size #[.string ⟨#[]⟩, .slice none 0 0] 48) := (hfr _ Awr21.out.lt ((neGAwr18.out).symm)).trans Awr21.out
       have nrwr22 : Hid (some wr9.heap.size ≠ (vwr22 : Value).ownBlock) := fun e => by have h1 := Awr21.out.lt; rcases hat _ e.symm with h2 | h2; exact ((neGAwr18.out).symm) h2; omega
       clear hrun hown hrow hbel hfr hsz hat
       refine step_append_eqM rfl _ _ _ _ rfl rfl rfl HRwr22.out ?_
       refine hK.out _ _ (by exact KB.out _ kr22) (fun hHeld => ?_)
       clear hK K
       try simp only [Act.put, sq]
       exact H_A wr22 _ _ _ _ _ kr22 Rwr22.out RRwr22.out Qwr22.out Awr22.out nrwr22.out geAwr18.out
    ·go_simp
     have kr23 : Below w4.heap.size w4 ((w4.alloc (.cells #[.string (vrN 84 (n + 1)), .slice none 0 0] 48)).drew) := ((Below.refl w4.heap.size w4).alloc (Nat.le_refl _) _).drew
     have owr23 : Hid (Below w4.heap.size w4 ((w4.alloc (.cells #[.string (vrN 84 (n + 1)), .slice none 0 0] 48)).drew)) := ((Below.refl _ _).alloc (Nat.le_refl _) _).drew
     have Qwr23 : Hid (Blk ((w4.alloc (.cells #[.string (vrN 84 (n + 1)), .slice none 0 0] 48)).drew) w4.heap.size #[.string (vrN 84 (n + 1)), .slice none 0 0] 48) := Blk.new w4 _ _
     have geQwr23 : Hid (w4.heap.size ≤ w4.heap.size) := Nat.le_refl _
     refine hK.out _ _ (by exact KB.out _ kr23) (fun hHeld => ?_)
     clear hK K
     try simp only [Act.put, sq]
     generalize ((w4.alloc (.cells #[.string (vrN 84 (n + 1)), .slice none 0 0] 48)).drew) = wr23 at *
     refine wpAnyH_ready (rs := [5, 12]) (by kernel_rfl) (by simp) ?_
     refine AllReadyH.cons rfl (fun K hK => ?_) (AllReadyH.cons rfl (fun K hK => ?_) AllReadyH.nil)
     ·go_simp
      have kr24 : Below w4.heap.size w4 (wr23.alloc (.cells #[] 48)) := kr23.alloc kr23.size _
      have owr24 : Hid (Below wr23.heap.size wr23 (wr23.alloc (.cells #[] 48))) := ((Below.refl _ _).alloc (Nat.le_refl _) _)
      have Gwr24 : Hid (Blk (wr23.alloc (.cells #[] 48)) wr23.heap.size #[] 48) := Blk.new wr23 _ _
      have Qwr24 := hide (Qwr23.out.below owr24.out Qwr23.out.lt)
      have neQGwr24 : Hid (w4.heap.size ≠ wr23.heap.size) := by have h1 := Qwr23.out.lt; unfold Hid; omega
      have geGwr24 : Hid (w4.heap.size ≤ wr23.heap.size) := kr23.size
      refine hK.out _ _ (by exact KB.out _ kr24) (fun hHeld => ?_)
      clear hK K
      try simp only [Act.put, sq]
      generalize (wr23.alloc (.cells #[] 48)) = wr24 at *
      refine wpAnyH_ready (rs := [7, 12]) (by kernel_rfl) (by simp) ?_
      refine AllReadyH.cons rfl (fun K hK => ?_) (AllReadyH.cons rfl (fun K hK => ?_) AllReadyH.nil)
      ·obtain ⟨vwr25, wr25, xswr25, hrun, hown, hrow, hbel, hfr, hsz, hat⟩ := spreadTI (c := ac) kr24 geGwr24.out Gwr24.out S4B.out HAL.out
       have HRwr25 := hide hrun
       have Rwr25 := hide hown
       have RRwr25 := hide hrow
       have kr25 := hbel
       have Qwr25 : Hid (Blk wr25 w4.heap.size #[.string (vrN 84 (n + 1)), .slice none 0 0] 48) := (hfr _ Qwr24.out.lt (neQGwr24.out)).trans Qwr24.out
       clear hrun hown hrow hbel hfr hsz hat
       refine step_append_eqM rfl _ _ _ _ rfl rfl rfl HRwr25.out ?_
       refine hK.out _ _ (by exact KB.out _ kr25) (fun hHeld => ?_)
       clear hK K
       try simp only [Act.put, sq]
       exact H_0 wr25 _ _ _ _ kr25 Rwr25.out RRwr25.out Qwr25.out
      ·go_simp
       have kr26 : Below w4.heap.size w4 (wr24.alloc (.cells #[.string ⟨#[]⟩, .slice none 0 0] 48)) := kr24.alloc kr24.size _
       have owr26 : Hid (Below wr24.heap.size wr24 (wr24.alloc (.cells #[.string ⟨#[]⟩, .slice none 0 0] 48))) := ((Below.refl _ _).alloc (Nat.le_refl _) _)
       have Awr26 : Hid (Blk (wr24.alloc (.cells #[.string ⟨#[]⟩, .slice none 0 0] 48)) wr24.heap.size #[.string ⟨#[]⟩, .slice none 0 0] 48) := Blk.new wr24 _ _
       have Gwr26 := hide (Gwr24.out.below owr26.out Gwr24.out.lt)
       have neGAwr26 : Hid (wr23.heap.size ≠ wr24.heap.size) := by have h1 := Gwr24.out.lt; unfold Hid; omega
       have Qwr26 := hide (Qwr24.out.below owr26.out Qwr24.out.lt)
       have neQAwr26 : Hid (w4.heap.size ≠ wr24.heap.size) := by have h1 := Qwr24.out.lt; unfold Hid; omega
       have geAwr26 : Hid (w4.heap.size ≤ wr24.heap.size) := kr24.size
       refine hK.out _ _ (by exact KB.out _ kr26) (fun hHeld => ?_)
       clear hK K
       try simp only [Act.put, sq]
       generalize (wr24.alloc (.cells #[.string ⟨#[]⟩, .slice none 0 0] 48)) = wr26 at *
       refine rdq 7 rfl fun K hK => ?_
       obtain ⟨vwr27, wr27, xswr27, hrun, hown, hrow, hbel, hfr, hsz, hat⟩ := spreadTI (c := ac) kr26 geGwr24.out Gwr26.out S4B.out HAL.out
       have HRwr27 := hide hrun
       have Rwr27 := hide hown
       have RRwr27 := hide hrow
       have kr27 := hbel
       have Qwr27 : Hid (Blk wr27 w4.heap.size #[.string (vrN 84 (n + 1)), .slice none 0 0] 48) := (hfr _ Qwr26.out.lt (neQGwr24.out)).trans Qwr26.out
       have Awr27 : Hid (Blk wr27 wr24.heap.size #[.string ⟨#[]⟩, .slice none 0 0] 48) := (hfr _ Awr26.out.lt ((neGAwr26.out).symm)).trans Awr26.out
       have nrwr27 : Hid (some wr24.heap.size ≠ (vwr27 : Value).ownBlock) := fun e => by have h1 := Awr26.out.lt; rcases hat _ e.symm with h2 | h2; exact ((neGAwr26.out).symm) h2; omega
       clear hrun hown hrow hbel hfr hsz hat
       refine step_append_eqM rfl _ _ _ _ rfl rfl rfl HRwr27.out ?_
       refine hK.out _ _ (by exact KB.out _ kr27) (fun hHeld => ?_)
       clear hK K
       try simp only [Act.put, sq]
       exact H_A wr27 _ _ _ _ _ kr27 Rwr27.out RRwr27.out Qwr27.out Awr27.out nrwr27.out geAwr26.out
     ·go_simp
      have kr28 : Below w4.heap.size w4 (wr23.alloc (.cells #[.string ⟨#[]⟩, .slice none 0 0] 48)) := kr23.alloc kr23.size _
      have owr28 : Hid (Below wr23.heap.size wr23 (wr23.alloc (.cells #[.string ⟨#[]⟩, .slice none 0 0] 48))) := ((Below.refl _ _).alloc (Nat.le_refl _) _)
      have Awr28 : Hid (Blk (wr23.alloc (.cells #[.string ⟨#[]⟩, .slice none 0 0] 48)) wr23.heap.size #[.string ⟨#[]⟩, .slice none 0 0] 48) := Blk.new wr23 _ _
      have Qwr28 := hide (Qwr23.out.below owr28.out Qwr23.out.lt)
      have neQAwr28 : Hid (w4.heap.size ≠ wr23.heap.size) := by have h1 := Qwr23.out.lt; unfold Hid; omega
      have geAwr28 : Hid (w4.heap.size ≤ wr23.heap.size) := kr23.size
      refine hK.out _ _ (by exact KB.out _ kr28) (fun hHeld => ?_)
      clear hK K
      try simp only [Act.put, sq]
      generalize (wr23.alloc (.cells #[.string ⟨#[]⟩, .slice none 0 0] 48)) = wr28 at *
      refine rdq 5 rfl fun K hK => ?_
      go_simp
      have kr29 : Below w4.heap.size w4 (wr28.alloc (.cells #[] 48)) := kr28.alloc kr28.size _
      have owr29 : Hid (Below wr28.heap.size wr28 (wr28.alloc (.cells #[] 48))) := ((Below.refl _ _).alloc (Nat.le_refl _) _)
      have Gwr29 : Hid (Blk (wr28.alloc (.cells #[] 48)) wr28.heap.size #[] 48) := Blk.new wr28 _ _
      have Qwr29 := hide (Qwr28.out.below owr29.out Qwr28.out.lt)
      have neQGwr29 : Hid (w4.heap.size ≠ wr28.heap.size) := by have h1 := Qwr28.out.lt; unfold Hid; omega
      have Awr29 := hide (Awr28.out.below owr29.out Awr28.out.lt)
      have neAGwr29 : Hid (wr23.heap.size ≠ wr28.heap.size) := by have h1 := Awr28.out.lt; unfold Hid; omega
      have geGwr29 : Hid (w4.heap.size ≤ wr28.heap.size) := kr28.size
      refine hK.out _ _ (by exact KB.out _ kr29) (fun hHeld => ?_)
      clear hK K
      try simp only [Act.put, sq]
      generalize (wr28.alloc (.cells #[] 48)) = wr29 at *
      refine rdq 7 rfl fun K hK => ?_
      obtain ⟨vwr30, wr30, xswr30, hrun, hown, hrow, hbel, hfr, hsz, hat⟩ := spreadTI (c := ac) kr29 geGwr29.out Gwr29.out S4B.out HAL.out
      have HRwr30 := hide hrun
      have Rwr30 := hide hown
      have RRwr30 := hide hrow
      have kr30 := hbel
      have Qwr30 : Hid (Blk wr30 w4.heap.size #[.string (vrN 84 (n + 1)), .slice none 0 0] 48) := (hfr _ Qwr29.out.lt (neQGwr29.out)).trans Qwr29.out
      have Awr30 : Hid (Blk wr30 wr23.heap.size #[.string ⟨#[]⟩, .slice none 0 0] 48) := (hfr _ Awr29.out.lt (neAGwr29.out)).trans Awr29.out
      have nrwr30 : Hid (some wr23.heap.size ≠ (vwr30 : Value).ownBlock) := fun e => by have h1 := Awr29.out.lt; rcases hat _ e.symm with h2 | h2; exact (neAGwr29.out) h2; omega
      clear hrun hown hrow hbel hfr hsz hat
      refine step_append_eqM rfl _ _ _ _ rfl rfl rfl HRwr30.out ?_
      refine hK.out _ _ (by exact KB.out _ kr30) (fun hHeld => ?_)
      clear hK K
      try simp only [Act.put, sq]
      exact H_A wr30 _ _ _ _ _ kr30 Rwr30.out RRwr30.out Qwr30.out Awr30.out nrwr30.out geAwr28.out
    ·go_simp
     have kr31 : Below w4.heap.size w4 ((w4.alloc (.cells #[.string ⟨#[]⟩, .slice none 0 0] 48)).drew) := ((Below.refl w4.heap.size w4).alloc (Nat.le_refl _) _).drew
     have owr31 : Hid (Below w4.heap.size w4 ((w4.alloc (.cells #[.string ⟨#[]⟩, .slice none 0 0] 48)).drew)) := ((Below.refl _ _).alloc (Nat.le_refl _) _).drew
     have Awr31 : Hid (Blk ((w4.alloc (.cells #[.string ⟨#[]⟩, .slice none 0 0] 48)).drew) w4.heap.size #[.string ⟨#[]⟩, .slice none 0 0] 48) := Blk.new w4 _ _
     have geAwr31 : Hid (w4.heap.size ≤ w4.heap.size) := Nat.le_refl _
     refine hK.out _ _ (by exact KB.out _ kr31) (fun hHeld => ?_)
     clear hK K
     try simp only [Act.put, sq]
     generalize ((w4.alloc (.cells #[.string ⟨#[]⟩, .slice none 0 0] 48)).drew) = wr31 at *
     refine wpAnyH_ready (rs := [5, 9]) (by kernel_rfl) (by simp) ?_
     refine AllReadyH.cons rfl (fun K hK => ?_) (AllReadyH.cons rfl (fun K hK => ?_) AllReadyH.nil)
     ·go_simp
      have kr32 : Below w4.heap.size w4 (wr31.alloc (.cells #[] 48)) := kr31.alloc kr31.size _
      have owr32 : Hid (Below wr31.heap.size wr31 (wr31.alloc (.cells #[] 48))) := ((Below.refl _ _).alloc (Nat.le_refl _) _)
      have Gwr32 : Hid (Blk (wr31.alloc (.cells #[] 48)) wr31.heap.size #[] 48) := Blk.new wr31 _ _
      have Awr32 := hide (Awr31.out.below owr32.out Awr31.out.lt)
      have neAGwr32 : Hid (w4.heap.size ≠ wr31.heap.size) := by have h1 := Awr31.out.lt; unfold Hid; omega
      have geGwr32 : Hid (w4.heap.size ≤ wr31.heap.size) := kr31.size
      refine hK.out _ _ (by exact KB.out _ kr32) (fun hHeld => ?_)
      clear hK K
      try simp only [Act.put, sq]
      generalize (wr31.alloc (.cells #[] 48)) = wr32 at *
      refine wpAnyH_ready (rs := [7, 9]) (by kernel_rfl) (by simp) ?_
      refine AllReadyH.cons rfl (fun K hK => ?_) (AllReadyH.cons rfl (fun K hK => ?_) AllReadyH.nil)
      ·obtain ⟨vwr33, wr33, xswr33, hrun, hown, hrow, hbel, hfr, hsz, hat⟩ := spreadTI (c := ac) kr32 geGwr32.out Gwr32.out S4B.out HAL.out
       have HRwr33 := hide hrun
       have Rwr33 := hide hown
       have RRwr33 := hide hrow
       have kr33 := hbel
       have Awr33 : Hid (Blk wr33 w4.heap.size #[.string ⟨#[]⟩, .slice none 0 0] 48) := (hfr _ Awr32.out.lt (neAGwr32.out)).trans Awr32.out
       have nrwr33 : Hid (some w4.heap.size ≠ (vwr33 : Value).ownBlock) := fun e => by have h1 := Awr32.out.lt; rcases hat _ e.symm with h2 | h2; exact (neAGwr32.out) h2; omega
       clear hrun hown hrow hbel hfr hsz hat
       refine step_append_eqM rfl _ _ _ _ rfl rfl rfl HRwr33.out ?_
       refine hK.out _ _ (by exact KB.out _ kr33) (fun hHeld => ?_)
       clear hK K
       try simp only [Act.put, sq]
       refine rdq 9 rfl fun K hK => ?_
       go_simp
       have kr34 : Below w4.heap.size w4 (wr33.alloc (.cells #[.string (vrN 84 (n + 1)), .slice none 0 0] 48)) := kr33.alloc kr33.size _
       have owr34 : Hid (Below wr33.heap.size wr33 (wr33.alloc (.cells #[.string (vrN 84 (n + 1)), .slice none 0 0] 48))) := ((Below.refl _ _).alloc (Nat.le_refl _) _)
       have Qwr34 : Hid (Blk (wr33.alloc (.cells #[.string (vrN 84 (n + 1)), .slice none 0 0] 48)) wr33.heap.size #[.string (vrN 84 (n + 1)), .slice none 0 0] 48) := Blk.new wr33 _ _
       have Awr34 := hide (Awr33.out.below owr34.out Awr33.out.lt)
       have neAQwr34 : Hid (w4.heap.size ≠ wr33.heap.size) := by have h1 := Awr33.out.lt; unfold Hid; omega
       have geQwr34 : Hid (w4.heap.size ≤ wr33.heap.size) := kr33.size
       have Rwr34 := hide (ownsRow_at Rwr33.out fun g hg => owr34.out.block g (Rwr33.out.lt g hg).2)
       refine hK.out _ _ (by exact KB.out _ kr34) (fun hHeld => ?_)
       clear hK K
       try simp only [Act.put, sq]
       generalize (wr33.alloc (.cells #[.string (vrN 84 (n + 1)), .slice none 0 0] 48)) = wr34 at *
       exact H_A wr34 _ _ _ _ _ kr34 Rwr34.out RRwr33.out Qwr34.out Awr34.out nrwr33.out geAwr31.out
      ·go_simp
       have kr35 : Below w4.heap.size w4 (wr32.alloc (.cells #[.string (vrN 84 (n + 1)), .slice none 0 0] 48)) := kr32.alloc kr32.size _
       have owr35 : Hid (Below wr32.heap.size wr32 (wr32.alloc (.cells #[.string (vrN 84 (n + 1)), .slice none 0 0] 48))) := ((Below.refl _ _).alloc (Nat.le_refl _) _)
       have Qwr35 : Hid (Blk (wr32.alloc (.cells #[.string (vrN 84 (n + 1)), .slice none 0 0] 48)) wr32.heap.size #[.string (vrN 84 (n + 1)), .slice none 0 0] 48) := Blk.new wr32 _ _
       have Gwr35 := hide (Gwr32.out.below owr35.out Gwr32.out.lt)
       have neGQwr35 : Hid (wr31.heap.size ≠ wr32.heap.size) := by have h1 := Gwr32.out.lt; unfold Hid; omega
       have Awr35 := hide (Awr32.out.below owr35.out Awr32.out.lt)
       have neAQwr35 : Hid (w4.heap.size ≠ wr32.heap.size) := by have h1 := Awr32.out.lt; unfold Hid; omega
       have geQwr35 : Hid (w4.heap.size ≤ wr32.heap.size) := kr32.size
       refine hK.out _ _ (by exact KB.out _ kr35) (fun hHeld => ?_)
       clear hK K
       try simp only [Act.put, sq]
       generalize (wr32.alloc (.cells #[.string (vrN 84 (n + 1)), .slice none 0 0] 48)) = wr35 at *
       refine rdq 7 rfl fun K hK => ?_
       obtain ⟨vwr36, wr36, xswr36, hrun, hown, hrow, hbel, hfr, hsz, hat⟩ := spreadTI (c := ac) kr35 geGwr32.out Gwr35.out S4B.out HAL.out
       have HRwr36 := hide hrun
       have Rwr36 := hide hown
       have RRwr36 := hide hrow
       have kr36 := hbel
       have Qwr36 : Hid (Blk wr36 wr32.heap.size #[.string (vrN 84 (n + 1)), .slice none 0 0] 48) := (hfr _ Qwr35.out.lt ((neGQwr35.out).symm)).trans Qwr35.out
       have Awr36 : Hid (Blk wr36 w4.heap.size #[.string ⟨#[]⟩, .slice none 0 0] 48) := (hfr _ Awr35.out.lt (neAGwr32.out)).trans Awr35.out
       have nrwr36 : Hid (some w4.heap.size ≠ (vwr36 : Value).ownBlock) := fun e => by have h1 := Awr35.out.lt; rcases hat _ e.symm with h2 | h2; exact (neAGwr32.out) h2; omega
       clear hrun hown hrow hbel hfr hsz hat
       refine step_append_eqM rfl _ _ _ _ rfl rfl rfl HRwr36.out ?_
       refine hK.out _ _ (by exact KB.out _ kr36) (fun hHeld => ?_)
       clear hK K
       try simp only [Act.put, sq]
       exact H_A wr36 _ _ _ _ _ kr36 Rwr36.out RRwr36.out Qwr36.out Awr36.out nrwr36.out geAwr31.out
     ·go_simp
      have kr37 : Below w4.heap.size w4 (wr31.alloc (.cells #[.string (vrN 84 (n + 1)), .slice none 0 0] 48)) := kr31.alloc kr31.size _
      have owr37 : Hid (Below wr31.heap.size wr31 (wr31.alloc (.cells #[.string (vrN 84 (n + 1)), .slice none 0 0] 48))) := ((Below.refl _ _).alloc (Nat.le_refl _) _)
      have Qwr37 : Hid (Blk (wr31.alloc (.cells #[.string (vrN 84 (n + 1)), .slice none 0 0] 48)) wr31.heap.size #[.string (vrN 84 (n + 1)), .slice none 0 0] 48) := Blk.new wr31 _ _
      have Awr37 := hide (Awr31.out.below owr37.out Awr31.out.lt)
      have neAQwr37 : Hid (w4.heap.size ≠ wr31.heap.size) := by have h1 := Awr31.out.lt; unfold Hid; omega
      have geQwr37 : Hid (w4.heap.size ≤ wr31.heap.size) := kr31.size
      refine hK.out _ _ (by exact KB.out _ kr37) (fun hHeld => ?_)
      clear hK K
      try simp only [Act.put, sq]
      generalize (wr31.alloc (.cells #[.string (vrN 84 (n + 1)), .slice none 0 0] 48)) = wr37 at *
      refine rdq 5 rfl fun K hK => ?_
      go_simp
      have kr38 : Below w4.heap.size w4 (wr37.alloc (.cells #[] 48)) := kr37.alloc kr37.size _
      have owr38 : Hid (Below wr37.heap.size wr37 (wr37.alloc (.cells #[] 48))) := ((Below.refl _ _).alloc (Nat.le_refl _) _)
      have Gwr38 : Hid (Blk (wr37.alloc (.cells #[] 48)) wr37.heap.size #[] 48) := Blk.new wr37 _ _
      have Qwr38 := hide (Qwr37.out.below owr38.out Qwr37.out.lt)
      have neQGwr38 : Hid (wr31.heap.size ≠ wr37.heap.size) := by have h1 := Qwr37.out.lt; unfold Hid; omega
      have Awr38 := hide (Awr37.out.below owr38.out Awr37.out.lt)
      have neAGwr38 : Hid (w4.heap.size ≠ wr37.heap.size) := by have h1 := Awr37.out.lt; unfold Hid; omega
      have geGwr38 : Hid (w4.heap.size ≤ wr37.heap.size) := kr37.size
      refine hK.out _ _ (by exact KB.out _ kr38) (fun hHeld => ?_)
      clear hK K
      try simp only [Act.put, sq]
      generalize (wr37.alloc (.cells #[] 48)) = wr38 at *
      refine rdq 7 rfl fun K hK => ?_
      obtain ⟨vwr39, wr39, xswr39, hrun, hown, hrow, hbel, hfr, hsz, hat⟩ := spreadTI (c := ac) kr38 geGwr38.out Gwr38.out S4B.out HAL.out
      have HRwr39 := hide hrun
      have Rwr39 := hide hown
      have RRwr39 := hide hrow
      have kr39 := hbel
      have Qwr39 : Hid (Blk wr39 wr31.heap.size #[.string (vrN 84 (n + 1)), .slice none 0 0] 48) := (hfr _ Qwr38.out.lt (neQGwr38.out)).trans Qwr38.out
      have Awr39 : Hid (Blk wr39 w4.heap.size #[.string ⟨#[]⟩, .slice none 0 0] 48) := (hfr _ Awr38.out.lt (neAGwr38.out)).trans Awr38.out
      have nrwr39 : Hid (some w4.heap.size ≠ (vwr39 : Value).ownBlock) := fun e => by have h1 := Awr38.out.lt; rcases hat _ e.symm with h2 | h2; exact (neAGwr38.out) h2; omega
      clear hrun hown hrow hbel hfr hsz hat
      refine step_append_eqM rfl _ _ _ _ rfl rfl rfl HRwr39.out ?_
      refine hK.out _ _ (by exact KB.out _ kr39) (fun hHeld => ?_)
      clear hK K
      try simp only [Act.put, sq]
      exact H_A wr39 _ _ _ _ _ kr39 Rwr39.out RRwr39.out Qwr39.out Awr39.out nrwr39.out geAwr31.out
   case rest =>
    obtain ⟨A8, a9, c9, q9, cs9, rfl, hA9, hs9, hk9, hm9, hf9⟩ := hcut
    rename World => w9
    have F9 := hide (F4.out.trans hf9)
    have K9 := hide hk9
    have S9 := hide hs9
    have M9 := hide hm9
    have A9 := hide hA9
    have V9 := hide (hf9.bq V4.out)
    have R9 := hide (hf9.bq R4.out)
    have hE9 : Hid (∀ d, (E d ∨ d = w.heap.size + 1) → d < w9.heap.size) := fun d hd => Nat.lt_of_lt_of_le (hE4.out d hd) hf9.1.size
    clear hA9 hs9 hk9 hm9 hf9 KB KS CALL QN S4B V4 R4 A4 F4 K4 UP4 S4
    obtain ⟨r, hr⟩ : ∃ r, r = tyT 84 b (ar ++ [vrT 84 (n + 1)]) (n + 1) := ⟨_, rfl⟩
    rw [← hr] at K9 S9 M9 A9 HF
    clear hr
    have b0 := A9.out.1.c0
    have b1 : w9.cell? ⟨A8, 1, none⟩ = some (.slice a9 r.1.args.length c9) := A9.out.1.cell 1
    have v0 := V9.out.1.c0
    have v1 := V9.out.1.c1
    go_wp2_with fail
    refine (arrowR_any (vrT 84 (n + 1)) r.1 _ _ _ (Zq (fun b => E b ∨ b = w.heap.size + 1) N P q9) ⟨none, 0, rfl, by simp [vrT], Or.inl rfl⟩ ⟨_, _, rfl, S9.out⟩).mono ?_
    rintro e w10 ⟨v10, rfl, ⟨a10, c10, rfl, hs10⟩, hb10⟩
    rw [show (arT (vrT 84 (n + 1)) r.1).name = ⟨#[102]⟩ from rfl, show (arT (vrT 84 (n + 1)) r.1).args.length = 2 from rfl]
    have K10 := hide (K9.out.later hb10)
    have F10 := hide (F9.out.then hb10)
    have R10 := hide (R9.out.later hb10)
    have S10 : Hid (Sl w10 (Zq (fun b => E b ∨ b = w.heap.size + 1) N P q9) a10 (arT (vrT 84 (n + 1)) r.1).args) := hs10.mono fun d hd _ => hd.elim id (zq_alloc K9.out hE9.out d)
    clear hs10 hb10 b0 b1 v0 v1
    have r0 := R10.out.1.c0
    have r1 := R10.out.1.c1
    have f0 : w10.frozen? ⟨w.heap.size + 1, 0, none⟩ = false := R10.out.1.frozen 0
    have f1 : w10.frozen? ⟨w.heap.size + 1, 1, none⟩ = false := R10.out.1.frozen 1
    go_wp2_with fail
    obtain ⟨K11, F11, R11, S11⟩ := K10.out.store F10.out R10.out (by omega) (.string ⟨#[102]⟩) (.slice a10 2 c10) S10.out
    generalize ((w10.setCell ⟨w.heap.size + 1, 0, none⟩ (.string ⟨#[102]⟩)).setCell ⟨w.heap.size + 1, 1, none⟩ (.slice a10 2 c10)) = w11 at *
    have c0 := R11.cell 0
    have c1 := R11.cell 1
    simp only [List.getElem?_toArray, List.getElem?_cons_zero, List.getElem?_cons_succ] at c0 c1
    refine bodyPost_ret (v := .agg #[.string ⟨#[102]⟩, .slice a10 2 c10]) (by simp [results, Tryz.results12, go_sem, c0, c1]) rfl ?_
    refine ⟨a10, c10, q9, cs9, ?_, ?_, ?_, ?_, F11⟩
    ·rw [HF.out]; rfl
    ·rw [HF.out]; exact S11
    ·rw [HF.out]; exact K11
    ·rw [HF.out]; exact M9.out
  ·cases e
   obtain ⟨b', o', a1, c1, a2, c2, rfl, hKP⟩ := slM_two (B := B) hs hX
   have KP := hide hKP
   have hK0 := hK.le
   have hq0 : ∀ b, some b = q.ownBlock → N ≤ b ∧ b < w.heap.size := fun b hb => hK.own.lt b hb.symm
   have IHF := hide (IH.out f (by simp))
   have IHX := hide (IH.out x (by simp))
   clear hKP hs IH
   have e1 : ([f, x] : List Lm).length = 2 := rfl
   rw [e1]
   clear e1
   have K1 := hide (hK.later ((Below.refl _ _).alloc (Nat.le_refl _) (.cells #[.int .i64 3, .int .i64 0, .slice (some ⟨b', o', none⟩) 2 c] 25)))
   have K2 : Hid (AsK (fun b => E b ∨ b = w.heap.size + 1) ((w.alloc (.cells #[.int .i64 3, .int .i64 0, .slice (some ⟨b', o', none⟩) 2 c] 25)).alloc (.cells #[.string ⟨#[]⟩, .slice none 0 0] 48)) N P 45 n q cs) := (hK.excl (E' := fun b => E b ∨ b = w.heap.size + 1) fun b hb h => h.elim id (fun h => by omega)).later (((Below.refl _ _).alloc (Nat.le_refl _) _).alloc (by simp) _)
   have A2 : Hid (Bq ((w.alloc (.cells #[.int .i64 3, .int .i64 0, .slice (some ⟨b', o', none⟩) 2 c] 25)).alloc (.cells #[.string ⟨#[]⟩, .slice none 0 0] 48)) P q w.heap.size #[.int .i64 3, .int .i64 0, .slice (some ⟨b', o', none⟩) 2 c] 25) := (Bq.new hK _ _).later ((Below.refl _ _).alloc (Nat.le_refl _) _)
   have R2 : Hid (Bq ((w.alloc (.cells #[.int .i64 3, .int .i64 0, .slice (some ⟨b', o', none⟩) 2 c] 25)).alloc (.cells #[.string ⟨#[]⟩, .slice none 0 0] 48)) P q (w.heap.size + 1) #[.string ⟨#[]⟩, .slice none 0 0] 48) := by have h := Bq.new K1.out #[.string ⟨#[]⟩, .slice none 0 0] 48; rw [World.size_alloc] at h; exact h
   have B2 : Hid (Below w.heap.size w ((w.alloc (.cells #[.int .i64 3, .int .i64 0, .slice (some ⟨b', o', none⟩) 2 c] 25)).alloc (.cells #[.string ⟨#[]⟩, .slice none 0 0] 48))) := ((Below.refl _ _).alloc (Nat.le_refl _) _).alloc (by simp) _
   have S2 := hide ((sl_excl (E' := fun b => E b ∨ b = w.heap.size + 1) hS fun b hb h => h.elim id (fun h => by omega)).later B2.out)
   have F2 := hide (AsF.ofBelow B2.out P q)
   clear hK hS K1
   have HF := hide (tyT_app 84 0 f x ar n)
   have hzb : sizeM [(⟨3, 0, [f, x]⟩ : Lm)] = 1 + (sizeM [f] + sizeM [x]) := by rw [sizeM_oneI, sizeM_two]
   rw [hzb] at hn hcs har
   clear hzb HN HCS HAR
   have hcb : csL [f] = false ∧ csL [x] = false := by rw [csL_one, csL_cons] at hc; simpa using hc
   have HCB := hide hcb
   have HEF := hide hf
   have HEX := hide hx
   have HOK := hide (fun m => ty_cnt (p := 84) f ar m hf hcb.1)
   have HOX := hide (fun m => ty_cnt (p := 84) x ar m hx hcb.2)
   clear hcb hc he hf hx hX
   have hsf := tyM_pos f
   have hsx := tyM_pos x
   have UP2 : Hid (Below B w _) := B2.out.mono (Nat.le_trans hBN hK0)
   have HE2 : Hid (∀ b, (E b ∨ b = w.heap.size + 1) → b < ((w.alloc (.cells #[.int .i64 3, .int .i64 0, .slice (some ⟨b', o', none⟩) 2 c] 25)).alloc (.cells #[.string ⟨#[]⟩, .slice none 0 0] 48)).heap.size) := fun b hb => by have h1 := R2.out.1.lt; rcases hb with hb | hb; exact Nat.lt_trans (hEw b hb) (by omega); omega
   go_enter Tryz.func12, Tryz.ntmps12
   go_upto_region 1 with fail
   generalize ((w.alloc (.cells #[.int .i64 3, .int .i64 0, .slice (some ⟨b', o', none⟩) 2 c] 25)).alloc (.cells #[.string ⟨#[]⟩, .slice none 0 0] 48)) = w2 at *
   have x0 := A2.out.1.c0
   have x1 := A2.out.1.c1
   have x2 := A2.out.1.c2
   obtain ⟨⟨⟨y0, y1, y2⟩, y3, y4, y5⟩, hmf, hmx⟩ := KP.out w2 UP2.out
   go_wp2_with fail
   refine (IHF.out (fun b => E b ∨ b = w.heap.size + 1) N P n q _ cs ar au ac w2 X HEF.out HCB.out.1 (by omega) (by omega) (by omega) hac hmf HX.out hBN K2.out S2.out HE2.out).mono ?_
   rintro e w3 ⟨a3, c3, q3, cs3, rfl, hs3, hk3, hm3, hf3⟩
   have hcnt := HOK.out n
   have hlen3 := congrArg List.length hm3
   simp only [List.length_map, List.length_append] at hlen3
   obtain ⟨rf, hrf⟩ : ∃ r, r = tyT 84 f ar n := ⟨_, rfl⟩
   rw [← hrf] at hs3 hk3 hm3 hcnt hlen3 HF ⊢
   clear hrf
   have hbd3 : cs3.length ≤ cs.length + sizeM [f] := by omega
   clear hlen3
   have W3 := hide (And.intro hs3 (And.intro hk3 (And.intro hm3 hf3)))
   clear hs3 hk3 hm3 hf3 y0 y1 y2 y3 y4 y5 hmf hmx x0 x1 x2
   have O4 : Hid (Below w3.heap.size w3 (w3.alloc (.cells #[.string rf.1.name, .slice a3 rf.1.args.length c3] 48))) := (Below.refl _ _).alloc (Nat.le_refl _) _
   have V4 : Hid (Bq (w3.alloc (.cells #[.string rf.1.name, .slice a3 rf.1.args.length c3] 48)) P q3 w3.heap.size #[.string rf.1.name, .slice a3 rf.1.args.length c3] 48) := Bq.new W3.out.2.1 _ _
   have SF4 := hide (W3.out.1.later O4.out)
   have K4 := hide (W3.out.2.1.later O4.out)
   have F4 := hide ((F2.out.trans W3.out.2.2.2).then O4.out)
   have A4 := hide ((W3.out.2.2.2.bq A2.out).later O4.out)
   have R4 := hide ((W3.out.2.2.2.bq R2.out).later O4.out)
   have S4 := hide ((W3.out.2.2.2.sl S2.out).later O4.out)
   have M3 := hide W3.out.2.2.1
   have HE4 : Hid (∀ b, (E b ∨ b = w.heap.size + 1) → b < (w3.alloc (.cells #[.string rf.1.name, .slice a3 rf.1.args.length c3] 48)).heap.size) := fun b hb => Nat.lt_of_lt_of_le (HE2.out b hb) (Nat.le_trans W3.out.2.2.2.1.size O4.out.size)
   clear W3 O4 K2 F2 A2 R2 S2 HE2
   go_upto_region 9 with fail
   generalize w3.heap.size = V1 at *
   generalize w3.alloc (.cells #[.string rf.1.name, .slice a3 rf.1.args.length c3] 48) = w4 at *
   skip
   have UP4 : Hid (Below B w w4) := (F4.out.1.below hK0 (fun b hb => by rcases hb with rfl | hb; exact K4.out.ge; exact (hq0 b hb).1)).mono hBN
   obtain ⟨⟨⟨y0, y1, y2⟩, y3, y4, y5⟩, hmf, hmx⟩ := KP.out w4 UP4.out
   have x2 := A4.out.1.c2
   go_wp2_with fail
   refine (IHX.out (fun b => E b ∨ b = w.heap.size + 1) N P rf.2.2 q3 _ cs3 ar au ac w4 X HEX.out HCB.out.2 (by omega) (by omega) (by omega) hac hmx HX.out hBN K4.out S4.out HE4.out).mono ?_
   rintro e w5 ⟨a5, c5, q5, cs5, rfl, hs5, hk5, hm5, hf5⟩
   have hcnx := HOX.out rf.2.2
   have hlen5 := congrArg List.length hm5
   simp only [List.length_map, List.length_append] at hlen5
   obtain ⟨rx, hrx⟩ : ∃ r, r = tyT 84 x ar rf.2.2 := ⟨_, rfl⟩
   rw [← hrx] at hs5 hk5 hm5 hcnx hlen5 HF ⊢
   clear hrx
   have hbd5 : cs5.length ≤ cs3.length + sizeM [x] := by omega
   clear hlen5
   have W5 := hide (And.intro hs5 (And.intro hk5 (And.intro hm5 hf5)))
   clear hs5 hk5 hm5 hf5 y0 y1 y2 y3 y4 y5 hmf hmx x2
   have O6 : Hid (Below w5.heap.size w5 (w5.alloc (.cells #[.string rx.1.name, .slice a5 rx.1.args.length c5] 48))) := (Below.refl _ _).alloc (Nat.le_refl _) _
   have V6 : Hid (Bq (w5.alloc (.cells #[.string rx.1.name, .slice a5 rx.1.args.length c5] 48)) P q5 w5.heap.size #[.string rx.1.name, .slice a5 rx.1.args.length c5] 48) := Bq.new W5.out.2.1 _ _
   have SX6 := hide (W5.out.1.later O6.out)
   have SF6 := hide ((W5.out.2.2.2.sl SF4.out).later O6.out)
   have K6 := hide (W5.out.2.1.later O6.out)
   have F6 := hide ((F4.out.trans W5.out.2.2.2).then O6.out)
   have R6 := hide ((W5.out.2.2.2.bq R4.out).later O6.out)
   have VF6 := hide ((W5.out.2.2.2.bq V4.out).later O6.out)
   have M5 := hide W5.out.2.2.1
   have HE6 : Hid (∀ b, (E b ∨ b = w.heap.size + 1) → b < (w5.alloc (.cells #[.string rx.1.name, .slice a5 rx.1.args.length c5] 48)).heap.size) := fun b hb => Nat.lt_of_lt_of_le (HE4.out b hb) (Nat.le_trans W5.out.2.2.2.1.size O6.out.size)
   clear W5 O6 K4 F4 A4 R4 S4 V4 SF4 HE4 UP4
   go_upto_region 10 with fail
   generalize w5.heap.size = V2 at *
   generalize w5.alloc (.cells #[.string rx.1.name, .slice a5 rx.1.args.length c5] 48) = w6 at *
   have UP6 : Hid (Below B w w6) := (F6.out.1.below hK0 (fun b hb => by rcases hb with rfl | hb; exact K6.out.ge; exact (hq0 b hb).1)).mono hBN
   go_wp2_with fail
   refine (freshR_any K6.out (by omega)).mono ?_
   rintro e w7 ⟨rfl, hk7, hf7⟩
   obtain ⟨m, hm⟩ : ∃ m, m = rx.2.2 + 1 := ⟨_, rfl⟩
   rw [← hm] at hk7 HF ⊢
   have HMM := hide hm
   clear hm
   have W7 := hide (And.intro hk7 hf7)
   clear hk7 hf7
   have O8 : Hid (Below w7.heap.size w7 (w7.alloc (.cells #[.string (vrN 84 m), .slice none 0 0] 48))) := (Below.refl _ _).alloc (Nat.le_refl _) _
   have VV8 : Hid (Bq (w7.alloc (.cells #[.string (vrN 84 m), .slice none 0 0] 48)) P q5 w7.heap.size #[.string (vrN 84 m), .slice none 0 0] 48) := Bq.new W7.out.1 _ _
   have SX8 := hide ((W7.out.2.sl SX6.out).later O8.out)
   have SF8 := hide ((W7.out.2.sl SF6.out).later O8.out)
   have K8 := hide (W7.out.1.later O8.out)
   have F8 := hide ((F6.out.trans W7.out.2).then O8.out)
   have R8 := hide ((W7.out.2.bq R6.out).later O8.out)
   have VF8 := hide ((W7.out.2.bq VF6.out).later O8.out)
   have VX8 := hide ((W7.out.2.bq V6.out).later O8.out)
   have HE8 : Hid (∀ b, (E b ∨ b = w.heap.size + 1) → b < (w7.alloc (.cells #[.string (vrN 84 m), .slice none 0 0] 48)).heap.size) := fun b hb => Nat.lt_of_lt_of_le (HE6.out b hb) (Nat.le_trans W7.out.2.1.size O8.out.size)
   have HVR : Hid (w7.heap.size ≠ w.heap.size + 1) := by have h1 := R6.out.1.lt; have h2 := W7.out.2.1.size; unfold Hid; omega
   clear W7 O8 K6 F6 R6 V6 VF6 SX6 SF6 HE6 UP6
   go_upto_region 11 with fail
   generalize w7.heap.size = V3 at *
   generalize w7.alloc (.cells #[.string (vrN 84 m), .slice none 0 0] 48) = w8 at *
   have KS : Hid (∀ w', (Blk w' V1 #[.string rf.1.name, .slice a3 rf.1.args.length c3] 48 ∧ Blk w' V2 #[.string rx.1.name, .slice a5 rx.1.args.length c5] 48 ∧ Blk w' V3 #[.string (vrN 84 m), .slice none 0 0] 48) → (w'.cell? ⟨V1, 0, none⟩ = some (.string rf.1.name) ∧ w'.cell? ⟨V1, 1, none⟩ = some (.slice a3 rf.1.args.length c3)) ∧ (w'.cell? ⟨V2, 0, none⟩ = some (.string rx.1.name) ∧ w'.cell? ⟨V2, 1, none⟩ = some (.slice a5 rx.1.args.length c5)) ∧ w'.cell? ⟨V3, 0, none⟩ = some (.string (vrN 84 m)) ∧ w'.cell? ⟨V3, 1, none⟩ = some (.slice none 0 0)) := fun w' h => ⟨⟨h.1.cell 0, h.1.cell 1⟩, ⟨h.2.1.cell 0, h.2.1.cell 1⟩, h.2.2.cell 0, h.2.2.cell 1⟩
   have kd : Blk w8.drew V1 #[.string rf.1.name, .slice a3 rf.1.args.length c3] 48 ∧ Blk w8.drew V2 #[.string rx.1.name, .slice a5 rx.1.args.length c5] 48 ∧ Blk w8.drew V3 #[.string (vrN 84 m), .slice none 0 0] 48 := ⟨VF8.out.1, VX8.out.1, VV8.out.1⟩
   refine wp_region_held_drew (S := fun w' => Blk w' V1 #[.string rf.1.name, .slice a3 rf.1.args.length c3] 48 ∧ Blk w' V2 #[.string rx.1.name, .slice a5 rx.1.args.length c5] 48 ∧ Blk w' V3 #[.string (vrN 84 m), .slice none 0 0] 48) (by kernel_rfl) kd (fun hHeld => ?_)
   refine tkq (v := ?_) 0 rfl ?_ ?_
   rotate_left
   ·intro w' hSw
    go_simp <;> with_reducible rfl
   try simp only [Act.put, sq]
   refine tkq (v := ?_) 1 rfl ?_ ?_
   rotate_left
   ·intro w' hSw
    go_simp <;> with_reducible rfl
   try simp only [Act.put, sq]
   refine tkq (v := ?_) 2 rfl ?_ ?_
   rotate_left
   ·intro w' hSw
    go_simp <;> with_reducible rfl
   try simp only [Act.put, sq]
   refine tkq (v := ?_) 3 rfl ?_ ?_
   rotate_left
   ·intro w' hSw
    go_simp <;> with_reducible rfl
   try simp only [Act.put, sq]
   refine tkq (v := ?_) 5 rfl ?_ ?_
   rotate_left
   ·intro w' hSw
    obtain ⟨⟨y0, y1⟩, ⟨y2, y3⟩, y4, y5⟩ := KS.out w' hSw
    go_simp <;> with_reducible rfl
   try simp only [Act.put, sq]
   refine tkq (v := ?_) 6 rfl ?_ ?_
   rotate_left
   ·intro w' hSw
    obtain ⟨⟨y0, y1⟩, ⟨y2, y3⟩, y4, y5⟩ := KS.out w' hSw
    go_simp <;> with_reducible rfl
   try simp only [Act.put, sq]
   refine tkq (v := ?_) 7 rfl ?_ ?_
   rotate_left
   ·intro w' hSw
    obtain ⟨⟨y0, y1⟩, ⟨y2, y3⟩, y4, y5⟩ := KS.out w' hSw
    go_simp <;> with_reducible rfl
   try simp only [Act.put, sq]
   refine wpAnyH_ready (rs := [4, 8]) (by kernel_rfl) (by simp) ?_
   refine AllReadyH.cons rfl (fun K hK => ?_) (AllReadyH.cons rfl (fun K hK => ?_) AllReadyH.nil)
   ·have p0 : w8.cell? ⟨P, 0, none⟩ = some q5 := K8.out.box.cell 0
    go_simp
    refine hK.out _ _ (by exact kd) (fun hHeld => ?_)
    clear hK K
    try simp only [Act.put, sq]
    clear p0
    refine rdq 8 rfl fun K hK => ?_
    go_simp
    go_at_call 35
    refine (arrowR_any rx.1 (vrT 84 m) _ _ _ (Zq (fun b => E b ∨ b = w.heap.size + 1) N P q5) ⟨_, _, rfl, SX8.out.later (Below.refl _ _).drew⟩ ⟨none, 0, rfl, by simp [vrT], Or.inl rfl⟩).mono ?_
    rintro e w9 ⟨v9, rfl, ⟨a9, c9, rfl, hs9⟩, hb9⟩
    rw [show (arT rx.1 (vrT 84 m)).name = ⟨#[102]⟩ from rfl, show (arT rx.1 (vrT 84 m)).args.length = 2 from rfl]
    have hb9 : Below w8.heap.size w8 w9 := (Below.refl w8.heap.size w8).drew.trans hb9
    have K9 := hide (K8.out.later hb9)
    have F9 := hide (F8.out.then hb9)
    have SF9 := hide (SF8.out.later hb9)
    have R9 := hide (R8.out.later hb9)
    have VF9 := hide (VF8.out.later hb9)
    have VX9 := hide (VX8.out.later hb9)
    have VV9 := hide (VV8.out.later hb9)
    have SA9 : Hid (Sl w9 (Zq (fun b => E b ∨ b = w.heap.size + 1) N P q5) a9 (arT rx.1 (vrT 84 m)).args) := hs9.mono fun b hb _ => hb.elim id (zq_alloc K8.out HE8.out b)
    have k9 : Blk w9 V1 #[.string rf.1.name, .slice a3 rf.1.args.length c3] 48 ∧ Blk w9 V2 #[.string rx.1.name, .slice a5 rx.1.args.length c5] 48 ∧ Blk w9 V3 #[.string (vrN 84 m), .slice none 0 0] 48 := ⟨VF9.out.1, VX9.out.1, VV9.out.1⟩
    clear hs9 hb9
    go_simp
    refine hK.out _ _ (by exact k9) (fun hHeld => ?_)
    clear hK K
    try simp only [Act.put, sq]
    refine tkq (v := ?_) 9 rfl ?_ ?_
    rotate_left
    ·intro w' hSw
     go_simp <;> with_reducible rfl
    try simp only [Act.put, sq]
    refine rdq 10 rfl fun K hK => ?_
    go_simp
    have kA : Blk (w9.alloc (.cells #[.string rf.1.name, .slice a3 rf.1.args.length c3, .string ⟨#[102]⟩, .slice a9 2 c9] 75)) V1 #[.string rf.1.name, .slice a3 rf.1.args.length c3] 48 ∧ Blk (w9.alloc (.cells #[.string rf.1.name, .slice a3 rf.1.args.length c3, .string ⟨#[102]⟩, .slice a9 2 c9] 75)) V2 #[.string rx.1.name, .slice a5 rx.1.args.length c5] 48 ∧ Blk (w9.alloc (.cells #[.string rf.1.name, .slice a3 rf.1.args.length c3, .string ⟨#[102]⟩, .slice a9 2 c9] 75)) V3 #[.string (vrN 84 m), .slice none 0 0] 48 := ⟨k9.1.alloc _, k9.2.1.alloc _, k9.2.2.alloc _⟩
    refine hK.out _ _ (by exact kA) (fun hHeld => ?_)
    clear hK K
    try simp only [Act.put, sq]
    obtain ⟨g, cap, wB, hap, hst, hexB, hboxB⟩ := app_pairK (⟨⟨rf.1, arT rx.1 (vrT 84 m)⟩, (a3, c3), (a9, c9)⟩ : Pc) K9.out (by omega) ⟨SF9.out, SA9.out⟩
    have HAP := hide hap
    have kB : Blk wB V1 #[.string rf.1.name, .slice a3 rf.1.args.length c3] 48 ∧ Blk wB V2 #[.string rx.1.name, .slice a5 rx.1.args.length c5] 48 ∧ Blk wB V3 #[.string (vrN 84 m), .slice none 0 0] 48 := ⟨VF9.out.1.exq hexB (fun e => e.elim VF9.out.2.1 VF9.out.2.2), VX9.out.1.exq hexB (fun e => e.elim VX9.out.2.1 VX9.out.2.2), VV9.out.1.exq hexB (fun e => e.elim VV9.out.2.1 VV9.out.2.2)⟩
    clear hap
    refine rdq 11 rfl fun K hK => ?_
    refine step_append_eqM rfl _ _ _ _ rfl rfl rfl HAP.out ?_
    refine hK.out _ _ (by exact kB) (fun hHeld => ?_)
    clear hK K
    try simp only [Act.put, sq]
    have p0 : wB.cell? ⟨P, 0, none⟩ = some q5 := hboxB.cell 0
    have pf : wB.frozen? ⟨P, 0, none⟩ = false := hboxB.frozen 0
    obtain ⟨KC, FC⟩ := hst _ rfl
    have kC : Blk (wB.setCell ⟨P, 0, none⟩ (.slice (some ⟨g, 0, none⟩) (cs5.length + 1) cap)) V1 #[.string rf.1.name, .slice a3 rf.1.args.length c3] 48 ∧ Blk (wB.setCell ⟨P, 0, none⟩ (.slice (some ⟨g, 0, none⟩) (cs5.length + 1) cap)) V2 #[.string rx.1.name, .slice a5 rx.1.args.length c5] 48 ∧ Blk (wB.setCell ⟨P, 0, none⟩ (.slice (some ⟨g, 0, none⟩) (cs5.length + 1) cap)) V3 #[.string (vrN 84 m), .slice none 0 0] 48 := ⟨kB.1.setOther 0 _ VF9.out.2.1, kB.2.1.setOther 0 _ VX9.out.2.1, kB.2.2.setOther 0 _ VV9.out.2.1⟩
    refine tkq (v := ?_) 12 rfl ?_ ?_
    rotate_left
    ·intro w' hSw
     go_simp <;> with_reducible rfl
    try simp only [Act.put, sq]
    refine tkq (v := ?_) 13 rfl ?_ ?_
    rotate_left
    ·intro w' hSw
     go_simp <;> with_reducible rfl
    try simp only [Act.put, sq]
    refine rdq 14 rfl fun K hK => ?_
    go_simp
    refine hK.out _ _ (by exact kC) (fun hHeld => ?_)
    clear hK K
    try simp only [Act.put, sq]
    refine wpAnyH_done (by kernel_rfl) ?_ _
    have R10 := hide (FC.bq R9.out)
    have F10 := hide (F9.out.trans FC)
    have K10 := hide KC
    clear KC FC hst hexB hboxB p0 pf
    generalize (wB.setCell ⟨P, 0, none⟩ (.slice (some ⟨g, 0, none⟩) (cs5.length + 1) cap)) = w10 at *
    generalize (Value.slice (some ⟨g, 0, none⟩) (cs5.length + 1) cap) = q10 at *
    have v0 := kC.2.2.cell 0
    have v1 := kC.2.2.cell 1
    simp only [List.getElem?_toArray, List.getElem?_cons_zero, List.getElem?_cons_succ] at v0 v1
    have r0 := R10.out.1.c0
    have r1 := R10.out.1.c1
    have f0 : w10.frozen? ⟨w.heap.size + 1, 0, none⟩ = false := R10.out.1.frozen 0
    have f1 : w10.frozen? ⟨w.heap.size + 1, 1, none⟩ = false := R10.out.1.frozen 1
    go_wp2_with fail
    obtain ⟨K11, F11, R11, S11⟩ := K10.out.store F10.out R10.out (by omega) (.string (vrN 84 m)) (.slice none 0 0) (a := none) (l := []) ⟨by simp, Or.inl rfl⟩
    generalize ((w10.setCell ⟨w.heap.size + 1, 0, none⟩ (.string (vrN 84 m))).setCell ⟨w.heap.size + 1, 1, none⟩ (.slice none 0 0)) = w11 at *
    have c0 := R11.cell 0
    have c1 := R11.cell 1
    simp only [List.getElem?_toArray, List.getElem?_cons_zero, List.getElem?_cons_succ] at c0 c1
    refine bodyPost_ret (v := .agg #[.string (vrN 84 m), .slice none 0 0]) (by simp [results, Tryz.results12, go_sem, c0, c1]) rfl ?_
    refine ⟨none, 0, q10, cs5 ++ [⟨⟨rf.1, arT rx.1 (vrT 84 m)⟩, (a3, c3), (a9, c9)⟩], ?_, ?_, ?_, ?_, F11⟩
    ·rw [HF.out]; rfl
    ·rw [HF.out]; exact S11
    ·rw [HF.out]; exact K11
    ·rw [HF.out, List.map_append, M5.out, M3.out]; simp
   ·go_simp
    go_at_call 35
    refine (arrowR_any rx.1 (vrT 84 m) _ _ _ (Zq (fun b => E b ∨ b = w.heap.size + 1) N P q5) ⟨_, _, rfl, SX8.out.later (Below.refl _ _).drew⟩ ⟨none, 0, rfl, by simp [vrT], Or.inl rfl⟩).mono ?_
    rintro e w9 ⟨v9, rfl, ⟨a9, c9, rfl, hs9⟩, hb9⟩
    rw [show (arT rx.1 (vrT 84 m)).name = ⟨#[102]⟩ from rfl, show (arT rx.1 (vrT 84 m)).args.length = 2 from rfl]
    have hb9 : Below w8.heap.size w8 w9 := (Below.refl w8.heap.size w8).drew.trans hb9
    have K9 := hide (K8.out.later hb9)
    have F9 := hide (F8.out.then hb9)
    have SF9 := hide (SF8.out.later hb9)
    have R9 := hide (R8.out.later hb9)
    have VF9 := hide (VF8.out.later hb9)
    have VX9 := hide (VX8.out.later hb9)
    have VV9 := hide (VV8.out.later hb9)
    have SA9 : Hid (Sl w9 (Zq (fun b => E b ∨ b = w.heap.size + 1) N P q5) a9 (arT rx.1 (vrT 84 m)).args) := hs9.mono fun b hb _ => hb.elim id (zq_alloc K8.out HE8.out b)
    have k9 : Blk w9 V1 #[.string rf.1.name, .slice a3 rf.1.args.length c3] 48 ∧ Blk w9 V2 #[.string rx.1.name, .slice a5 rx.1.args.length c5] 48 ∧ Blk w9 V3 #[.string (vrN 84 m), .slice none 0 0] 48 := ⟨VF9.out.1, VX9.out.1, VV9.out.1⟩
    clear hs9 hb9
    go_simp
    refine hK.out _ _ (by exact k9) (fun hHeld => ?_)
    clear hK K
    try simp only [Act.put, sq]
    refine tkq (v := ?_) 9 rfl ?_ ?_
    rotate_left
    ·intro w' hSw
     go_simp <;> with_reducible rfl
    try simp only [Act.put, sq]
    refine wpAnyH_ready (rs := [4, 10]) (by kernel_rfl) (by simp) ?_
    refine AllReadyH.cons rfl (fun K hK => ?_) (AllReadyH.cons rfl (fun K hK => ?_) AllReadyH.nil)
    ·have p0 : w9.cell? ⟨P, 0, none⟩ = some q5 := K9.out.box.cell 0
     go_simp
     refine hK.out _ _ (by exact k9) (fun hHeld => ?_)
     clear hK K
     try simp only [Act.put, sq]
     clear p0
     refine rdq 10 rfl fun K hK => ?_
     go_simp
     have kA : Blk (w9.alloc (.cells #[.string rf.1.name, .slice a3 rf.1.args.length c3, .string ⟨#[102]⟩, .slice a9 2 c9] 75)) V1 #[.string rf.1.name, .slice a3 rf.1.args.length c3] 48 ∧ Blk (w9.alloc (.cells #[.string rf.1.name, .slice a3 rf.1.args.length c3, .string ⟨#[102]⟩, .slice a9 2 c9] 75)) V2 #[.string rx.1.name, .slice a5 rx.1.args.length c5] 48 ∧ Blk (w9.alloc (.cells #[.string rf.1.name, .slice a3 rf.1.args.length c3, .string ⟨#[102]⟩, .slice a9 2 c9] 75)) V3 #[.string (vrN 84 m), .slice none 0 0] 48 := ⟨k9.1.alloc _, k9.2.1.alloc _, k9.2.2.alloc _⟩
     refine hK.out _ _ (by exact kA) (fun hHeld => ?_)
     clear hK K
     try simp only [Act.put, sq]
     obtain ⟨g, cap, wB, hap, hst, hexB, hboxB⟩ := app_pairK (⟨⟨rf.1, arT rx.1 (vrT 84 m)⟩, (a3, c3), (a9, c9)⟩ : Pc) K9.out (by omega) ⟨SF9.out, SA9.out⟩
     have HAP := hide hap
     have kB : Blk wB V1 #[.string rf.1.name, .slice a3 rf.1.args.length c3] 48 ∧ Blk wB V2 #[.string rx.1.name, .slice a5 rx.1.args.length c5] 48 ∧ Blk wB V3 #[.string (vrN 84 m), .slice none 0 0] 48 := ⟨VF9.out.1.exq hexB (fun e => e.elim VF9.out.2.1 VF9.out.2.2), VX9.out.1.exq hexB (fun e => e.elim VX9.out.2.1 VX9.out.2.2), VV9.out.1.exq hexB (fun e => e.elim VV9.out.2.1 VV9.out.2.2)⟩
     clear hap
     refine rdq 11 rfl fun K hK => ?_
     refine step_append_eqM rfl _ _ _ _ rfl rfl rfl HAP.out ?_
     refine hK.out _ _ (by exact kB) (fun hHeld => ?_)
     clear hK K
     try simp only [Act.put, sq]
     have p0 : wB.cell? ⟨P, 0, none⟩ = some q5 := hboxB.cell 0
     have pf : wB.frozen? ⟨P, 0, none⟩ = false := hboxB.frozen 0
     obtain ⟨KC, FC⟩ := hst _ rfl
     have kC : Blk (wB.setCell ⟨P, 0, none⟩ (.slice (some ⟨g, 0, none⟩) (cs5.length + 1) cap)) V1 #[.string rf.1.name, .slice a3 rf.1.args.length c3] 48 ∧ Blk (wB.setCell ⟨P, 0, none⟩ (.slice (some ⟨g, 0, none⟩) (cs5.length + 1) cap)) V2 #[.string rx.1.name, .slice a5 rx.1.args.length c5] 48 ∧ Blk (wB.setCell ⟨P, 0, none⟩ (.slice (some ⟨g, 0, none⟩) (cs5.length + 1) cap)) V3 #[.string (vrN 84 m), .slice none 0 0] 48 := ⟨kB.1.setOther 0 _ VF9.out.2.1, kB.2.1.setOther 0 _ VX9.out.2.1, kB.2.2.setOther 0 _ VV9.out.2.1⟩
     refine tkq (v := ?_) 12 rfl ?_ ?_
     rotate_left
     ·intro w' hSw
      go_simp <;> with_reducible rfl
     try simp only [Act.put, sq]
     refine tkq (v := ?_) 13 rfl ?_ ?_
     rotate_left
     ·intro w' hSw
      go_simp <;> with_reducible rfl
     try simp only [Act.put, sq]
     refine rdq 14 rfl fun K hK => ?_
     go_simp
     refine hK.out _ _ (by exact kC) (fun hHeld => ?_)
     clear hK K
     try simp only [Act.put, sq]
     refine wpAnyH_done (by kernel_rfl) ?_ _
     have R10 := hide (FC.bq R9.out)
     have F10 := hide (F9.out.trans FC)
     have K10 := hide KC
     clear KC FC hst hexB hboxB p0 pf
     generalize (wB.setCell ⟨P, 0, none⟩ (.slice (some ⟨g, 0, none⟩) (cs5.length + 1) cap)) = w10 at *
     generalize (Value.slice (some ⟨g, 0, none⟩) (cs5.length + 1) cap) = q10 at *
     have v0 := kC.2.2.cell 0
     have v1 := kC.2.2.cell 1
     simp only [List.getElem?_toArray, List.getElem?_cons_zero, List.getElem?_cons_succ] at v0 v1
     have r0 := R10.out.1.c0
     have r1 := R10.out.1.c1
     have f0 : w10.frozen? ⟨w.heap.size + 1, 0, none⟩ = false := R10.out.1.frozen 0
     have f1 : w10.frozen? ⟨w.heap.size + 1, 1, none⟩ = false := R10.out.1.frozen 1
     go_wp2_with fail
     obtain ⟨K11, F11, R11, S11⟩ := K10.out.store F10.out R10.out (by omega) (.string (vrN 84 m)) (.slice none 0 0) (a := none) (l := []) ⟨by simp, Or.inl rfl⟩
     generalize ((w10.setCell ⟨w.heap.size + 1, 0, none⟩ (.string (vrN 84 m))).setCell ⟨w.heap.size + 1, 1, none⟩ (.slice none 0 0)) = w11 at *
     have c0 := R11.cell 0
     have c1 := R11.cell 1
     simp only [List.getElem?_toArray, List.getElem?_cons_zero, List.getElem?_cons_succ] at c0 c1
     refine bodyPost_ret (v := .agg #[.string (vrN 84 m), .slice none 0 0]) (by simp [results, Tryz.results12, go_sem, c0, c1]) rfl ?_
     refine ⟨none, 0, q10, cs5 ++ [⟨⟨rf.1, arT rx.1 (vrT 84 m)⟩, (a3, c3), (a9, c9)⟩], ?_, ?_, ?_, ?_, F11⟩
     ·rw [HF.out]; rfl
     ·rw [HF.out]; exact S11
     ·rw [HF.out]; exact K11
     ·rw [HF.out, List.map_append, M5.out, M3.out]; simp
    ·go_simp
     have kA : Blk (w9.alloc (.cells #[.string rf.1.name, .slice a3 rf.1.args.length c3, .string ⟨#[102]⟩, .slice a9 2 c9] 75)) V1 #[.string rf.1.name, .slice a3 rf.1.args.length c3] 48 ∧ Blk (w9.alloc (.cells #[.string rf.1.name, .slice a3 rf.1.args.length c3, .string ⟨#[102]⟩, .slice a9 2 c9] 75)) V2 #[.string rx.1.name, .slice a5 rx.1.args.length c5] 48 ∧ Blk (w9.alloc (.cells #[.string rf.1.name, .slice a3 rf.1.args.length c3, .string ⟨#[102]⟩, .slice a9 2 c9] 75)) V3 #[.string (vrN 84 m), .slice none 0 0] 48 := ⟨k9.1.alloc _, k9.2.1.alloc _, k9.2.2.alloc _⟩
     refine hK.out _ _ (by exact kA) (fun hHeld => ?_)
     clear hK K
     try simp only [Act.put, sq]
     refine rdq 4 rfl fun K hK => ?_
     have p0 : (w9.alloc (.cells #[.string rf.1.name, .slice a3 rf.1.args.length c3, .string ⟨#[102]⟩, .slice a9 2 c9] 75)).cell? ⟨P, 0, none⟩ = some q5 := (K9.out.later ((Below.refl _ _).alloc (Nat.le_refl _) (.cells #[.string rf.1.name, .slice a3 rf.1.args.length c3, .string ⟨#[102]⟩, .slice a9 2 c9] 75))).box.cell 0
     go_simp
     refine hK.out _ _ (by exact kA) (fun hHeld => ?_)
     clear hK K
     try simp only [Act.put, sq]
     clear p0
     obtain ⟨g, cap, wB, hap, hst, hexB, hboxB⟩ := app_pairK (⟨⟨rf.1, arT rx.1 (vrT 84 m)⟩, (a3, c3), (a9, c9)⟩ : Pc) K9.out (by omega) ⟨SF9.out, SA9.out⟩
     have HAP := hide hap
     have kB : Blk wB V1 #[.string rf.1.name, .slice a3 rf.1.args.length c3] 48 ∧ Blk wB V2 #[.string rx.1.name, .slice a5 rx.1.args.length c5] 48 ∧ Blk wB V3 #[.string (vrN 84 m), .slice none 0 0] 48 := ⟨VF9.out.1.exq hexB (fun e => e.elim VF9.out.2.1 VF9.out.2.2), VX9.out.1.exq hexB (fun e => e.elim VX9.out.2.1 VX9.out.2.2), VV9.out.1.exq hexB (fun e => e.elim VV9.out.2.1 VV9.out.2.2)⟩
     clear hap
     refine rdq 11 rfl fun K hK => ?_
     refine step_append_eqM rfl _ _ _ _ rfl rfl rfl HAP.out ?_
     refine hK.out _ _ (by exact kB) (fun hHeld => ?_)
     clear hK K
     try simp only [Act.put, sq]
     have p0 : wB.cell? ⟨P, 0, none⟩ = some q5 := hboxB.cell 0
     have pf : wB.frozen? ⟨P, 0, none⟩ = false := hboxB.frozen 0
     obtain ⟨KC, FC⟩ := hst _ rfl
     have kC : Blk (wB.setCell ⟨P, 0, none⟩ (.slice (some ⟨g, 0, none⟩) (cs5.length + 1) cap)) V1 #[.string rf.1.name, .slice a3 rf.1.args.length c3] 48 ∧ Blk (wB.setCell ⟨P, 0, none⟩ (.slice (some ⟨g, 0, none⟩) (cs5.length + 1) cap)) V2 #[.string rx.1.name, .slice a5 rx.1.args.length c5] 48 ∧ Blk (wB.setCell ⟨P, 0, none⟩ (.slice (some ⟨g, 0, none⟩) (cs5.length + 1) cap)) V3 #[.string (vrN 84 m), .slice none 0 0] 48 := ⟨kB.1.setOther 0 _ VF9.out.2.1, kB.2.1.setOther 0 _ VX9.out.2.1, kB.2.2.setOther 0 _ VV9.out.2.1⟩
     refine tkq (v := ?_) 12 rfl ?_ ?_
     rotate_left
     ·intro w' hSw
      go_simp <;> with_reducible rfl
     try simp only [Act.put, sq]
     refine tkq (v := ?_) 13 rfl ?_ ?_
     rotate_left
     ·intro w' hSw
      go_simp <;> with_reducible rfl
     try simp only [Act.put, sq]
     refine rdq 14 rfl fun K hK => ?_
     go_simp
     refine hK.out _ _ (by exact kC) (fun hHeld => ?_)
     clear hK K
     try simp only [Act.put, sq]
     refine wpAnyH_done (by kernel_rfl) ?_ _
     have R10 := hide (FC.bq R9.out)
     have F10 := hide (F9.out.trans FC)
     have K10 := hide KC
     clear KC FC hst hexB hboxB p0 pf
     generalize (wB.setCell ⟨P, 0, none⟩ (.slice (some ⟨g, 0, none⟩) (cs5.length + 1) cap)) = w10 at *
     generalize (Value.slice (some ⟨g, 0, none⟩) (cs5.length + 1) cap) = q10 at *
     have v0 := kC.2.2.cell 0
     have v1 := kC.2.2.cell 1
     simp only [List.getElem?_toArray, List.getElem?_cons_zero, List.getElem?_cons_succ] at v0 v1
     have r0 := R10.out.1.c0
     have r1 := R10.out.1.c1
     have f0 : w10.frozen? ⟨w.heap.size + 1, 0, none⟩ = false := R10.out.1.frozen 0
     have f1 : w10.frozen? ⟨w.heap.size + 1, 1, none⟩ = false := R10.out.1.frozen 1
     go_wp2_with fail
     obtain ⟨K11, F11, R11, S11⟩ := K10.out.store F10.out R10.out (by omega) (.string (vrN 84 m)) (.slice none 0 0) (a := none) (l := []) ⟨by simp, Or.inl rfl⟩
     generalize ((w10.setCell ⟨w.heap.size + 1, 0, none⟩ (.string (vrN 84 m))).setCell ⟨w.heap.size + 1, 1, none⟩ (.slice none 0 0)) = w11 at *
     have c0 := R11.cell 0
     have c1 := R11.cell 1
     simp only [List.getElem?_toArray, List.getElem?_cons_zero, List.getElem?_cons_succ] at c0 c1
     refine bodyPost_ret (v := .agg #[.string (vrN 84 m), .slice none 0 0]) (by simp [results, Tryz.results12, go_sem, c0, c1]) rfl ?_
     refine ⟨none, 0, q10, cs5 ++ [⟨⟨rf.1, arT rx.1 (vrT 84 m)⟩, (a3, c3), (a9, c9)⟩], ?_, ?_, ?_, ?_, F11⟩
     ·rw [HF.out]; rfl
     ·rw [HF.out]; exact S11
     ·rw [HF.out]; exact K11
     ·rw [HF.out, List.map_append, M5.out, M3.out]; simp
  ·cases e
   rw [csL_one] at hc
   simp at hc
theorem ixB_at {s : ByteArray} : ∀ {l : List ByteArray} (h : ixB s l < l.length), l[ixB s l] = s
 | [], h => by simp [ixB] at h
 | n :: r, h => by
  by_cases e : n = s
  ·subst e
   simp [ixB]
  ·have e2 : ixB s (n :: r) = ixB s r + 1 := by simp [ixB, e]
   have h2 : ixB s r < r.length := by rw [e2] at h; simpa using h
   simp only [e2, List.getElem_cons_succ]
   exact ixB_at h2
theorem ixB_ne {s : ByteArray} : ∀ {l : List ByteArray} {k : Nat} (hk : k < ixB s l) (h : k < l.length), l[k] ≠ s
 | [], _, hk, _ => by simp [ixB] at hk
 | n :: r, k, hk, h => by
  by_cases e : n = s
  ·simp [ixB, e] at hk
  ·have e2 : ixB s (n :: r) = ixB s r + 1 := by simp [ixB, e]
   cases k with
   | zero => simpa using e
   | succ k =>
    simp only [List.getElem_cons_succ]
    exact ixB_ne (by omega) (by simpa using h)
theorem str_neI {a b : ByteArray} (h : a ≠ b) : (a.toList == b.toList) = false := by
 rw [beq_eq_false_iff_ne]
 intro e
 apply h
 have h1 := congrArg List.toArray e
 rw [ByteArray.toList_eq, ByteArray.toList_eq] at h1
 cases a; cases b
 simpa using h1
theorem pre_arI {p q k : Tm} (h : k ∈ preL [p] ∨ k ∈ preL [q]) : k ∈ preL [(⟨⟨#[102]⟩, [p, q]⟩ : Tm)] := by
 have h1 : preL [p, q] = preL [p] ++ preL [q] := by
  have := preL_append [p] [q]
  simpa using this
 simp only [preL] at *
 rw [h1]
 simp
 exact Or.inr h
def AyP (t : Tm) (ns : List ByteArray) (w : World) (e : Ending) (w' : World) : Prop :=
 ∃ a c, e = .returned (.agg #[.int .i64 (ayT ns t).base, .slice a (ayT ns t).subs.length c]) ∧ SlY w' (fun b => w.heap.size ≤ b) a (ayT ns t).subs ∧ Below w.heap.size w w'
set_option maxHeartbeats 8000000 in
theorem asType_any {ns : List ByteArray} (hnl : ns.length ≤ 100000) (t : Tm) : ∀ (v nv : Value) (w : World) (X Y : Nat → Prop), KnL [t] → (∀ k ∈ preL [t], k.args = [] → k.name ∈ ns) → TV w X v t → LV Value.string w Y nv ns →
  Calls Tryz.prog 15 #[v, nv] w fun e w' => AyP t ns w e w' := by
 induction t using Tm.ind with
 | h s0 l0 ih =>
  intro v nv w X Y hk hin hv hn
  have IH := hide ih
  clear ih
  obtain ⟨a, c, rfl, hs⟩ := hv
  have HNV := hide hn
  obtain ⟨na, nc, rfl, -, hn2⟩ := hn
  have B2 : Hid (Below w.heap.size w ((w.alloc (.cells #[.string s0, .slice a l0.length c] 48)).alloc (.cells #[.int .i64 0, .slice none 0 0] 30))) := ((Below.refl _ _).alloc (Nat.le_refl _) _).alloc (by simp) _
  have A2 : Hid (Blk ((w.alloc (.cells #[.string s0, .slice a l0.length c] 48)).alloc (.cells #[.int .i64 0, .slice none 0 0] 30)) w.heap.size #[.string s0, .slice a l0.length c] 48) := (Blk.new _ _ _).alloc _
  have R2 : Hid (Blk ((w.alloc (.cells #[.string s0, .slice a l0.length c] 48)).alloc (.cells #[.int .i64 0, .slice none 0 0] 30)) (w.heap.size + 1) #[.int .i64 0, .slice none 0 0] 30) := by have h := Blk.new (w.alloc (.cells #[.string s0, .slice a l0.length c] 48)) #[.int .i64 0, .slice none 0 0] 30; rw [World.size_alloc] at h; exact h
  rcases kn_look hk with ⟨hvb, ht⟩ | ⟨p, q, ht, hkp, hkq⟩
  ·have hl0 : l0 = [] := by injection ht
   subst hl0
   have hmem : s0 ∈ ns := hin ⟨s0, []⟩ (by simp [preL]) rfl
   have hix := ixB_lt hmem
   rcases hn2 with rfl | ⟨nb, no, rfl, hnY, hcells⟩
   ·simp at hmem
   have KN : Hid (∀ w', Below w.heap.size w w' → ∀ i (h : i < ns.length), w'.cell? ⟨nb, no + i, none⟩ = some (.string ns[i])) := fun w' hb i h => cell_later hb (hcells i h)
   clear hk hvb ht hs IH hin hcells hmem
   simp only [List.length_nil] at *
   go_enter Tryz.func15, Tryz.ntmps15
   go_upto_region 1 with fail
   generalize ((w.alloc (.cells #[.string s0, .slice a 0 c] 48)).alloc (.cells #[.int .i64 0, .slice none 0 0] 30)) = w2 at *
   have x1 := A2.out.c1
   have x0 := A2.out.c0
   have hnl1 := hnl
   go_wp2_with fail
   go_loopw [5] (fun o wr => ∃ k : Nat, k ≤ ixB s0 ns ∧ o = .int .i64 (k : Int) ∧ Below w2.heap.size w2 wr) (fun o wr => ns.length - (intOf o).toNat)
   case atStart => exact ⟨0, Nat.zero_le _, rfl, Below.refl _ _⟩
   case round =>
    obtain ⟨k, hk, rfl, hbr⟩ := hrel
    have HBR := hide hbr
    have hkl : k < ns.length := by omega
    have y0 := KN.out wr (B2.out.trans (hbr.mono B2.out.size)) k hkl
    have hkl2 : (k : Int) < (ns.length : Int) := by omega
    have A3 := hide (A2.out.below hbr A2.out.lt)
    have R3 := hide (R2.out.below hbr R2.out.lt)
    have x0 := A3.out.c0
    clear hbr
    by_cases he : k = ixB s0 ns
    ·have hns : ns[k] = s0 := by subst he; exact ixB_at hkl
     rw [hns] at y0
     have HK := hide he
     have r0 := R3.out.c0
     have r1 := R3.out.c1
     have f0 : wr.frozen? ⟨w.heap.size + 1, 0, none⟩ = false := R3.out.frozen 0
     have f1 : wr.frozen? ⟨w.heap.size + 1, 1, none⟩ = false := R3.out.frozen 1
     clear he hns hk
     go_wp2_with fail
     go_quiet (fail)
     have R4 : Hid (Blk (wr.drewN nq) (w.heap.size + 1) #[.int .i64 0, .slice none 0 0] 30) := R3.out.drewN nq
     have B4 : Hid (Below w2.heap.size w2 (wr.drewN nq)) := below_drewN HBR.out nq
     generalize wr.drewN nq = w4 at *
     have r0 := R4.out.c0
     have r1 := R4.out.c1
     have f0 : w4.frozen? ⟨w.heap.size + 1, 0, none⟩ = false := R4.out.frozen 0
     have f1 : w4.frozen? ⟨w.heap.size + 1, 1, none⟩ = false := R4.out.frozen 1
     go_wp2_with fail
     have R5 : Hid (Blk ((w4.setCell ⟨w.heap.size + 1, 0, none⟩ (.int .i64 (k : Int))).setCell ⟨w.heap.size + 1, 1, none⟩ (.slice none 0 0)) (w.heap.size + 1) #[.int .i64 (k : Int), .slice none 0 0] 30) := (R4.out.set 0 _).set 1 _
     have B5 : Hid (Below w.heap.size w ((w4.setCell ⟨w.heap.size + 1, 0, none⟩ (.int .i64 (k : Int))).setCell ⟨w.heap.size + 1, 1, none⟩ (.slice none 0 0))) := belSetI (belSetI (B2.out.trans (B4.out.mono B2.out.size)) (by omega) 0 _) (by omega) 1 _
     generalize ((w4.setCell ⟨w.heap.size + 1, 0, none⟩ (.int .i64 (k : Int))).setCell ⟨w.heap.size + 1, 1, none⟩ (.slice none 0 0)) = w5 at *
     have c0 := R5.out.cell 0
     have c1 := R5.out.cell 1
     simp only [List.getElem?_toArray, List.getElem?_cons_zero, List.getElem?_cons_succ] at c0 c1
     refine bodyPost_ret (v := .agg #[.int .i64 (k : Int), .slice none 0 0]) (by simp [results, Tryz.results15, go_sem, c0, c1]) rfl ?_
     refine ⟨none, 0, ?_, ?_, B5.out⟩
     ·rw [ayT_leaf, HK.out]; rfl
     ·rw [ayT_leaf]; exact ⟨by simp, Or.inl rfl⟩
    ·have hk3 : k < ixB s0 ns := by omega
     have hne := str_neI (ixB_ne hk3 hkl)
     clear he
     go_wp2_with fail
     go_quiet (fail)
     go_wp2_with fail
     go_roundw
     case rel => exact ⟨k + 1, by omega, by go_num, below_drewN HBR.out nq⟩
     case measure => simp [intOf]; omega
  ·injection ht with e1 e2
   subst e1
   subst e2
   obtain ⟨b', o', a1, c1, a2, c2, rfl, hKP⟩ := slT_two hs
   have KP : Hid (∀ w', Below w.heap.size w w' → _) := fun w' hb => hKP w' (fun _ => False) (ExQ.ofBelow hb) (fun _ _ h => h)
   clear hKP hs hk hn2
   have hip : ∀ k ∈ preL [p], k.args = [] → k.name ∈ ns := fun k hk => hin k (pre_arI (Or.inl hk))
   have hiq : ∀ k ∈ preL [q], k.args = [] → k.name ∈ ns := fun k hk => hin k (pre_arI (Or.inr hk))
   have IP := hide (fun v w' h1 h2 => IH.out p (by simp) v (.slice na ns.length nc) w' X Y hkp hip h1 h2)
   have IQ := hide (fun v w' h1 h2 => IH.out q (by simp) v (.slice na ns.length nc) w' X Y hkq hiq h1 h2)
   clear IH hip hiq hin
   have e2 : ([p, q] : List Tm).length = 2 := rfl
   rw [e2] at *
   clear e2
   have HAY := hide (ayT_ar ns p q)
   change Calls Tryz.prog _ _ _ (fun e w' => AyP (arT p q) ns w e w')
   go_enter Tryz.func15, Tryz.ntmps15
   go_upto_region 1 with fail
   generalize ((w.alloc (.cells #[.string ⟨#[102]⟩, .slice (some ⟨b', o', none⟩) 2 c] 48)).alloc (.cells #[.int .i64 0, .slice none 0 0] 30)) = w2 at *
   have x1 := A2.out.c1
   go_wp2_with fail
   clear x1
   have gR : Hid (w.heap.size + 1 < w2.heap.size) := R2.out.lt
   have KS : Hid (∀ w', (Blk w' w.heap.size #[.string ⟨#[102]⟩, .slice (some ⟨b', o', none⟩) 2 c] 48 ∧ Below w.heap.size w w') → w'.cell? ⟨w.heap.size, 1, none⟩ = some (.slice (some ⟨b', o', none⟩) 2 c) ∧ w'.cell? ⟨b', o', none⟩ = some (.string p.name) ∧ w'.cell? ⟨b', o' + 1, none⟩ = some (.slice a1 p.args.length c1) ∧ w'.cell? ⟨b', o' + 2, none⟩ = some (.string q.name) ∧ w'.cell? ⟨b', o' + 2 + 1, none⟩ = some (.slice a2 q.args.length c2)) := fun w' h => ⟨h.1.cell 1, (KP.out w' h.2).1⟩
   have kd : Blk w2.drew w.heap.size #[.string ⟨#[102]⟩, .slice (some ⟨b', o', none⟩) 2 c] 48 ∧ Below w.heap.size w w2.drew := ⟨A2.out, B2.out.drew⟩
   refine wp_region_held_drew (S := fun w' => Blk w' w.heap.size #[.string ⟨#[102]⟩, .slice (some ⟨b', o', none⟩) 2 c] 48 ∧ Below w.heap.size w w') (by kernel_rfl) kd (fun hHeld => ?_)
   refine tkq (v := ?_) 0 rfl ?_ ?_
   rotate_left
   ·intro w' hSw
    go_simp <;> with_reducible rfl
   try simp only [Act.put, sq]
   refine tkq (v := ?_) 1 rfl ?_ ?_
   rotate_left
   ·intro w' hSw
    obtain ⟨y0, y1, y2, y3, y4⟩ := KS.out w' hSw
    go_simp <;> with_reducible rfl
   try simp only [Act.put, sq]
   refine tkq (v := ?_) 2 rfl ?_ ?_
   rotate_left
   ·intro w' hSw
    go_simp <;> with_reducible rfl
   try simp only [Act.put, sq]
   refine tkq (v := ?_) 3 rfl ?_ ?_
   rotate_left
   ·intro w' hSw
    obtain ⟨y0, y1, y2, y3, y4⟩ := KS.out w' hSw
    go_simp <;> with_reducible rfl
   try simp only [Act.put, sq]
   refine tkq (v := ?_) 4 rfl ?_ ?_
   rotate_left
   ·intro w' hSw
    go_simp <;> with_reducible rfl
   try simp only [Act.put, sq]
   refine tkq (v := ?_) 6 rfl ?_ ?_
   rotate_left
   ·intro w' hSw
    go_simp <;> with_reducible rfl
   try simp only [Act.put, sq]
   refine tkq (v := ?_) 7 rfl ?_ ?_
   rotate_left
   ·intro w' hSw
    obtain ⟨y0, y1, y2, y3, y4⟩ := KS.out w' hSw
    go_simp <;> with_reducible rfl
   try simp only [Act.put, sq]
   refine tkq (v := ?_) 8 rfl ?_ ?_
   rotate_left
   ·intro w' hSw
    go_simp <;> with_reducible rfl
   try simp only [Act.put, sq]
   refine tkq (v := ?_) 9 rfl ?_ ?_
   rotate_left
   ·intro w' hSw
    obtain ⟨y0, y1, y2, y3, y4⟩ := KS.out w' hSw
    go_simp <;> with_reducible rfl
   try simp only [Act.put, sq]
   refine tkq (v := ?_) 10 rfl ?_ ?_
   rotate_left
   ·intro w' hSw
    go_simp <;> with_reducible rfl
   try simp only [Act.put, sq]
   refine rdq 5 rfl fun K hK => ?_
   go_simp
   go_at_call 15
   refine (IP.out _ w2.drew (KP.out w2.drew kd.2).2.1 (HNV.out.later kd.2)).mono ?_
   rintro e w4 ⟨a4, c4, rfl, hs4, hb4⟩
   obtain ⟨TP, hTP⟩ : ∃ TP, TP = ayT ns p := ⟨_, rfl⟩
   rw [← hTP] at hs4 HAY ⊢
   clear hTP
   have O4 : Hid (Below w2.heap.size w2 w4) := ((Below.refl w2.heap.size w2).drew).trans hb4
   have S4 : Hid (SlY w4 (fun b => w2.heap.size ≤ b) a4 TP.subs) := hs4.mono fun b hb _ => hb
   have k4 : Blk w4 w.heap.size #[.string ⟨#[102]⟩, .slice (some ⟨b', o', none⟩) 2 c] 48 ∧ Below w.heap.size w w4 := ⟨A2.out.below O4.out A2.out.lt, B2.out.trans (O4.out.mono B2.out.size)⟩
   clear hs4 hb4
   go_simp
   refine hK.out _ _ (by exact k4) (fun hHeld => ?_)
   clear hK K
   try simp only [Act.put, sq]
   refine rdq 11 rfl fun K hK => ?_
   go_simp
   go_at_call 15
   refine (IQ.out _ w4 (KP.out w4 k4.2).2.2 (HNV.out.later k4.2)).mono ?_
   rintro e w6 ⟨a6, c6, rfl, hs6, hb6⟩
   obtain ⟨TQ, hTQ⟩ : ∃ TQ, TQ = ayT ns q := ⟨_, rfl⟩
   rw [← hTQ] at hs6 HAY ⊢
   clear hTQ
   have O6 : Hid (Below w2.heap.size w2 w6) := O4.out.trans (hb6.mono O4.out.size)
   have SP6 := hide (S4.out.later hb6)
   have SQ6 : Hid (SlY w6 (fun b => w2.heap.size ≤ b) a6 TQ.subs) := hs6.mono fun b hb _ => Nat.le_trans O4.out.size hb
   have k6 : Blk w6 w.heap.size #[.string ⟨#[102]⟩, .slice (some ⟨b', o', none⟩) 2 c] 48 ∧ Below w.heap.size w w6 := ⟨A2.out.below O6.out A2.out.lt, B2.out.trans (O6.out.mono B2.out.size)⟩
   clear hs6 hb6 S4
   go_simp
   refine hK.out _ _ (by exact k6) (fun hHeld => ?_)
   clear hK K
   try simp only [Act.put, sq]
   have O7 : Hid (Below w6.heap.size w6 (w6.alloc (.cells #[.int .i64 TP.base, .slice a4 TP.subs.length c4, .int .i64 TQ.base, .slice a6 TQ.subs.length c6] 30))) := (Below.refl _ _).alloc (Nat.le_refl _) _
   have k7 : Blk (w6.alloc (.cells #[.int .i64 TP.base, .slice a4 TP.subs.length c4, .int .i64 TQ.base, .slice a6 TQ.subs.length c6] 30)) w.heap.size #[.string ⟨#[102]⟩, .slice (some ⟨b', o', none⟩) 2 c] 48 ∧ Below w.heap.size w (w6.alloc (.cells #[.int .i64 TP.base, .slice a4 TP.subs.length c4, .int .i64 TQ.base, .slice a6 TQ.subs.length c6] 30)) := ⟨k6.1.alloc _, k6.2.trans (O7.out.mono k6.2.size)⟩
   have C7 : Hid (Blk (w6.alloc (.cells #[.int .i64 TP.base, .slice a4 TP.subs.length c4, .int .i64 TQ.base, .slice a6 TQ.subs.length c6] 30)) w6.heap.size #[.int .i64 TP.base, .slice a4 TP.subs.length c4, .int .i64 TQ.base, .slice a6 TQ.subs.length c6] 30) := Blk.new _ _ _
   refine rdq 12 rfl fun K hK => ?_
   go_simp
   refine hK.out _ _ (by exact k7) (fun hHeld => ?_)
   clear hK K
   try simp only [Act.put, sq]
   refine tkq (v := ?_) 13 rfl ?_ ?_
   rotate_left
   ·intro w' hSw
    go_simp <;> with_reducible rfl
   try simp only [Act.put, sq]
   have R7 := hide (R2.out.below (O6.out.trans (O7.out.mono O6.out.size)) R2.out.lt)
   have SP7 := hide (SP6.out.later O7.out)
   have SQ7 := hide (SQ6.out.later O7.out)
   have g67 : Hid (w2.heap.size ≤ w6.heap.size) := O6.out.size
   generalize w6.alloc (.cells #[.int .i64 TP.base, .slice a4 TP.subs.length c4, .int .i64 TQ.base, .slice a6 TQ.subs.length c6] 30) = w7 at *
   generalize w6.heap.size = G at *
   have r0 := R7.out.c0
   have r1 := R7.out.c1
   have f0 : w7.frozen? ⟨w.heap.size + 1, 0, none⟩ = false := R7.out.frozen 0
   have f1 : w7.frozen? ⟨w.heap.size + 1, 1, none⟩ = false := R7.out.frozen 1
   have k8 : Blk ((w7.setCell ⟨w.heap.size + 1, 0, none⟩ (.int .i64 0)).setCell ⟨w.heap.size + 1, 1, none⟩ (.slice (some ⟨G, 0, none⟩) 2 2)) w.heap.size #[.string ⟨#[102]⟩, .slice (some ⟨b', o', none⟩) 2 c] 48 ∧ Below w.heap.size w ((w7.setCell ⟨w.heap.size + 1, 0, none⟩ (.int .i64 0)).setCell ⟨w.heap.size + 1, 1, none⟩ (.slice (some ⟨G, 0, none⟩) 2 2)) := ⟨(k7.1.setOther 0 _ (by omega)).setOther 1 _ (by omega), belSetI (belSetI k7.2 (by omega) 0 _) (by omega) 1 _⟩
   refine rdq 14 rfl fun K hK => ?_
   go_simp
   refine hK.out _ _ (by exact k8) (fun hHeld => ?_)
   clear hK K
   try simp only [Act.put, sq]
   refine wpAnyH_done (by kernel_rfl) ?_ _
   have R8 : Hid (Blk ((w7.setCell ⟨w.heap.size + 1, 0, none⟩ (.int .i64 0)).setCell ⟨w.heap.size + 1, 1, none⟩ (.slice (some ⟨G, 0, none⟩) 2 2)) (w.heap.size + 1) #[.int .i64 0, .slice (some ⟨G, 0, none⟩) 2 2] 30) := (R7.out.set 0 _).set 1 _
   have SE : Hid (∀ (x : Option Addr) (l : List Ty), SlY w7 (fun b => w2.heap.size ≤ b) x l → SlY ((w7.setCell ⟨w.heap.size + 1, 0, none⟩ (.int .i64 0)).setCell ⟨w.heap.size + 1, 1, none⟩ (.slice (some ⟨G, 0, none⟩) 2 2)) (fun b => w2.heap.size ≤ b) x l) := fun x l h => h.kept fun b hb => by have h1 := gR.out; rw [Below.heap_setCell _ _ _ _ (by simp; omega), Below.heap_setCell _ _ _ _ (by simp; omega)]
   have S8 : Hid (SlY ((w7.setCell ⟨w.heap.size + 1, 0, none⟩ (.int .i64 0)).setCell ⟨w.heap.size + 1, 1, none⟩ (.slice (some ⟨G, 0, none⟩) 2 2)) (fun b => w.heap.size ≤ b) (some ⟨G, 0, none⟩) [TP, TQ]) := liesY_two ((C7.out.setOther 0 _ (by have h1 := gR.out; have h2 := g67.out; omega)).setOther 1 _ (by have h1 := gR.out; have h2 := g67.out; omega)) (by have h1 := gR.out; have h2 := g67.out; omega) ((SE.out _ _ SP7.out).mono fun b hb _ => by have h1 := gR.out; omega) ((SE.out _ _ SQ7.out).mono fun b hb _ => by have h1 := gR.out; omega)
   generalize ((w7.setCell ⟨w.heap.size + 1, 0, none⟩ (.int .i64 0)).setCell ⟨w.heap.size + 1, 1, none⟩ (.slice (some ⟨G, 0, none⟩) 2 2)) = w8 at *
   clear r0 r1 f0 f1
   go_wp2_with fail
   have c0 := R8.out.cell 0
   have c1 := R8.out.cell 1
   simp only [List.getElem?_toArray, List.getElem?_cons_zero, List.getElem?_cons_succ] at c0 c1
   refine bodyPost_ret (v := .agg #[.int .i64 0, .slice (some ⟨G, 0, none⟩) 2 2]) (by simp [results, Tryz.results15, go_sem, c0, c1]) rfl ?_
   refine ⟨some ⟨G, 0, none⟩, 2, ?_, ?_, k8.2⟩
   ·rw [HAY.out]; rfl
   ·rw [HAY.out]; exact S8.out
def flatP : List Pr → List Tm
 | [] => []
 | p :: l => p.l :: p.r :: flatP l
theorem flatP_append : ∀ a b : List Pr, flatP (a ++ b) = flatP a ++ flatP b
 | [], b => rfl
 | p :: a, b => by rw [List.cons_append, flatP, flatP, flatP_append a b]; rfl
theorem size_cons (t : Tm) (r : List Tm) : sizeL (t :: r) = sizeL [t] + sizeL r := by
 obtain ⟨s, l⟩ := t
 simp [sizeL]
theorem err_two {t : Tm} {r : List Tm} : errL (t :: r) = 0 ↔ errL [t] = 0 ∧ errL r = 0 := by
 rw [errL_cons]
 constructor
 ·intro h
  by_cases e : errL [t] = 0
  ·rw [if_pos e] at h; exact ⟨e, h⟩
  ·rw [if_neg e] at h; exact absurd h e
 ·rintro ⟨h1, h2⟩
  rw [if_pos h1]; exact h2
theorem err_append : ∀ {a b : List Tm}, errL (a ++ b) = 0 ↔ errL a = 0 ∧ errL b = 0
 | [], b => by simp [errL]
 | t :: a, b => by
  rw [List.cons_append, err_two, err_append, err_two (r := a), and_assoc]
theorem zip_occ {y : ByteArray} : ∀ {a b : List Tm}, occL y (flatP (zipP a b)) → occL y a ∨ occL y b
 | [], _, h => by simp only [zipP, flatP] at h; exact absurd h occL_nil
 | _ :: _, [], h => by simp only [zipP, flatP] at h; exact absurd h occL_nil
 | t :: a, u :: b, h => by
  rw [zipP, flatP, occL_cons, occL_cons (t := u)] at h
  rw [occL_cons, occL_cons (t := u)]
  rcases h with h | h | h
  ·exact Or.inl (Or.inl h)
  ·exact Or.inr (Or.inl h)
  ·rcases zip_occ h with h | h
   ·exact Or.inl (Or.inr h)
   ·exact Or.inr (Or.inr h)
theorem zip_size : ∀ {a b : List Tm}, sizeL (flatP (zipP a b)) ≤ sizeL a + sizeL b
 | [], _ => by simp [zipP, flatP, sizeL]
 | _ :: _, [] => by simp [zipP, flatP, sizeL]
 | t :: a, u :: b => by
  rw [zipP, flatP]
  have h0 := zip_size (a := a) (b := b)
  have h1 := size_cons t (u :: flatP (zipP a b))
  have h2 := size_cons u (flatP (zipP a b))
  have h3 := size_cons t a
  have h4 := size_cons u b
  simp only at h1 h2 ⊢
  omega
theorem zip_err : ∀ {a b : List Tm}, errL a = 0 → errL b = 0 → errL (flatP (zipP a b)) = 0
 | [], _, _, _ => by simp [zipP, flatP, errL]
 | _ :: _, [], _, _ => by simp [zipP, flatP, errL]
 | t :: a, u :: b, h1, h2 => by
  rw [zipP, flatP]
  obtain ⟨g1, g2⟩ := err_two.1 h1
  obtain ⟨g3, g4⟩ := err_two.1 h2
  exact err_two.2 ⟨g1, err_two.2 ⟨g3, zip_err g2 g4⟩⟩
def occB (y : ByteArray) (l : List Tm) : Bool := (preL l).any fun k => k.name.toList == y.toList
theorem occB_iff {y : ByteArray} {l : List Tm} : occB y l = true ↔ occL y l := by
 unfold occB occL
 rw [List.any_eq_true]
 constructor
 ·rintro ⟨k, hk, e⟩
  exact ⟨k, hk, bytes_inj (by simpa using e)⟩
 ·rintro ⟨k, hk, e⟩
  exact ⟨k, hk, bytes_yes e⟩
def cntV (V : List ByteArray) (l : List Tm) : Nat := (V.filter fun y => occB y l).length
theorem filter_le {α : Type} {p q : α → Bool} : ∀ V : List α, (∀ y ∈ V, q y = true → p y = true) → (V.filter q).length ≤ (V.filter p).length
 | [], _ => by simp
 | v :: V, h => by
  have ih := filter_le V fun y hy => h y (by simp [hy])
  cases hq : q v with
  | true =>
   rw [List.filter_cons_of_pos hq, List.filter_cons_of_pos (h v (by simp) hq)]
   simp only [List.length_cons]
   omega
  | false =>
   rw [List.filter_cons_of_neg (by rw [hq]; simp)]
   cases hp : p v with
   | true => rw [List.filter_cons_of_pos hp]; simp only [List.length_cons]; omega
   | false => rw [List.filter_cons_of_neg (by rw [hp]; simp)]; exact ih
theorem filter_lt {α : Type} {p q : α → Bool} : ∀ V : List α, (∀ y ∈ V, q y = true → p y = true) → (∃ x ∈ V, p x = true ∧ q x = false) → (V.filter q).length < (V.filter p).length
 | [], _, ⟨x, hx, _⟩ => by cases hx
 | v :: V, h, ⟨x, hx, h1, h2⟩ => by
  have hle := filter_le V fun y hy => h y (by simp [hy])
  rcases List.mem_cons.1 hx with rfl | hx
  ·rw [List.filter_cons_of_neg (by rw [h2]; simp), List.filter_cons_of_pos h1]
   simp only [List.length_cons]
   omega
  ·have ih := filter_lt V (fun y hy => h y (by simp [hy])) ⟨x, hx, h1, h2⟩
   cases hq : q v with
   | true =>
    rw [List.filter_cons_of_pos hq, List.filter_cons_of_pos (h v (by simp) hq)]
    simp only [List.length_cons]
    omega
   | false =>
    rw [List.filter_cons_of_neg (by rw [hq]; simp)]
    cases hp : p v with
    | true => rw [List.filter_cons_of_pos hp]; simp only [List.length_cons]; omega
    | false => rw [List.filter_cons_of_neg (by rw [hp]; simp)]; exact ih
theorem not_inB {x : ByteArray} {t : Tm} (hx : varB x = true) (h : ¬ inB x (varsP [] (preL [t])) = true) : ¬ occL x [t] := by
 rintro ⟨k, hk, e⟩
 have h1 := (varsP_has (preL [t]) []).2 k hk (by rw [e]; exact hx)
 refine h ?_
 unfold inB
 rw [List.any_eq_true]
 exact ⟨k.name, h1, bytes_yes e⟩
theorem bind_facts {s : List Bd} {L : List Tm} {x : ByteArray} {t : Tm} (h : OkS s) (hx : varB x = true) (hn : ∀ d ∈ s, d.nm ≠ x) (he : errL [t] = 0) (ht : ∀ e ∈ s, ¬ occL e.nm [t]) (ho : ¬ occL x [t]) (hL : errL L = 0) :
  OkS (addS s x t) ∧ (∀ y, varB y = true → occL y (onL (addS s x t) L) → occL y (onL s L) ∨ occL y [t]) ∧ ¬ occL x (onL (addS s x t) L) := by
 have h1 := h.add hx hn he ht ho
 have h2 := add_on h hx hn h1 L hL
 have key : ∀ y, varB y = true → occL y (onL (addS s x t) L) → (occL y (onL s L) ∧ forT [⟨x, t⟩] y = none) ∨ occL y [t] := fun y hy hoc => by
  rw [h2] at hoc
  rcases occ_on (one_vars hx) hy _ (errL_on2 h L hL) hoc with h3 | ⟨d, hd, _, h4⟩
  ·exact Or.inl h3
  ·have e : d = ⟨x, t⟩ := by simpa using hd
   rw [e] at h4
   exact Or.inr h4
 refine ⟨h1, fun y hy hoc => (key y hy hoc).imp (fun h => h.1) id, fun hoc => ?_⟩
 rcases key x hx hoc with ⟨_, h3⟩ | h3
 ·simp [forT] at h3
 ·exact ho h3
theorem u_ends (V : List ByteArray) : ∀ (c z : Nat) (s : List Bd) (l : List Pr), OkS s → errL (flatP l) = 0 → (∀ y, varB y = true → occL y (onL s (flatP l)) → y ∈ V) → cntV (V.filter varB) (onL s (flatP l)) ≤ c → sizeL (onL s (flatP l)) ≤ z → ∃ n r, uRun false n s l = some r := by
 intro c
 induction c using Nat.strongRecOn with
 | _ c ihc =>
  intro z
  induction z using Nat.strongRecOn with
  | _ z ihz =>
   intro s l hs he hV hc hz
   have stop : ∀ e s', uNext false s l = .stop e s' → ∃ n r, uRun false n s l = some r := fun e s' h => ⟨1, (e, s'), by rw [uRun, h]⟩
   have go : ∀ s' l', uNext false s l = .go s' l' → (∃ n r, uRun false n s' l' = some r) → ∃ n r, uRun false n s l = some r := fun s' l' h ⟨n, r, h2⟩ => ⟨n + 1, r, by rw [uRun, h]; exact h2⟩
   cases l with
   | nil => exact stop 0 s rfl
   | cons p l =>
    obtain ⟨e1, e2⟩ := err_two.1 he
    obtain ⟨e2, e3⟩ := err_two.1 e2
    have ea := errL_onT2 hs e1
    have eb := errL_onT2 hs e2
    have ga := hs.goneT e1
    have gb := hs.goneT e2
    rw [flatP, onL_cons, onL_cons] at hV hc hz
    rw [uNext_cons] at stop go
    generalize onT s p.l = a at *
    generalize onT s p.r = b at *
    have hself : ∀ u : Tm, occL u.name [u] := fun u => by obtain ⟨n, k⟩ := u; exact occL_node.2 (Or.inl rfl)
    have inA : ∀ y, occL y [a] → occL y (a :: b :: onL s (flatP l)) := fun y h => occL_cons.2 (Or.inl h)
    have inBb : ∀ y, occL y [b] → occL y (a :: b :: onL s (flatP l)) := fun y h => occL_cons.2 (Or.inr (occL_cons.2 (Or.inl h)))
    have inL : ∀ y, occL y (onL s (flatP l)) → occL y (a :: b :: onL s (flatP l)) := fun y h => occL_cons.2 (Or.inr (occL_cons.2 (Or.inr h)))
    have hsz : sizeL (a :: b :: onL s (flatP l)) = sizeL [a] + (sizeL [b] + sizeL (onL s (flatP l))) := by rw [size_cons, size_cons b]
    have pa := sizeL_pos a
    have pb := sizeL_pos b
    have same : ∀ l2, errL (flatP l2) = 0 → (∀ y, occL y (onL s (flatP l2)) → occL y (a :: b :: onL s (flatP l))) → sizeL (onL s (flatP l2)) < sizeL (a :: b :: onL s (flatP l)) → ∃ n r, uRun false n s l2 = some r := fun l2 h1 h2 h3 =>
     ihz _ (Nat.lt_of_lt_of_le h3 hz) s l2 hs h1 (fun y hy ho => hV y hy (h2 y ho)) (Nat.le_trans (filter_le _ fun y hy hq => occB_iff.2 (h2 y (occB_iff.1 hq))) hc) (Nat.le_refl _)
    have bind : ∀ x t, varB x = true → (∀ d ∈ s, d.nm ≠ x) → errL [t] = 0 → (∀ e ∈ s, ¬ occL e.nm [t]) → occL x (a :: b :: onL s (flatP l)) → (∀ y, occL y [t] → occL y (a :: b :: onL s (flatP l))) → uPair false s l a b = uBind false s l x t → ∃ n r, uRun false n s (p :: l) = some r := fun x t hx hn het ht hox hot h => by
     unfold uBind at h
     by_cases hin : inB x (varsP [] (preL [t])) = true
     ·rw [if_pos hin] at h
      exact stop 6 s h
     ·rw [if_neg hin, if_neg (by simp)] at h
      have ho := not_inB hx hin
      obtain ⟨f1, f2, f3⟩ := bind_facts (L := flatP l) hs hx hn het ht ho e3
      have f2' : ∀ y, varB y = true → occL y (onL (addS s x t) (flatP l)) → occL y (a :: b :: onL s (flatP l)) := fun y hy hoc => (f2 y hy hoc).elim (inL y) (hot y)
      have hlt : cntV (V.filter varB) (onL (addS s x t) (flatP l)) < c := by
       refine Nat.lt_of_lt_of_le (filter_lt _ (fun y hy hq => occB_iff.2 (f2' y (List.mem_filter.1 hy).2 (occB_iff.1 hq))) ⟨x, List.mem_filter.2 ⟨hV x hx hox, hx⟩, occB_iff.2 hox, ?_⟩) hc
       cases hq : occB x (onL (addS s x t) (flatP l)) with
       | false => rfl
       | true => exact absurd (occB_iff.1 hq) f3
      exact go _ l h (ihc _ hlt _ _ _ f1 e3 (fun y hy hoc => hV y hy (f2' y hy hoc)) (Nat.le_refl _) (Nat.le_refl _))
    by_cases h1 : 2000 < sizeL [a] ∨ 2000 < sizeL [b]
    ·exact stop 8 s (by unfold uPair; rw [if_pos h1])
    ·by_cases h2 : varB a.name = true
     ·by_cases h3 : a.name = b.name
      ·exact go s l (by unfold uPair; rw [if_neg h1, if_pos h2, if_pos h3]) (same l e3 inL (by omega))
      ·exact bind a.name b h2 (fun d hd e => ga d hd (by rw [e]; exact hself a)) eb gb (inA _ (hself a)) inBb (by unfold uPair; rw [if_neg h1, if_pos h2, if_neg h3])
     ·by_cases h3 : varB b.name = true
      ·exact bind b.name a h3 (fun d hd e => gb d hd (by rw [e]; exact hself b)) ea ga (inBb _ (hself b)) inA (by unfold uPair; rw [if_neg h1, if_neg h2, if_pos h3])
      ·by_cases h4 : a.name = b.name ∧ a.args.length = b.args.length
       ·refine go s (zipP a.args b.args ++ l) (by unfold uPair; rw [if_neg h1, if_neg h2, if_neg h3, if_pos h4]) ?_
        have sub : ∀ (u : Tm) y, occL y u.args → occL y [u] := fun u y h => by obtain ⟨n, k⟩ := u; exact occL_node.2 (Or.inr (Or.inl h))
        have erg : ∀ u : Tm, errL [u] = 0 → errL u.args = 0 := fun u h => by obtain ⟨n, k⟩ := u; exact (errL_parts h).2.1
        have szg : ∀ u : Tm, sizeL [u] = 1 + sizeL u.args := fun u => by obtain ⟨n, k⟩ := u; simp [sizeL]
        have hfl : onL s (flatP (zipP a.args b.args ++ l)) = flatP (zipP a.args b.args) ++ onL s (flatP l) := by
         rw [flatP_append, onL_append, onL_id]
         intro e hm hoc
         rcases zip_occ hoc with hoc | hoc
         ·exact ga e hm (sub a _ hoc)
         ·exact gb e hm (sub b _ hoc)
        refine same _ ?_ ?_ ?_
        ·rw [flatP_append]
         exact err_append.2 ⟨zip_err (erg a ea) (erg b eb), e3⟩
        ·intro y hoc
         rw [hfl] at hoc
         rcases occL_append.1 hoc with hoc | hoc
         ·rcases zip_occ hoc with hoc | hoc
          ·exact inA y (sub a y hoc)
          ·exact inBb y (sub b y hoc)
         ·exact inL y hoc
        ·rw [hfl, sizeL_append, hsz, szg a, szg b]
         have := zip_size (a := a.args) (b := b.args)
         omega
       ·exact stop 5 s (by unfold uPair; rw [if_neg h1, if_neg h2, if_neg h3, if_neg h4])
theorem u_ends0 (l : List Pr) (h : errL (flatP l) = 0) : ∃ n r, uRun false n [] l = some r := by
 refine u_ends ((preL (onL [] (flatP l))).map (·.name)) _ _ [] l okS_nil h (fun y _ hoc => ?_) (Nat.le_refl _) (Nat.le_refl _)
 obtain ⟨k, hk, e⟩ := hoc
 exact List.mem_map.2 ⟨k, hk, e⟩
def sAt (h : List (ByteArray × Tm)) : List Bd := h.foldl (fun s p => addS s p.1 p.2) []
theorem sAt_snoc (h : List (ByteArray × Tm)) (p : ByteArray × Tm) : sAt (h ++ [p]) = addS (sAt h) p.1 p.2 := by simp [sAt]
theorem sAt_take {h : List (ByteArray × Tm)} {j : Nat} (hj : j < h.length) : sAt (h.take (j + 1)) = addS (sAt (h.take j)) h[j].1 h[j].2 := by
 rw [List.take_succ_eq_append_getElem hj, sAt_snoc]
def MayAdd (s : List Bd) (x : ByteArray) (t : Tm) : Prop := varB x = true ∧ (∀ d ∈ s, d.nm ≠ x) ∧ errL [t] = 0 ∧ (∀ e ∈ s, ¬ occL e.nm [t]) ∧ ¬ occL x [t]
def GoodH (h : List (ByteArray × Tm)) : Prop := ∀ j (hj : j < h.length), MayAdd (sAt (h.take j)) h[j].1 h[j].2
theorem goodH_nil : GoodH [] := fun j hj => by simp at hj
theorem GoodH.snoc {h : List (ByteArray × Tm)} (g : GoodH h) {x : ByteArray} {t : Tm} (m : MayAdd (sAt h) x t) : GoodH (h ++ [(x, t)]) := by
 intro j hj
 by_cases e : j < h.length
 ·have h1 := g j e
  rw [List.take_append_of_le_length (by omega)]
  rw [List.getElem_append_left e]
  exact h1
 ·have e2 : j = h.length := by simp at hj; omega
  subst e2
  rw [List.take_append_of_le_length (by omega), List.take_length]
  simpa using m
theorem GoodH.ok {h : List (ByteArray × Tm)} (g : GoodH h) : ∀ j, j ≤ h.length → OkS (sAt (h.take j))
 | 0, _ => by simpa [sAt] using okS_nil
 | j + 1, hj => by
  rw [sAt_take (by omega)]
  obtain ⟨m1, m2, m3, m4, m5⟩ := g j (by omega)
  exact (g.ok j (by omega)).add m1 m2 m3 m4 m5
theorem GoodH.all {h : List (ByteArray × Tm)} (g : GoodH h) : OkS (sAt h) := by
 have := g.ok h.length (Nat.le_refl _)
 rwa [List.take_length] at this
theorem GoodH.absorb {h : List (ByteArray × Tm)} (g : GoodH h) {i : Nat} : ∀ j, i ≤ j → j ≤ h.length → ∀ L : List Tm, errL L = 0 → onL (sAt (h.take j)) (onL (sAt (h.take i)) L) = onL (sAt (h.take j)) L
 | 0, hi, _, L, he => by
  have e : i = 0 := by omega
  subst e
  exact (g.ok 0 (Nat.zero_le _)).idem he
 | j + 1, hi, hj, L, he => by
  by_cases e : i = j + 1
  ·subst e
   exact (g.ok _ hj).idem he
  ·have ih := g.absorb (i := i) j (by omega) (by omega) L he
   have o1 := g.ok j (by omega)
   have o2 := g.ok (j + 1) hj
   have hjl2 : j < h.length := by omega
   obtain ⟨m1, m2, _⟩ := g j hjl2
   rw [sAt_take (h := h) (j := j) (by omega)] at o2 ⊢
   rw [add_on o1 m1 m2 o2 _ (errL_on2 (g.ok i (by omega)) L he), add_on o1 m1 m2 o2 L he, ih]
theorem GoodH.bound {h : List (ByteArray × Tm)} (g : GoodH h) : ∀ j, j ≤ h.length → ∀ y, (∃ d ∈ sAt (h.take j), d.nm = y) ↔ ∃ i, ∃ hi : i < h.length, i < j ∧ h[i].1 = y
 | 0, _, y => by simp [sAt]
 | j + 1, hj, y => by
  have ih := g.bound j (by omega) y
  rw [sAt_take (by omega)]
  have hp := srtB_perm ((sAt (h.take j)).map (putB h[j].1 h[j].2) ++ [⟨h[j].1, h[j].2⟩])
  constructor
  ·rintro ⟨d, hd, e⟩
   rcases List.mem_append.1 (hp.subset hd) with hd | hd
   ·obtain ⟨d0, h0, rfl⟩ := List.mem_map.1 hd
    obtain ⟨i, hi, h1, h2⟩ := ih.1 ⟨d0, h0, e⟩
    exact ⟨i, hi, by omega, h2⟩
   ·have e2 : d = ⟨h[j].1, h[j].2⟩ := by simpa using hd
    rw [e2] at e
    exact ⟨j, by omega, by omega, e⟩
  ·rintro ⟨i, hi, h1, h2⟩
   by_cases e : i = j
   ·subst e
    exact ⟨⟨h[i].1, h[i].2⟩, hp.symm.subset (by simp), h2⟩
   ·obtain ⟨d0, h0, e0⟩ := ih.2 ⟨i, hi, by omega, h2⟩
    exact ⟨putB h[j].1 h[j].2 d0, hp.symm.subset (List.mem_append.2 (Or.inl (List.mem_map.2 ⟨d0, h0, rfl⟩))), e0⟩
theorem GoodH.once {h : List (ByteArray × Tm)} (g : GoodH h) {i j : Nat} (hi : i < h.length) (hj : j < h.length) (e : h[i].1 = h[j].1) : i = j := by
 have key : ∀ a b (ha : a < h.length) (hb : b < h.length), a < b → h[a].1 ≠ h[b].1 := fun a b ha hb hab e => by
  obtain ⟨d, hd, e1⟩ := (g.bound b (by omega) h[a].1).2 ⟨a, ha, hab, rfl⟩
  exact (g b hb).2.1 d hd (e1.trans e)
 rcases Nat.lt_trichotomy i j with h1 | h1 | h1
 ·exact absurd e (key i j hi hj h1)
 ·exact h1
 ·exact absurd e.symm (key j i hj hi h1)
def stood (h : List (ByteArray × Tm)) (i j : Nat) (hi : i < h.length) : Tm := onT (sAt (h.take j)) ⟨h[i].1, []⟩
theorem onT_absorb {h : List (ByteArray × Tm)} (g : GoodH h) {i j : Nat} (hij : i ≤ j) (hj : j ≤ h.length) {t : Tm} (he : errL [t] = 0) : onT (sAt (h.take j)) (onT (sAt (h.take i)) t) = onT (sAt (h.take j)) t := by
 have h1 := g.absorb j hij hj [t] he
 rw [onL_cons, onL_cons, onL_cons] at h1
 simpa [onL] using h1
theorem stood_on {h : List (ByteArray × Tm)} (g : GoodH h) {i j : Nat} (hi : i < h.length) (hj : j ≤ h.length) (hn : nameB h[i].1 = true) : onT (sAt h) (stood h i j hi) = stood h i h.length hi := by
 have h1 := onT_absorb g hj (Nat.le_refl _) (err_leaf hn)
 unfold stood
 rw [List.take_length] at h1 ⊢
 exact h1
theorem stood_later {h : List (ByteArray × Tm)} (g : GoodH h) {i j k : Nat} (hi : i < h.length) (hj : j ≤ h.length) (hn : nameB h[i].1 = true) (hk : k < h.length) (ho : occL h[k].1 [stood h i j hi]) : j ≤ k := by
 rcases Nat.lt_or_ge k j with h1 | h1
 ·obtain ⟨d, hd, e⟩ := (g.bound j hj h[k].1).2 ⟨k, hk, h1, rfl⟩
  have h2 := (g.ok j hj).goneT (err_leaf hn) d hd
  rw [e] at h2
  exact absurd ho h2
 ·exact h1
end Go.Proofs.YthnncjgjmohinaaGreatDoor
