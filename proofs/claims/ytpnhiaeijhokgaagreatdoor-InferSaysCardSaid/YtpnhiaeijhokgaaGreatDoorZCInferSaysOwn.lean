/- Several texts in one. -/
import Derived.Test.YtpnhiaeijhokgaaGreatDoorZInferSaysOwn
import Derived.Test.YtpnhiaeijhokgaaGreatDoorZBInferSaysOwn
namespace Go.Proofs.YtpnhiaeijhokgaaGreatDoor
open Go.RowKit
set_option linter.unusedSimpArgs false
set_option linter.unusedVariables false
set_option maxRecDepth 8000
def shY : List Ty → Prop
 | [] => True
 | ⟨_, l⟩ :: r => (l = [] ∨ l.length = 2) ∧ shY l ∧ shY r
theorem shY_cons (t : Ty) (r : List Ty) : shY (t :: r) ↔ (t.subs = [] ∨ t.subs.length = 2) ∧ shY t.subs ∧ shY r := by
 obtain ⟨x, l⟩ := t
 simp only [shY]
theorem shY_look {x : Int} {l : List Ty} (h : shY [⟨x, l⟩]) : l = [] ∨ ∃ p q, l = [p, q] ∧ shY [p] ∧ shY [q] := by
 rw [shY_cons] at h
 obtain ⟨h1, h2, _⟩ := h
 rcases h1 with h1 | h1
 ·exact Or.inl h1
 ·have h1' : l.length = 2 := h1
  match l, h1', h2 with
  | [p, q], _, h2 =>
   rw [shY_cons] at h2
   have h3 := h2.2.2
   exact Or.inr ⟨p, q, rfl, (shY_cons p []).2 ⟨h2.1, h2.2.1, by simp [shY]⟩, h3⟩
def CsR (w : World) (X : Nat → Prop) : List (Int × Value) → List (Int × Ty) → Prop
 | [], [] => True
 | p :: r, q :: s => (p.1 = q.1 ∧ YV w X p.2 q.2) ∧ CsR w X r s
 | _, _ => False
def CsM (w : World) (r : Nat) (X : Nat → Prop) (σ : List (Int × Ty)) : Prop := ∃ L, MapI w r L ∧ CsR w X L σ
theorem YV.exq {w w' : World} {Q X : Nat → Prop} {v : Value} {t : Ty} (h : YV w X v t) (he : ExQ Q w w') (hX : ∀ b, X b → ¬ Q b) : YV w' X v t := by
 obtain ⟨a, c, e, hs⟩ := h
 exact ⟨a, c, e, hs.exq he hX⟩
theorem CsR.exq {w w' : World} {Q X : Nat → Prop} (he : ExQ Q w w') (hX : ∀ b, X b → ¬ Q b) : ∀ {L : List (Int × Value)} {σ : List (Int × Ty)}, CsR w X L σ → CsR w' X L σ
 | [], [], _ => trivial
 | [], _ :: _, h => h.elim
 | _ :: _, [], h => h.elim
 | p :: r, q :: s, h => ⟨⟨h.1.1, h.1.2.exq he hX⟩, CsR.exq he hX h.2⟩
theorem CsM.exq {w w' : World} {Q X : Nat → Prop} {r : Nat} {σ : List (Int × Ty)} (h : CsM w r X σ) (he : ExQ Q w w') (hX : ∀ b, X b → ¬ Q b) (hr : ¬ Q r) : CsM w' r X σ := by
 obtain ⟨L, h1, h2⟩ := h
 exact ⟨L, h1.kept (he.block r h1.lt hr), h2.exq he hX⟩
theorem CsM.later {w w' : World} {X : Nat → Prop} {r : Nat} {σ : List (Int × Ty)} (h : CsM w r X σ) (hb : Below w.heap.size w w') : CsM w' r X σ := h.exq (ExQ.ofBelow (Q := fun _ => False) hb) (fun _ _ h => h) (fun h => h)
theorem CsM.lt {w : World} {X : Nat → Prop} {r : Nat} {σ : List (Int × Ty)} (h : CsM w r X σ) : r < w.heap.size := by
 obtain ⟨L, h1, _⟩ := h
 exact h1.lt
theorem CsR.get {w : World} {X : Nat → Prop} (n : Int) : ∀ {L : List (Int × Value)} {σ : List (Int × Ty)}, CsR w X L σ → (lkY σ n = none → mapGetI L n = none) ∧ ∀ t, lkY σ n = some t → ∃ v, mapGetI L n = some v ∧ YV w X v t
 | [], [], _ => ⟨fun _ => rfl, fun t h => by simp [lkY] at h⟩
 | [], _ :: _, h => h.elim
 | _ :: _, [], h => h.elim
 | p :: r, q :: s, h => by
  obtain ⟨⟨h1, h2⟩, h3⟩ := h
  have ih := CsR.get n h3
  simp only [lkY, mapGetI]
  by_cases e : q.1 = n
  ·rw [if_pos e, if_pos (h1.trans e)]
   refine ⟨fun h => absurd h (by simp), fun t ht => ?_⟩
   rw [Option.some.injEq] at ht
   exact ht ▸ ⟨_, rfl, h2⟩
  ·rw [if_neg e, if_neg (fun e2 => e (h1.symm.trans e2))]
   exact ih
theorem CsR.push {w : World} {X : Nat → Prop} {n : Int} {v : Value} {t : Ty} (hv : YV w X v t) : ∀ {L : List (Int × Value)} {σ : List (Int × Ty)}, CsR w X L σ → CsR w X (L ++ [(n, v)]) (σ ++ [(n, t)])
 | [], [], _ => ⟨⟨rfl, hv⟩, trivial⟩
 | [], _ :: _, h => h.elim
 | _ :: _, [], h => h.elim
 | p :: r, q :: s, h => ⟨h.1, CsR.push hv h.2⟩
theorem slY_twoE {w : World} {X : Nat → Prop} {a : Option Addr} {p r : Ty} (h : SlY w X a [p, r]) :
  ∃ b' o' a1 c1 a2 c2, a = some ⟨b', o', none⟩ ∧ ∀ w' Q, ExQ Q w w' → (∀ b, X b → ¬ Q b) → (w'.cell? ⟨b', o', none⟩ = some (.int .i64 p.base) ∧ w'.cell? ⟨b', o' + 1, none⟩ = some (.slice a1 p.subs.length c1) ∧ w'.cell? ⟨b', o' + 2, none⟩ = some (.int .i64 r.base) ∧ w'.cell? ⟨b', o' + 2 + 1, none⟩ = some (.slice a2 r.subs.length c2)) ∧ YV w' X (.agg #[.int .i64 p.base, .slice a1 p.subs.length c1]) p ∧ YV w' X (.agg #[.int .i64 r.base, .slice a2 r.subs.length c2]) r := by
 obtain ⟨_, h | ⟨b', o', rfl, hl⟩⟩ := h
 ·simp at h
 obtain ⟨hx, d0, a1, c1, d1, hs1⟩ := liesY_get _ _ _ hl 0 (by simp)
 obtain ⟨_, d2, a2, c2, d3, hs2⟩ := liesY_get _ _ _ hl 1 (by simp)
 have hlt : b' < w.heap.size := by
  apply Classical.byContradiction
  intro hn
  have e : w.heap[b']? = none := Array.getElem?_eq_none (by omega)
  simp [World.cell?, e] at d0
 refine ⟨b', o', a1, c1, a2, c2, rfl, fun w' Q he hQ => ⟨?_, ⟨a1, c1, rfl, hs1.exq he hQ⟩, ⟨a2, c2, rfl, hs2.exq he hQ⟩⟩⟩
 have e : ∀ o, w'.cell? ⟨b', o, none⟩ = w.cell? ⟨b', o, none⟩ := fun o => World.cell?_of_block (he.block b' hlt (hQ b' hx))
 rw [e, e, e, e]
 exact ⟨by simpa using d0, by simpa using d1, by simpa using d2, by simpa using d3⟩
structure Fit (w : World) (S F r : Nat) : Prop where
 s : Blk w S #[.map (some r)] 95
 f : Blk w F #[.func (.func 55) #[] #[.pointer (some ⟨S, 0, none⟩), .pointer (some ⟨F, 0, none⟩)]] 39
 sr : S ≠ r
 fr : F ≠ r
theorem Fit.exq {w w' : World} {S F r : Nat} (h : Fit w S F r) (he : ExQ (fun b => b = r) w w') : Fit w' S F r := ⟨h.s.exq he h.sr, h.f.exq he h.fr, h.sr, h.fr⟩
def FtP (p t : Ty) (σ : List (Int × Ty)) (r : Nat) (X : Nat → Prop) (w : World) (e : Ending) (w' : World) : Prop := e = .returned (.bool (cyT p t σ).1) ∧ CsM w' r X (cyT p t σ).2 ∧ ExQ (fun b => b = r) w w'
set_option maxHeartbeats 8000000 in
theorem fits_any (S F r : Nat) (p : Ty) : ∀ (t : Ty) (σ : List (Int × Ty)) (v u : Value) (w : World) (Z X : Nat → Prop), shY [p] → YV w Z v p → YV w X u t → (∀ b, Z b → b ≠ r) → (∀ b, X b → b ≠ r) → CsM w r X σ → Fit w S F r →
  Calls Tryz.prog 55 #[v, u, .pointer (some ⟨S, 0, none⟩), .pointer (some ⟨F, 0, none⟩)] w fun e w' => FtP p t σ r X w e w' := by
 induction p using Ty.ind with
 | h x0 l0 ih =>
  intro t σ v u w Z X hsh hv hu hZ hX hM hF
  have IH := hide ih
  clear ih
  obtain ⟨a, c, rfl, hs⟩ := hv
  have HU := hide hu
  obtain ⟨a', c', rfl, hs'⟩ := hu
  have HX := hide hX
  have HZ := hide hZ
  have hMl := hM.lt
  have B2 : Hid (Below w.heap.size w ((w.alloc (.cells #[.int .i64 x0, .slice a l0.length c] 27)).alloc (.cells #[.int .i64 t.base, .slice a' t.subs.length c'] 27))) := ((Below.refl _ _).alloc (Nat.le_refl _) _).alloc (by simp) _
  have A2 : Hid (Blk ((w.alloc (.cells #[.int .i64 x0, .slice a l0.length c] 27)).alloc (.cells #[.int .i64 t.base, .slice a' t.subs.length c'] 27)) w.heap.size #[.int .i64 x0, .slice a l0.length c] 27) := (Blk.new _ _ _).alloc _
  have C2 : Hid (Blk ((w.alloc (.cells #[.int .i64 x0, .slice a l0.length c] 27)).alloc (.cells #[.int .i64 t.base, .slice a' t.subs.length c'] 27)) (w.heap.size + 1) #[.int .i64 t.base, .slice a' t.subs.length c'] 27) := by have h := Blk.new (w.alloc (.cells #[.int .i64 x0, .slice a l0.length c] 27)) #[.int .i64 t.base, .slice a' t.subs.length c'] 27; rw [World.size_alloc] at h; exact h
  have M2 := hide (hM.later B2.out)
  have F2 := hide (hF.exq (ExQ.ofBelow B2.out))
  have HV2 := hide (HU.out.later B2.out)
  rcases shY_look hsh with rfl | ⟨p, q, rfl, hp, hq⟩
  ·clear IH hs hsh hM hF
   simp only [List.length_nil] at *
   go_enter Tryz.func55, Tryz.ntmps55
   go_upto_region 1 with fail
   generalize ((w.alloc (.cells #[.int .i64 x0, .slice a 0 c] 27)).alloc (.cells #[.int .i64 t.base, .slice a' t.subs.length c'] 27)) = w2 at *
   have x0' := A2.out.c0
   have x1' := A2.out.c1
   have z0 := C2.out.c0
   have z1 := C2.out.c1
   have s0 := F2.out.s.c0
   obtain ⟨L, hL1, hL2⟩ := M2.out
   have hg := hL2.get x0
   have hzv := Tryz.zeroValue27 w2
   cases hlk : lkY σ x0 with
   | some y =>
    obtain ⟨vy, hvy, hyv⟩ := hg.2 y hlk
    have HYV := hide hyv
    obtain ⟨ay, cy, rfl, -⟩ := hyv
    have hlook : (Instr.lookup 95 (.map (some r)) (.int .i64 x0) true).run Tryz.prog w2 = .ok (.tuple #[.agg #[.int .i64 y.base, .slice ay y.subs.length cy], .bool true]) w2 := by rw [run_lookI (P := Tryz.prog) Tryz.underlying95 Tryz.underlying3 hzv hL1 _, hvy]; rfl
    have HC := hide (cyT_old (t := t) hlk)
    have q0 : (w2.alloc (.cells #[.int .i64 y.base, .slice ay y.subs.length cy] 27)).cell? ⟨w.heap.size + 1, 0, none⟩ = some (.int .i64 t.base) := (C2.out.alloc _).cell 0
    have q1 : (w2.alloc (.cells #[.int .i64 y.base, .slice ay y.subs.length cy] 27)).cell? ⟨w.heap.size + 1, 1, none⟩ = some (.slice a' t.subs.length c') := (C2.out.alloc _).cell 1
    have q2 : (w2.alloc (.cells #[.int .i64 y.base, .slice ay y.subs.length cy] 27)).cell? ⟨w.heap.size, 0, none⟩ = some (.int .i64 x0) := (A2.out.alloc _).cell 0
    have q3 : (w2.alloc (.cells #[.int .i64 y.base, .slice ay y.subs.length cy] 27)).cell? ⟨w.heap.size, 1, none⟩ = some (.slice a 0 c) := (A2.out.alloc _).cell 1
    have q4 : (w2.alloc (.cells #[.int .i64 y.base, .slice ay y.subs.length cy] 27)).cell? ⟨S, 0, none⟩ = some (.map (some r)) := (F2.out.s.alloc _).cell 0
    clear hlk hg hvy hzv hL1 hL2
    go_wp2_with fail
    refine (isSameY_any y t _ _ _ X X (HYV.out.later ((Below.refl _ _).alloc (Nat.le_refl _) _)) (HV2.out.later ((Below.refl _ _).alloc (Nat.le_refl _) _))).mono ?_
    rintro e w4 ⟨rfl, hb4⟩
    have O4 : Hid (Below w2.heap.size w2 w4) := ((Below.refl w2.heap.size w2).alloc (Nat.le_refl _) (.cells #[.int .i64 y.base, .slice ay y.subs.length cy] 27)).trans (hb4.mono (by simp))
    clear hb4
    go_wp2_with fail
    go_ret
    refine ⟨by rw [HC.out]; rfl, ?_, (ExQ.ofBelow B2.out).trans (ExQ.ofBelow O4.out)⟩
    rw [HC.out]
    exact M2.out.later O4.out
   | none =>
    have hmn := hg.1 hlk
    have hlook : (Instr.lookup 95 (.map (some r)) (.int .i64 x0) true).run Tryz.prog w2 = .ok (.tuple #[.agg #[.int .i64 0, .slice none 0 0], .bool false]) w2 := by rw [run_lookI (P := Tryz.prog) Tryz.underlying95 Tryz.underlying3 hzv hL1 _, hmn]; rfl
    have HC := hide (cyT_new (t := t) hlk)
    have O3 : Hid (Below w2.heap.size w2 (w2.alloc (.cells #[.int .i64 0, .slice none 0 0] 27))) := (Below.refl _ _).alloc (Nat.le_refl _) _
    have hL3 : MapI (w2.alloc (.cells #[.int .i64 0, .slice none 0 0] 27)) r L := hL1.below O3.out hL1.lt
    obtain ⟨w4, hrun4, hM4, hz4, ho4, ht4, hu4, hkp⟩ := run_putI (P := Tryz.prog) Tryz.underlying95 Tryz.underlying3 hL3 x0 (.agg #[.int .i64 t.base, .slice a' t.subs.length c']) hmn
    have E4 : Hid (ExQ (fun b => b = r) (w2.alloc (.cells #[.int .i64 0, .slice none 0 0] 27)) w4) := ⟨ho4, ht4, hu4, by omega, fun b _ hn => hkp b hn⟩
    have M4 : Hid (CsM w4 r X (σ ++ [(x0, t)])) := ⟨_, hM4, CsR.push ((HV2.out.later O3.out).exq E4.out HX.out) (CsR.exq E4.out HX.out (CsR.exq (ExQ.ofBelow (Q := fun _ => False) O3.out) (fun _ _ h => h) hL2))⟩
    have q0 : (w2.alloc (.cells #[.int .i64 0, .slice none 0 0] 27)).cell? ⟨w.heap.size + 1, 0, none⟩ = some (.int .i64 t.base) := (C2.out.alloc _).cell 0
    have q1 : (w2.alloc (.cells #[.int .i64 0, .slice none 0 0] 27)).cell? ⟨w.heap.size + 1, 1, none⟩ = some (.slice a' t.subs.length c') := (C2.out.alloc _).cell 1
    have q2 : (w2.alloc (.cells #[.int .i64 0, .slice none 0 0] 27)).cell? ⟨w.heap.size, 0, none⟩ = some (.int .i64 x0) := (A2.out.alloc _).cell 0
    have q3 : (w2.alloc (.cells #[.int .i64 0, .slice none 0 0] 27)).cell? ⟨w.heap.size, 1, none⟩ = some (.slice a 0 c) := (A2.out.alloc _).cell 1
    have q4 : (w2.alloc (.cells #[.int .i64 0, .slice none 0 0] 27)).cell? ⟨S, 0, none⟩ = some (.map (some r)) := (F2.out.s.alloc _).cell 0
    clear hlk hg hzv hL1 hL2 hmn hM4 hz4 ho4 ht4 hu4 hkp hL3
    go_wp2_with fail
    go_ret
    refine ⟨by rw [HC.out]; rfl, ?_, (ExQ.ofBelow B2.out).trans ((ExQ.ofBelow O3.out).trans E4.out)⟩
    rw [HC.out]
    exact M4.out
  ·obtain ⟨pb, po, p1, p1c, p2, p2c, rfl, hKP⟩ := slY_twoE hs
   have KP := hide hKP
   clear hKP hs hsh
   have IP := hide (IH.out p (by simp))
   have IQ := hide (IH.out q (by simp))
   clear IH hM hF
   have e2 : ([p, q] : List Ty).length = 2 := rfl
   rw [e2] at *
   clear e2
   go_enter Tryz.func55, Tryz.ntmps55
   go_upto_region 1 with fail
   generalize ((w.alloc (.cells #[.int .i64 x0, .slice (some ⟨pb, po, none⟩) 2 c] 27)).alloc (.cells #[.int .i64 t.base, .slice a' t.subs.length c'] 27)) = w2 at *
   have x1' := A2.out.c1
   go_wp2_with fail
   clear x1'
   have gR : Hid (w.heap.size + 1 < w2.heap.size) := C2.out.lt
   have E2 : Hid (ExQ (fun b => b = r) w w2) := ExQ.ofBelow B2.out
   by_cases ht2 : t.subs.length = 2
   ·obtain ⟨y0, ts⟩ := t
    have ht2' : ts.length = 2 := ht2
    obtain ⟨tu, tv, rfl⟩ : ∃ tu tv, ts = [tu, tv] := by match ts, ht2' with | [tu, tv], _ => exact ⟨_, _, rfl⟩
    clear ht2 ht2'
    obtain ⟨tb, to_, t1, t1c, t2, t2c, rfl, hKT⟩ := slY_twoE hs'
    have KT := hide hKT
    clear hKT hs'
    have e2 : ([tu, tv] : List Ty).length = 2 := rfl
    simp only [e2] at *
    clear e2
    have HC := hide (cyT_two (p := p) (q := q) (u := tu) (v := tv) x0 y0 σ)
    have KS : Hid (∀ w', (Blk w' w.heap.size #[.int .i64 x0, .slice (some ⟨pb, po, none⟩) 2 c] 27 ∧ Blk w' (w.heap.size + 1) #[.int .i64 y0, .slice (some ⟨tb, to_, none⟩) 2 c'] 27 ∧ Blk w' F #[(.func (.func 55) #[] #[.pointer (some ⟨S, 0, none⟩), .pointer (some ⟨F, 0, none⟩)])] 39 ∧ ExQ (fun b => b = r) w w') → w'.cell? ⟨w.heap.size, 1, none⟩ = some (.slice (some ⟨pb, po, none⟩) 2 c) ∧ w'.cell? ⟨w.heap.size + 1, 1, none⟩ = some (.slice (some ⟨tb, to_, none⟩) 2 c') ∧ w'.cell? ⟨F, 0, none⟩ = some (.func (.func 55) #[] #[.pointer (some ⟨S, 0, none⟩), .pointer (some ⟨F, 0, none⟩)]) ∧ (w'.cell? ⟨pb, po, none⟩ = some (.int .i64 p.base) ∧ w'.cell? ⟨pb, po + 1, none⟩ = some (.slice p1 p.subs.length p1c) ∧ w'.cell? ⟨pb, po + 2, none⟩ = some (.int .i64 q.base) ∧ w'.cell? ⟨pb, po + 2 + 1, none⟩ = some (.slice p2 q.subs.length p2c)) ∧ (w'.cell? ⟨tb, to_, none⟩ = some (.int .i64 tu.base) ∧ w'.cell? ⟨tb, to_ + 1, none⟩ = some (.slice t1 tu.subs.length t1c) ∧ w'.cell? ⟨tb, to_ + 2, none⟩ = some (.int .i64 tv.base) ∧ w'.cell? ⟨tb, to_ + 2 + 1, none⟩ = some (.slice t2 tv.subs.length t2c))) := fun w' h => ⟨h.1.cell 1, h.2.1.cell 1, h.2.2.1.cell 0, (KP.out w' _ h.2.2.2 HZ.out).1, (KT.out w' _ h.2.2.2 HX.out).1⟩
    have kd : Blk w2.drew w.heap.size #[.int .i64 x0, .slice (some ⟨pb, po, none⟩) 2 c] 27 ∧ Blk w2.drew (w.heap.size + 1) #[.int .i64 y0, .slice (some ⟨tb, to_, none⟩) 2 c'] 27 ∧ Blk w2.drew F #[(.func (.func 55) #[] #[.pointer (some ⟨S, 0, none⟩), .pointer (some ⟨F, 0, none⟩)])] 39 ∧ ExQ (fun b => b = r) w w2.drew := ⟨A2.out, C2.out, F2.out.f, E2.out.drew⟩
    refine wp_region_held_drew (S := fun w' => Blk w' w.heap.size #[.int .i64 x0, .slice (some ⟨pb, po, none⟩) 2 c] 27 ∧ Blk w' (w.heap.size + 1) #[.int .i64 y0, .slice (some ⟨tb, to_, none⟩) 2 c'] 27 ∧ Blk w' F #[(.func (.func 55) #[] #[.pointer (some ⟨S, 0, none⟩), .pointer (some ⟨F, 0, none⟩)])] 39 ∧ ExQ (fun b => b = r) w w') (by kernel_rfl) kd (fun hHeld => ?_)
    refine tkq (v := ?_) 0 rfl ?_ ?_
    rotate_left
    ·intro w' hSw
     obtain ⟨y0', y1', y2', ⟨y3, y4, y5, y6⟩, y7, y8, y9, y10⟩ := KS.out w' hSw
     go_simp <;> with_reducible rfl
    try simp only [Act.put, sq]
    refine tkq (v := ?_) 1 rfl ?_ ?_
    rotate_left
    ·intro w' hSw
     obtain ⟨y0', y1', y2', ⟨y3, y4, y5, y6⟩, y7, y8, y9, y10⟩ := KS.out w' hSw
     go_simp <;> with_reducible rfl
    try simp only [Act.put, sq]
    refine tkq (v := ?_) 2 rfl ?_ ?_
    rotate_left
    ·intro w' hSw
     obtain ⟨y0', y1', y2', ⟨y3, y4, y5, y6⟩, y7, y8, y9, y10⟩ := KS.out w' hSw
     go_simp <;> with_reducible rfl
    try simp only [Act.put, sq]
    refine tkq (v := ?_) 3 rfl ?_ ?_
    rotate_left
    ·intro w' hSw
     obtain ⟨y0', y1', y2', ⟨y3, y4, y5, y6⟩, y7, y8, y9, y10⟩ := KS.out w' hSw
     go_simp <;> with_reducible rfl
    try simp only [Act.put, sq]
    refine tkq (v := ?_) 4 rfl ?_ ?_
    rotate_left
    ·intro w' hSw
     obtain ⟨y0', y1', y2', ⟨y3, y4, y5, y6⟩, y7, y8, y9, y10⟩ := KS.out w' hSw
     go_simp <;> with_reducible rfl
    try simp only [Act.put, sq]
    refine tkq (v := ?_) 5 rfl ?_ ?_
    rotate_left
    ·intro w' hSw
     obtain ⟨y0', y1', y2', ⟨y3, y4, y5, y6⟩, y7, y8, y9, y10⟩ := KS.out w' hSw
     go_simp <;> with_reducible rfl
    try simp only [Act.put, sq]
    refine tkq (v := ?_) 6 rfl ?_ ?_
    rotate_left
    ·intro w' hSw
     obtain ⟨y0', y1', y2', ⟨y3, y4, y5, y6⟩, y7, y8, y9, y10⟩ := KS.out w' hSw
     go_simp <;> with_reducible rfl
    try simp only [Act.put, sq]
    refine tkq (v := ?_) 7 rfl ?_ ?_
    rotate_left
    ·intro w' hSw
     obtain ⟨y0', y1', y2', ⟨y3, y4, y5, y6⟩, y7, y8, y9, y10⟩ := KS.out w' hSw
     go_simp <;> with_reducible rfl
    try simp only [Act.put, sq]
    refine tkq (v := ?_) 8 rfl ?_ ?_
    rotate_left
    ·intro w' hSw
     obtain ⟨y0', y1', y2', ⟨y3, y4, y5, y6⟩, y7, y8, y9, y10⟩ := KS.out w' hSw
     go_simp <;> with_reducible rfl
    try simp only [Act.put, sq]
    refine tkq (v := ?_) 9 rfl ?_ ?_
    rotate_left
    ·intro w' hSw
     obtain ⟨y0', y1', y2', ⟨y3, y4, y5, y6⟩, y7, y8, y9, y10⟩ := KS.out w' hSw
     go_simp <;> with_reducible rfl
    try simp only [Act.put, sq]
    refine tkq (v := ?_) 10 rfl ?_ ?_
    rotate_left
    ·intro w' hSw
     obtain ⟨y0', y1', y2', ⟨y3, y4, y5, y6⟩, y7, y8, y9, y10⟩ := KS.out w' hSw
     go_simp <;> with_reducible rfl
    try simp only [Act.put, sq]
    refine tkq (v := ?_) 11 rfl ?_ ?_
    rotate_left
    ·intro w' hSw
     obtain ⟨y0', y1', y2', ⟨y3, y4, y5, y6⟩, y7, y8, y9, y10⟩ := KS.out w' hSw
     go_simp <;> with_reducible rfl
    try simp only [Act.put, sq]
    refine tkq (v := ?_) 12 rfl ?_ ?_
    rotate_left
    ·intro w' hSw
     obtain ⟨y0', y1', y2', ⟨y3, y4, y5, y6⟩, y7, y8, y9, y10⟩ := KS.out w' hSw
     go_simp <;> with_reducible rfl
    try simp only [Act.put, sq]
    refine tkq (v := ?_) 13 rfl ?_ ?_
    rotate_left
    ·intro w' hSw
     obtain ⟨y0', y1', y2', ⟨y3, y4, y5, y6⟩, y7, y8, y9, y10⟩ := KS.out w' hSw
     go_simp <;> with_reducible rfl
    try simp only [Act.put, sq]
    refine rdq 14 rfl fun K hK => ?_
    go_simp
    go_at_call 55
    refine (IP.out tu σ _ _ w2.drew Z X hp (KP.out w2.drew _ kd.2.2.2 HZ.out).2.1 (KT.out w2.drew _ kd.2.2.2 HX.out).2.1 HZ.out HX.out (M2.out.later (Below.refl _ _).drew) ⟨F2.out.s, F2.out.f, F2.out.sr, F2.out.fr⟩).mono ?_
    rintro e w4 ⟨rfl, hm4, he4⟩
    have A4 : Hid (Blk w4 w.heap.size #[.int .i64 x0, .slice (some ⟨pb, po, none⟩) 2 c] 27) := kd.1.exq he4 (by omega)
    have C4 : Hid (Blk w4 (w.heap.size + 1) #[.int .i64 y0, .slice (some ⟨tb, to_, none⟩) 2 c'] 27) := kd.2.1.exq he4 (by omega)
    have G4 : Hid (Blk w4 F #[(.func (.func 55) #[] #[.pointer (some ⟨S, 0, none⟩), .pointer (some ⟨F, 0, none⟩)])] 39) := kd.2.2.1.exq he4 F2.out.fr
    have k4 : Blk w4 w.heap.size #[.int .i64 x0, .slice (some ⟨pb, po, none⟩) 2 c] 27 ∧ Blk w4 (w.heap.size + 1) #[.int .i64 y0, .slice (some ⟨tb, to_, none⟩) 2 c'] 27 ∧ Blk w4 F #[(.func (.func 55) #[] #[.pointer (some ⟨S, 0, none⟩), .pointer (some ⟨F, 0, none⟩)])] 39 ∧ ExQ (fun b => b = r) w w4 := ⟨A4.out, C4.out, G4.out, kd.2.2.2.trans he4⟩
    have M4 := hide hm4
    have FT4 : Hid (Fit w4 S F r) := (show Fit w2.drew S F r from ⟨F2.out.s, F2.out.f, F2.out.sr, F2.out.fr⟩).exq he4
    clear hm4 he4
    obtain ⟨b1, τ, hbt⟩ : ∃ b1 τ, cyT p tu σ = (b1, τ) := ⟨_, _, rfl⟩
    rw [hbt] at M4 HC ⊢
    clear hbt
    simp only at M4 HC ⊢
    cases b1 with
    | true =>
     rw [if_pos rfl] at HC
     go_simp
     refine hK.out _ _ (by exact k4) (fun hHeld => ?_)
     clear hK K
     try simp only [Act.put, sq]
     refine tkq (v := ?_) 15 rfl ?_ ?_
     rotate_left
     ·intro w' hSw
      go_simp <;> with_reducible rfl
     try simp only [Act.put, sq]
     refine tkq (v := ?_) 16 rfl ?_ ?_
     rotate_left
     ·intro w' hSw
      go_simp <;> with_reducible rfl
     try simp only [Act.put, sq]
     refine tkq (v := ?_) 17 rfl ?_ ?_
     rotate_left
     ·intro w' hSw
      obtain ⟨y0', y1', y2', ⟨y3, y4, y5, y6⟩, y7, y8, y9, y10⟩ := KS.out w' hSw
      go_simp <;> with_reducible rfl
     try simp only [Act.put, sq]
     refine tkq (v := ?_) 18 rfl ?_ ?_
     rotate_left
     ·intro w' hSw
      obtain ⟨y0', y1', y2', ⟨y3, y4, y5, y6⟩, y7, y8, y9, y10⟩ := KS.out w' hSw
      go_simp <;> with_reducible rfl
     try simp only [Act.put, sq]
     refine tkq (v := ?_) 19 rfl ?_ ?_
     rotate_left
     ·intro w' hSw
      obtain ⟨y0', y1', y2', ⟨y3, y4, y5, y6⟩, y7, y8, y9, y10⟩ := KS.out w' hSw
      go_simp <;> with_reducible rfl
     try simp only [Act.put, sq]
     refine tkq (v := ?_) 20 rfl ?_ ?_
     rotate_left
     ·intro w' hSw
      obtain ⟨y0', y1', y2', ⟨y3, y4, y5, y6⟩, y7, y8, y9, y10⟩ := KS.out w' hSw
      go_simp <;> with_reducible rfl
     try simp only [Act.put, sq]
     refine tkq (v := ?_) 21 rfl ?_ ?_
     rotate_left
     ·intro w' hSw
      obtain ⟨y0', y1', y2', ⟨y3, y4, y5, y6⟩, y7, y8, y9, y10⟩ := KS.out w' hSw
      go_simp <;> with_reducible rfl
     try simp only [Act.put, sq]
     refine tkq (v := ?_) 22 rfl ?_ ?_
     rotate_left
     ·intro w' hSw
      obtain ⟨y0', y1', y2', ⟨y3, y4, y5, y6⟩, y7, y8, y9, y10⟩ := KS.out w' hSw
      go_simp <;> with_reducible rfl
     try simp only [Act.put, sq]
     refine tkq (v := ?_) 23 rfl ?_ ?_
     rotate_left
     ·intro w' hSw
      obtain ⟨y0', y1', y2', ⟨y3, y4, y5, y6⟩, y7, y8, y9, y10⟩ := KS.out w' hSw
      go_simp <;> with_reducible rfl
     try simp only [Act.put, sq]
     refine tkq (v := ?_) 24 rfl ?_ ?_
     rotate_left
     ·intro w' hSw
      obtain ⟨y0', y1', y2', ⟨y3, y4, y5, y6⟩, y7, y8, y9, y10⟩ := KS.out w' hSw
      go_simp <;> with_reducible rfl
     try simp only [Act.put, sq]
     refine tkq (v := ?_) 25 rfl ?_ ?_
     rotate_left
     ·intro w' hSw
      obtain ⟨y0', y1', y2', ⟨y3, y4, y5, y6⟩, y7, y8, y9, y10⟩ := KS.out w' hSw
      go_simp <;> with_reducible rfl
     try simp only [Act.put, sq]
     refine rdq 26 rfl fun K hK => ?_
     go_simp
     go_at_call 55
     refine (IQ.out tv τ _ _ w4 Z X hq (KP.out w4 _ k4.2.2.2 HZ.out).2.2 (KT.out w4 _ k4.2.2.2 HX.out).2.2 HZ.out HX.out M4.out FT4.out).mono ?_
     rintro e w6 ⟨rfl, hm6, he6⟩
     have A6 : Hid (Blk w6 w.heap.size #[.int .i64 x0, .slice (some ⟨pb, po, none⟩) 2 c] 27) := k4.1.exq he6 (by omega)
     have C6 : Hid (Blk w6 (w.heap.size + 1) #[.int .i64 y0, .slice (some ⟨tb, to_, none⟩) 2 c'] 27) := k4.2.1.exq he6 (by omega)
     have G6 : Hid (Blk w6 F #[(.func (.func 55) #[] #[.pointer (some ⟨S, 0, none⟩), .pointer (some ⟨F, 0, none⟩)])] 39) := k4.2.2.1.exq he6 F2.out.fr
     have k6 : Blk w6 w.heap.size #[.int .i64 x0, .slice (some ⟨pb, po, none⟩) 2 c] 27 ∧ Blk w6 (w.heap.size + 1) #[.int .i64 y0, .slice (some ⟨tb, to_, none⟩) 2 c'] 27 ∧ Blk w6 F #[(.func (.func 55) #[] #[.pointer (some ⟨S, 0, none⟩), .pointer (some ⟨F, 0, none⟩)])] 39 ∧ ExQ (fun b => b = r) w w6 := ⟨A6.out, C6.out, G6.out, k4.2.2.2.trans he6⟩
     rw [← HC.out] at hm6 ⊢
     have M6 := hide hm6
     obtain ⟨b2, hb2⟩ : ∃ b2, b2 = (cyT ⟨x0, [p, q]⟩ ⟨y0, [tu, tv]⟩ σ).1 := ⟨_, rfl⟩
     rw [← hb2]
     have HB2 := hide hb2
     clear hm6 he6 hb2
     go_simp
     refine hK.out _ _ (by exact k6) (fun hHeld => ?_)
     clear hK K
     try simp only [Act.put, sq]
     refine tkq (v := ?_) 27 rfl ?_ ?_
     rotate_left
     ·intro w' hSw
      go_simp <;> with_reducible rfl
     try simp only [Act.put, sq]
     refine tkq (v := ?_) 28 rfl ?_ ?_
     rotate_left
     ·intro w' hSw
      go_simp <;> with_reducible rfl
     try simp only [Act.put, sq]
     refine wpAnyH_done (by kernel_rfl) ?_ _
     go_wp2_with fail
     go_ret
     exact ⟨by rw [← HB2.out]; rfl, M6.out, k6.2.2.2⟩
    | false =>
     rw [if_neg (by simp)] at HC
     go_simp
     refine hK.out _ _ (by exact k4) (fun hHeld => ?_)
     clear hK K
     try simp only [Act.put, sq]
     refine tkq (v := ?_) 15 rfl ?_ ?_
     rotate_left
     ·intro w' hSw
      go_simp <;> with_reducible rfl
     try simp only [Act.put, sq]
     refine tkq (v := ?_) 16 rfl ?_ ?_
     rotate_left
     ·intro w' hSw
      go_simp <;> with_reducible rfl
     try simp only [Act.put, sq]
     refine wpAnyH_take (i := 17) (v := undef) rfl (by kernel_rfl) (by kernel_rfl) (by kernel_rfl) (fun _ _ _ h => h) (Or.inr ⟨by rfl, rfl⟩) (by assumption) ?_
     try simp only [Act.put, sq]
     refine wpAnyH_take (i := 18) (v := undef) rfl (by kernel_rfl) (by kernel_rfl) (by kernel_rfl) (fun _ _ _ h => h) (Or.inr ⟨by rfl, rfl⟩) (by assumption) ?_
     try simp only [Act.put, sq]
     refine wpAnyH_take (i := 19) (v := undef) rfl (by kernel_rfl) (by kernel_rfl) (by kernel_rfl) (fun _ _ _ h => h) (Or.inr ⟨by rfl, rfl⟩) (by assumption) ?_
     try simp only [Act.put, sq]
     refine wpAnyH_take (i := 20) (v := undef) rfl (by kernel_rfl) (by kernel_rfl) (by kernel_rfl) (fun _ _ _ h => h) (Or.inr ⟨by rfl, rfl⟩) (by assumption) ?_
     try simp only [Act.put, sq]
     refine wpAnyH_take (i := 21) (v := undef) rfl (by kernel_rfl) (by kernel_rfl) (by kernel_rfl) (fun _ _ _ h => h) (Or.inr ⟨by rfl, rfl⟩) (by assumption) ?_
     try simp only [Act.put, sq]
     refine wpAnyH_take (i := 22) (v := undef) rfl (by kernel_rfl) (by kernel_rfl) (by kernel_rfl) (fun _ _ _ h => h) (Or.inr ⟨by rfl, rfl⟩) (by assumption) ?_
     try simp only [Act.put, sq]
     refine wpAnyH_take (i := 23) (v := undef) rfl (by kernel_rfl) (by kernel_rfl) (by kernel_rfl) (fun _ _ _ h => h) (Or.inr ⟨by rfl, rfl⟩) (by assumption) ?_
     try simp only [Act.put, sq]
     refine wpAnyH_take (i := 24) (v := undef) rfl (by kernel_rfl) (by kernel_rfl) (by kernel_rfl) (fun _ _ _ h => h) (Or.inr ⟨by rfl, rfl⟩) (by assumption) ?_
     try simp only [Act.put, sq]
     refine wpAnyH_take (i := 25) (v := undef) rfl (by kernel_rfl) (by kernel_rfl) (by kernel_rfl) (fun _ _ _ h => h) (Or.inr ⟨by rfl, rfl⟩) (by assumption) ?_
     try simp only [Act.put, sq]
     refine wpAnyH_take (i := 26) (v := undef) rfl (by kernel_rfl) (by kernel_rfl) (by kernel_rfl) (fun _ _ _ h => h) (Or.inr ⟨by rfl, rfl⟩) (by assumption) ?_
     try simp only [Act.put, sq]
     refine tkq (v := ?_) 27 rfl ?_ ?_
     rotate_left
     ·intro w' hSw
      go_simp <;> with_reducible rfl
     try simp only [Act.put, sq]
     refine tkq (v := ?_) 28 rfl ?_ ?_
     rotate_left
     ·intro w' hSw
      go_simp <;> with_reducible rfl
     try simp only [Act.put, sq]
     refine wpAnyH_done (by kernel_rfl) ?_ _
     go_wp2_with fail
     go_ret
     refine ⟨by rw [HC.out]; rfl, ?_, k4.2.2.2⟩
     rw [HC.out]
     exact M4.out
   ·have HC := hide (fun σ => cyT_no (p := p) (q := q) (t := t) (σ := σ) ht2 x0)
    have hl : ((t.subs.length : Int) == 2) = false := by simp; omega
    clear ht2
    have kd : Blk w2.drew (w.heap.size + 1) #[.int .i64 t.base, .slice a' t.subs.length c'] 27 := C2.out
    refine wp_region_held_drew (S := fun w' => Blk w' (w.heap.size + 1) #[.int .i64 t.base, .slice a' t.subs.length c'] 27) (by kernel_rfl) kd (fun hHeld => ?_)
    refine tkq (v := ?_) 0 rfl ?_ ?_
    rotate_left
    ·intro w' hSw
     go_simp <;> with_reducible rfl
    try simp only [Act.put, sq]
    refine tkq (v := ?_) 1 rfl ?_ ?_
    rotate_left
    ·intro w' hSw
     have y1 : w'.cell? ⟨w.heap.size + 1, 1, none⟩ = some (.slice a' t.subs.length c') := hSw.cell 1
     go_simp <;> with_reducible rfl
    try simp only [Act.put, sq]
    refine tkq (v := ?_) 2 rfl ?_ ?_
    rotate_left
    ·intro w' hSw
     go_simp <;> with_reducible rfl
    try simp only [Act.put, sq]
    refine tkq (v := ?_) 3 rfl ?_ ?_
    rotate_left
    ·intro w' hSw
     go_simp <;> with_reducible rfl
    try simp only [Act.put, sq]
    refine tkq (v := ?_) 4 rfl ?_ ?_
    rotate_left
    ·intro w' hSw
     go_simp <;> with_reducible rfl
    try simp only [Act.put, sq]
    refine wpAnyH_take (i := 5) (v := undef) rfl (by kernel_rfl) (by kernel_rfl) (by kernel_rfl) (fun _ _ _ h => h) (Or.inr ⟨by rfl, rfl⟩) (by assumption) ?_
    try simp only [Act.put, sq]
    refine wpAnyH_take (i := 6) (v := undef) rfl (by kernel_rfl) (by kernel_rfl) (by kernel_rfl) (fun _ _ _ h => h) (Or.inr ⟨by rfl, rfl⟩) (by assumption) ?_
    try simp only [Act.put, sq]
    refine wpAnyH_take (i := 7) (v := undef) rfl (by kernel_rfl) (by kernel_rfl) (by kernel_rfl) (fun _ _ _ h => h) (Or.inr ⟨by rfl, rfl⟩) (by assumption) ?_
    try simp only [Act.put, sq]
    refine wpAnyH_take (i := 8) (v := undef) rfl (by kernel_rfl) (by kernel_rfl) (by kernel_rfl) (fun _ _ _ h => h) (Or.inr ⟨by rfl, rfl⟩) (by assumption) ?_
    try simp only [Act.put, sq]
    refine wpAnyH_take (i := 9) (v := undef) rfl (by kernel_rfl) (by kernel_rfl) (by kernel_rfl) (fun _ _ _ h => h) (Or.inr ⟨by rfl, rfl⟩) (by assumption) ?_
    try simp only [Act.put, sq]
    refine wpAnyH_take (i := 10) (v := undef) rfl (by kernel_rfl) (by kernel_rfl) (by kernel_rfl) (fun _ _ _ h => h) (Or.inr ⟨by rfl, rfl⟩) (by assumption) ?_
    try simp only [Act.put, sq]
    refine wpAnyH_take (i := 11) (v := undef) rfl (by kernel_rfl) (by kernel_rfl) (by kernel_rfl) (fun _ _ _ h => h) (Or.inr ⟨by rfl, rfl⟩) (by assumption) ?_
    try simp only [Act.put, sq]
    refine wpAnyH_take (i := 12) (v := undef) rfl (by kernel_rfl) (by kernel_rfl) (by kernel_rfl) (fun _ _ _ h => h) (Or.inr ⟨by rfl, rfl⟩) (by assumption) ?_
    try simp only [Act.put, sq]
    refine wpAnyH_take (i := 13) (v := undef) rfl (by kernel_rfl) (by kernel_rfl) (by kernel_rfl) (fun _ _ _ h => h) (Or.inr ⟨by rfl, rfl⟩) (by assumption) ?_
    try simp only [Act.put, sq]
    refine wpAnyH_take (i := 14) (v := undef) rfl (by kernel_rfl) (by kernel_rfl) (by kernel_rfl) (fun _ _ _ h => h) (Or.inr ⟨by rfl, rfl⟩) (by assumption) ?_
    try simp only [Act.put, sq]
    refine tkq (v := ?_) 15 rfl ?_ ?_
    rotate_left
    ·intro w' hSw
     go_simp <;> with_reducible rfl
    try simp only [Act.put, sq]
    refine tkq (v := ?_) 16 rfl ?_ ?_
    rotate_left
    ·intro w' hSw
     go_simp <;> with_reducible rfl
    try simp only [Act.put, sq]
    refine wpAnyH_take (i := 17) (v := undef) rfl (by kernel_rfl) (by kernel_rfl) (by kernel_rfl) (fun _ _ _ h => h) (Or.inr ⟨by rfl, rfl⟩) (by assumption) ?_
    try simp only [Act.put, sq]
    refine wpAnyH_take (i := 18) (v := undef) rfl (by kernel_rfl) (by kernel_rfl) (by kernel_rfl) (fun _ _ _ h => h) (Or.inr ⟨by rfl, rfl⟩) (by assumption) ?_
    try simp only [Act.put, sq]
    refine wpAnyH_take (i := 19) (v := undef) rfl (by kernel_rfl) (by kernel_rfl) (by kernel_rfl) (fun _ _ _ h => h) (Or.inr ⟨by rfl, rfl⟩) (by assumption) ?_
    try simp only [Act.put, sq]
    refine wpAnyH_take (i := 20) (v := undef) rfl (by kernel_rfl) (by kernel_rfl) (by kernel_rfl) (fun _ _ _ h => h) (Or.inr ⟨by rfl, rfl⟩) (by assumption) ?_
    try simp only [Act.put, sq]
    refine wpAnyH_take (i := 21) (v := undef) rfl (by kernel_rfl) (by kernel_rfl) (by kernel_rfl) (fun _ _ _ h => h) (Or.inr ⟨by rfl, rfl⟩) (by assumption) ?_
    try simp only [Act.put, sq]
    refine wpAnyH_take (i := 22) (v := undef) rfl (by kernel_rfl) (by kernel_rfl) (by kernel_rfl) (fun _ _ _ h => h) (Or.inr ⟨by rfl, rfl⟩) (by assumption) ?_
    try simp only [Act.put, sq]
    refine wpAnyH_take (i := 23) (v := undef) rfl (by kernel_rfl) (by kernel_rfl) (by kernel_rfl) (fun _ _ _ h => h) (Or.inr ⟨by rfl, rfl⟩) (by assumption) ?_
    try simp only [Act.put, sq]
    refine wpAnyH_take (i := 24) (v := undef) rfl (by kernel_rfl) (by kernel_rfl) (by kernel_rfl) (fun _ _ _ h => h) (Or.inr ⟨by rfl, rfl⟩) (by assumption) ?_
    try simp only [Act.put, sq]
    refine wpAnyH_take (i := 25) (v := undef) rfl (by kernel_rfl) (by kernel_rfl) (by kernel_rfl) (fun _ _ _ h => h) (Or.inr ⟨by rfl, rfl⟩) (by assumption) ?_
    try simp only [Act.put, sq]
    refine wpAnyH_take (i := 26) (v := undef) rfl (by kernel_rfl) (by kernel_rfl) (by kernel_rfl) (fun _ _ _ h => h) (Or.inr ⟨by rfl, rfl⟩) (by assumption) ?_
    try simp only [Act.put, sq]
    refine tkq (v := ?_) 27 rfl ?_ ?_
    rotate_left
    ·intro w' hSw
     go_simp <;> with_reducible rfl
    try simp only [Act.put, sq]
    refine tkq (v := ?_) 28 rfl ?_ ?_
    rotate_left
    ·intro w' hSw
     go_simp <;> with_reducible rfl
    try simp only [Act.put, sq]
    refine wpAnyH_done (by kernel_rfl) ?_ _
    go_wp2_with fail
    go_ret
    refine ⟨by rw [HC.out]; rfl, ?_, E2.out.drew⟩
    rw [HC.out]
    exact M2.out.later (Below.refl _ _).drew
def bsY : List Ty → Prop
 | [] => True
 | ⟨x, l⟩ :: r => (∃ n : Nat, x = (n : Int) ∧ n < 2001) ∧ bsY l ∧ bsY r
theorem bsY_cons (t : Ty) (r : List Ty) : bsY (t :: r) ↔ (∃ n : Nat, t.base = (n : Int) ∧ n < 2001) ∧ bsY t.subs ∧ bsY r := by
 obtain ⟨x, l⟩ := t
 simp only [bsY]
theorem bsY_two {x : Int} {p q : Ty} (h : bsY [⟨x, [p, q]⟩]) : bsY [p] ∧ bsY [q] := by
 rw [bsY_cons] at h
 have h2 : bsY [p, q] := h.2.1
 rw [bsY_cons] at h2
 exact ⟨(bsY_cons p []).2 ⟨h2.1, h2.2.1, by simp [bsY]⟩, h2.2.2⟩
def HvR (w : World) (H D : Nat) (X : Nat → Prop) (σ : List (Int × Ty)) : Prop :=
 ∃ hs ks : Array Value, Blk w H hs 27 ∧ Blk w D ks 4 ∧ hs.size = 4002 ∧ ks.size = 2001 ∧ (∀ n : Nat, n < 2001 → ks[n]? = some (.bool (lkY σ (n : Int)).isSome)) ∧
  ∀ (n : Nat) y, n < 2001 → lkY σ (n : Int) = some y → ∃ a c, hs[n * 2]? = some (.int .i64 y.base) ∧ hs[n * 2 + 1]? = some (.slice a y.subs.length c) ∧ SlY w X a y.subs
theorem HvR.exq {w w' : World} {Q X : Nat → Prop} {H D : Nat} {σ : List (Int × Ty)} (h : HvR w H D X σ) (he : ExQ Q w w') (hX : ∀ b, X b → ¬ Q b) (hH : ¬ Q H) (hD : ¬ Q D) : HvR w' H D X σ := by
 obtain ⟨hs, ks, h1, h2, h3, h4, h5, h6⟩ := h
 refine ⟨hs, ks, h1.exq he hH, h2.exq he hD, h3, h4, h5, fun n y hn hy => ?_⟩
 obtain ⟨a, c, e1, e2, e3⟩ := h6 n y hn hy
 exact ⟨a, c, e1, e2, e3.exq he hX⟩
theorem HvR.later {w w' : World} {X : Nat → Prop} {H D : Nat} {σ : List (Int × Ty)} (h : HvR w H D X σ) (hb : Below w.heap.size w w') : HvR w' H D X σ := h.exq (ExQ.ofBelow (Q := fun _ => False) hb) (fun _ _ h => h) (fun h => h) (fun h => h)
theorem bcellY {w w' : World} (hb : Below w.heap.size w w') {b o : Nat} {v : Value} (h : w.cell? ⟨b, o, none⟩ = some v) : w'.cell? ⟨b, o, none⟩ = some v := (hb.cell (p := ⟨b, o, none⟩) (cell_lt h)).trans h
theorem HvR.put {w : World} {H D : Nat} {X : Nat → Prop} {σ : List (Int × Ty)} {n : Nat} {t : Ty} {a : Option Addr} {c : Nat} (h : HvR w H D X σ) (hHK : H ≠ D) (hn : n < 2001) (hl : lkY σ (n : Int) = none) (hX : ∀ b, X b → ¬ (b = H ∨ b = D)) (hs : SlY w X a t.subs) :
  HvR (((w.setCell ⟨D, n, none⟩ (.bool true)).setCell ⟨H, n * 2, none⟩ (.int .i64 t.base)).setCell ⟨H, n * 2 + 1, none⟩ (.slice a t.subs.length c)) H D X (σ ++ [((n : Int), t)]) := by
 obtain ⟨hs0, ks, h1, h2, h3, h4, h5, h6⟩ := h
 have E : ExQ (fun b => b = H ∨ b = D) w (((w.setCell ⟨D, n, none⟩ (.bool true)).setCell ⟨H, n * 2, none⟩ (.int .i64 t.base)).setCell ⟨H, n * 2 + 1, none⟩ (.slice a t.subs.length c)) := (((ExQ.refl _ _).set (Or.inr rfl) _ _).set (Or.inl rfl) _ _).set (Or.inl rfl) _ _
 refine ⟨_, _, ((h1.setOther n (.bool true) hHK).set (n * 2) (.int .i64 t.base)).set (n * 2 + 1) (.slice a t.subs.length c), ((h2.set n (.bool true)).setOther (n * 2) _ (Ne.symm hHK)).setOther (n * 2 + 1) _ (Ne.symm hHK), by simp [h3], by simp [h4], fun m hm => ?_, fun m y hm hy => ?_⟩
 ·rw [lkY_push _ _ _ _ hl]
  by_cases e : n = m
  ·subst e
   simp [h4, hn]
  ·rw [if_neg (by omega), Array.getElem?_setIfInBounds_ne e]
   exact h5 m hm
 ·rw [lkY_push _ _ _ _ hl] at hy
  by_cases e : n = m
  ·subst e
   rw [if_pos rfl, Option.some.injEq] at hy
   subst hy
   refine ⟨a, c, ?_, ?_, hs.exq E hX⟩
   ·rw [Array.getElem?_setIfInBounds_ne (by omega), Array.getElem?_setIfInBounds_self_of_lt (by omega)]
   ·rw [Array.getElem?_setIfInBounds_self_of_lt (by simp; omega)]
  ·rw [if_neg (by omega)] at hy
   obtain ⟨a', c', e1, e2, e3⟩ := h6 m y hm hy
   refine ⟨a', c', ?_, ?_, e3.exq E hX⟩
   ·rw [Array.getElem?_setIfInBounds_ne (by omega), Array.getElem?_setIfInBounds_ne (by omega)]
    exact e1
   ·rw [Array.getElem?_setIfInBounds_ne (by omega), Array.getElem?_setIfInBounds_ne (by omega)]
    exact e2
def TcP (p t : Ty) (σ : List (Int × Ty)) (H D : Nat) (X : Nat → Prop) (w : World) (e : Ending) (w' : World) : Prop := e = .returned (.bool (cyT p t σ).1) ∧ HvR w' H D X (cyT p t σ).2 ∧ ExQ (fun b => b = H ∨ b = D) w w'
set_option maxHeartbeats 8000000 in
theorem typeCase_any (H D : Nat) (hHK : H ≠ D) (p : Ty) : ∀ (t : Ty) (σ : List (Int × Ty)) (v u : Value) (w : World) (Z X : Nat → Prop), shY [p] → bsY [p] → YV w Z v p → YV w X u t → (∀ b, Z b → ¬ (b = H ∨ b = D)) → (∀ b, X b → ¬ (b = H ∨ b = D)) → HvR w H D X σ →
  Calls Tryz.prog 34 #[v, u, .slice (some ⟨H, 0, none⟩) 2001 2001, .slice (some ⟨D, 0, none⟩) 2001 2001] w fun e w' => TcP p t σ H D X w e w' := by
 induction p using Ty.ind with
 | h x0 l0 ih =>
  intro t σ v u w Z X hsh hbs hv hu hZ hX hM
  have IH := hide ih
  clear ih
  obtain ⟨a, c, rfl, hs⟩ := hv
  have HU := hide hu
  obtain ⟨a', c', rfl, hs'⟩ := hu
  have HX := hide hX
  have HZ := hide hZ
  have hLK : H < w.heap.size ∧ D < w.heap.size := by obtain ⟨_, _, h1, h2, _⟩ := hM; exact ⟨h1.lt, h2.lt⟩
  have HNK := hide hHK
  clear hHK
  have B2 : Hid (Below w.heap.size w ((w.alloc (.cells #[.int .i64 x0, .slice a l0.length c] 27)).alloc (.cells #[.int .i64 t.base, .slice a' t.subs.length c'] 27))) := ((Below.refl _ _).alloc (Nat.le_refl _) _).alloc (by simp) _
  have A2 : Hid (Blk ((w.alloc (.cells #[.int .i64 x0, .slice a l0.length c] 27)).alloc (.cells #[.int .i64 t.base, .slice a' t.subs.length c'] 27)) w.heap.size #[.int .i64 x0, .slice a l0.length c] 27) := (Blk.new _ _ _).alloc _
  have C2 : Hid (Blk ((w.alloc (.cells #[.int .i64 x0, .slice a l0.length c] 27)).alloc (.cells #[.int .i64 t.base, .slice a' t.subs.length c'] 27)) (w.heap.size + 1) #[.int .i64 t.base, .slice a' t.subs.length c'] 27) := by have h := Blk.new (w.alloc (.cells #[.int .i64 x0, .slice a l0.length c] 27)) #[.int .i64 t.base, .slice a' t.subs.length c'] 27; rw [World.size_alloc] at h; exact h
  have M2 := hide (hM.later B2.out)
  have HV2 := hide (HU.out.later B2.out)
  have hs2 := hide ((show SlY w X a' t.subs from hs').later B2.out)
  rcases shY_look hsh with rfl | ⟨p, q, rfl, hp, hq⟩
  ·clear IH hs hsh hM
   obtain ⟨⟨n, hxn, hn⟩, -⟩ := (bsY_cons _ _).1 hbs
   have hxn' : x0 = (n : Int) := hxn
   subst hxn'
   clear hxn hbs
   simp only [List.length_nil] at *
   go_enter Tryz.func34, Tryz.ntmps34
   go_upto_region 1 with fail
   generalize ((w.alloc (.cells #[.int .i64 (n : Int), .slice a 0 c] 27)).alloc (.cells #[.int .i64 t.base, .slice a' t.subs.length c'] 27)) = w2 at *
   have x0' := A2.out.c0
   have x1' := A2.out.c1
   have z0 := C2.out.c0
   have z1 := C2.out.c1
   obtain ⟨rh, rk, m1, m2, m3, m4, m5, m6⟩ := M2.out
   have ln : (n : Int) < 2001 := by omega
   have ln0 : (0 : Int) ≤ (n : Int) := by omega
   have k0 := m2.cell n
   rw [m5 n hn] at k0
   cases hlk : lkY σ (n : Int) with
   | some y =>
    rw [hlk] at k0
    obtain ⟨ay, cy, e1, e2, e3⟩ := m6 n y hn hlk
    have h0 := (m1.cell (n * 2)).trans e1
    have h1 := (m1.cell (n * 2 + 1)).trans e2
    have HYV : Hid (YV w2 X (.agg #[.int .i64 y.base, .slice ay y.subs.length cy]) y) := ⟨ay, cy, rfl, e3⟩
    have HC := hide (cyT_old (t := t) hlk)
    have HN := hide hn
    clear hlk m1 m2 m3 m4 m5 m6 e1 e2 e3 hn
    simp only [Option.isSome_some] at k0
    go_upto_region 3 with fail
    have kd : Blk w2.drew w.heap.size #[.int .i64 (n : Int), .slice a 0 c] 27 ∧ Blk w2.drew (w.heap.size + 1) #[.int .i64 t.base, .slice a' t.subs.length c'] 27 ∧ w2.drew.cell? ⟨H, n * 2, none⟩ = some (.int .i64 y.base) ∧ w2.drew.cell? ⟨H, n * 2 + 1, none⟩ = some (.slice ay y.subs.length cy) := ⟨A2.out, C2.out, h0, h1⟩
    refine wp_region_held_drew (S := fun w' => Blk w' w.heap.size #[.int .i64 (n : Int), .slice a 0 c] 27 ∧ Blk w' (w.heap.size + 1) #[.int .i64 t.base, .slice a' t.subs.length c'] 27 ∧ w'.cell? ⟨H, n * 2, none⟩ = some (.int .i64 y.base) ∧ w'.cell? ⟨H, n * 2 + 1, none⟩ = some (.slice ay y.subs.length cy)) (by kernel_rfl) kd (fun hHeld => ?_)
    refine tkq (v := ?_) 0 rfl ?_ ?_
    rotate_left
    ·intro w' hSw
     obtain ⟨g1, g2, y3, y4⟩ := hSw
     have y0 : w'.cell? ⟨w.heap.size, 0, none⟩ = some (.int .i64 (n : Int)) := g1.cell 0
     have y1 : w'.cell? ⟨w.heap.size + 1, 0, none⟩ = some (.int .i64 t.base) := g2.cell 0
     have y2 : w'.cell? ⟨w.heap.size + 1, 1, none⟩ = some (.slice a' t.subs.length c') := g2.cell 1
     go_simp <;> with_reducible rfl
    try simp only [Act.put, sq]
    refine tkq (v := ?_) 1 rfl ?_ ?_
    rotate_left
    ·intro w' hSw
     obtain ⟨g1, g2, y3, y4⟩ := hSw
     have y0 : w'.cell? ⟨w.heap.size, 0, none⟩ = some (.int .i64 (n : Int)) := g1.cell 0
     have y1 : w'.cell? ⟨w.heap.size + 1, 0, none⟩ = some (.int .i64 t.base) := g2.cell 0
     have y2 : w'.cell? ⟨w.heap.size + 1, 1, none⟩ = some (.slice a' t.subs.length c') := g2.cell 1
     go_simp <;> with_reducible rfl
    try simp only [Act.put, sq]
    refine tkq (v := ?_) 2 rfl ?_ ?_
    rotate_left
    ·intro w' hSw
     obtain ⟨g1, g2, y3, y4⟩ := hSw
     have y0 : w'.cell? ⟨w.heap.size, 0, none⟩ = some (.int .i64 (n : Int)) := g1.cell 0
     have y1 : w'.cell? ⟨w.heap.size + 1, 0, none⟩ = some (.int .i64 t.base) := g2.cell 0
     have y2 : w'.cell? ⟨w.heap.size + 1, 1, none⟩ = some (.slice a' t.subs.length c') := g2.cell 1
     go_simp <;> with_reducible rfl
    try simp only [Act.put, sq]
    refine tkq (v := ?_) 3 rfl ?_ ?_
    rotate_left
    ·intro w' hSw
     obtain ⟨g1, g2, y3, y4⟩ := hSw
     have y0 : w'.cell? ⟨w.heap.size, 0, none⟩ = some (.int .i64 (n : Int)) := g1.cell 0
     have y1 : w'.cell? ⟨w.heap.size + 1, 0, none⟩ = some (.int .i64 t.base) := g2.cell 0
     have y2 : w'.cell? ⟨w.heap.size + 1, 1, none⟩ = some (.slice a' t.subs.length c') := g2.cell 1
     go_simp <;> with_reducible rfl
    try simp only [Act.put, sq]
    refine tkq (v := ?_) 4 rfl ?_ ?_
    rotate_left
    ·intro w' hSw
     obtain ⟨g1, g2, y3, y4⟩ := hSw
     have y0 : w'.cell? ⟨w.heap.size, 0, none⟩ = some (.int .i64 (n : Int)) := g1.cell 0
     have y1 : w'.cell? ⟨w.heap.size + 1, 0, none⟩ = some (.int .i64 t.base) := g2.cell 0
     have y2 : w'.cell? ⟨w.heap.size + 1, 1, none⟩ = some (.slice a' t.subs.length c') := g2.cell 1
     go_simp <;> with_reducible rfl
    try simp only [Act.put, sq]
    refine tkq (v := ?_) 5 rfl ?_ ?_
    rotate_left
    ·intro w' hSw
     obtain ⟨g1, g2, y3, y4⟩ := hSw
     have y0 : w'.cell? ⟨w.heap.size, 0, none⟩ = some (.int .i64 (n : Int)) := g1.cell 0
     have y1 : w'.cell? ⟨w.heap.size + 1, 0, none⟩ = some (.int .i64 t.base) := g2.cell 0
     have y2 : w'.cell? ⟨w.heap.size + 1, 1, none⟩ = some (.slice a' t.subs.length c') := g2.cell 1
     go_simp <;> with_reducible rfl
    try simp only [Act.put, sq]
    refine rdq 6 rfl fun K hK => ?_
    go_simp
    go_at_call 15
    refine (sameY_any y t _ _ w2.drew X X (HYV.out.later (Below.refl _ _).drew) (HV2.out.later (Below.refl _ _).drew)).mono ?_
    rintro e w4 ⟨rfl, hb4⟩
    have O4 : Hid (Below w2.heap.size w2 w4) := ((Below.refl _ _).drew).trans hb4
    have k4 : Blk w4 w.heap.size #[.int .i64 (n : Int), .slice a 0 c] 27 ∧ Blk w4 (w.heap.size + 1) #[.int .i64 t.base, .slice a' t.subs.length c'] 27 ∧ w4.cell? ⟨H, n * 2, none⟩ = some (.int .i64 y.base) ∧ w4.cell? ⟨H, n * 2 + 1, none⟩ = some (.slice ay y.subs.length cy) := ⟨kd.1.below hb4 kd.1.lt, kd.2.1.below hb4 kd.2.1.lt, bcellY hb4 kd.2.2.1, bcellY hb4 kd.2.2.2⟩
    clear hb4
    go_simp
    refine hK.out _ _ (by exact k4) (fun hHeld => ?_)
    clear hK K
    try simp only [Act.put, sq]
    refine tkq (v := ?_) 7 rfl ?_ ?_
    rotate_left
    ·intro w' hSw
     go_simp <;> with_reducible rfl
    try simp only [Act.put, sq]
    refine wpAnyH_done (by kernel_rfl) ?_ _
    go_wp2_with fail
    go_ret
    refine ⟨by rw [HC.out]; rfl, ?_, (ExQ.ofBelow B2.out).trans (ExQ.ofBelow O4.out)⟩
    rw [HC.out]
    exact M2.out.later O4.out
   | none =>
    rw [hlk] at k0
    simp only [Option.isSome_none] at k0
    have HC := hide (cyT_new (t := t) hlk)
    have W4 : Hid (HvR (((w2.setCell ⟨D, n, none⟩ (.bool true)).setCell ⟨H, n * 2, none⟩ (.int .i64 t.base)).setCell ⟨H, n * 2 + 1, none⟩ (.slice a' t.subs.length c')) H D X (σ ++ [((n : Int), t)])) := M2.out.put HNK.out hn hlk HX.out hs2.out
    have E4 : Hid (ExQ (fun b => b = H ∨ b = D) w2 (((w2.setCell ⟨D, n, none⟩ (.bool true)).setCell ⟨H, n * 2, none⟩ (.int .i64 t.base)).setCell ⟨H, n * 2 + 1, none⟩ (.slice a' t.subs.length c'))) := (((ExQ.refl _ _).set (Or.inr rfl) _ _).set (Or.inl rfl) _ _).set (Or.inl rfl) _ _
    have nK1 : w.heap.size ≠ D := by omega
    have nK2 : w.heap.size + 1 ≠ D := by omega
    have nHK : H ≠ D := HNK.out
    have M1 := hide m1
    have M2' := hide m2
    have fK : w2.frozen? ⟨D, n, none⟩ = false := m2.frozen n
    have sK := m2.lt
    have sH := m1.lt
    have q0 : (w2.setCell ⟨D, n, none⟩ (.bool true)).cell? ⟨w.heap.size, 0, none⟩ = some (.int .i64 (n : Int)) := (A2.out.setOther _ _ nK1).cell 0
    have q1 : (w2.setCell ⟨D, n, none⟩ (.bool true)).cell? ⟨w.heap.size + 1, 0, none⟩ = some (.int .i64 t.base) := (C2.out.setOther _ _ nK2).cell 0
    have q2 : (w2.setCell ⟨D, n, none⟩ (.bool true)).cell? ⟨w.heap.size + 1, 1, none⟩ = some (.slice a' t.subs.length c') := (C2.out.setOther _ _ nK2).cell 1
    obtain ⟨h0, hh0⟩ : ∃ v, (w2.setCell ⟨D, n, none⟩ (.bool true)).cell? ⟨H, n * 2, none⟩ = some v := ⟨_, ((m1.setOther n (.bool true) nHK).cell (n * 2)).trans (Array.getElem?_eq_getElem (by omega))⟩
    obtain ⟨h1, hh1⟩ : ∃ v, (w2.setCell ⟨D, n, none⟩ (.bool true)).cell? ⟨H, n * 2 + 1, none⟩ = some v := ⟨_, ((m1.setOther n (.bool true) nHK).cell (n * 2 + 1)).trans (Array.getElem?_eq_getElem (by omega))⟩
    have f0 : (w2.setCell ⟨D, n, none⟩ (.bool true)).frozen? ⟨H, n * 2, none⟩ = false := (m1.setOther n (.bool true) nHK).frozen _
    have f1 : (w2.setCell ⟨D, n, none⟩ (.bool true)).frozen? ⟨H, n * 2 + 1, none⟩ = false := (m1.setOther n (.bool true) nHK).frozen _
    have HN := hide hn
    clear hlk m1 m2 m3 m4 m5 m6 hn
    go_wp2_with fail
    go_ret
    refine ⟨by rw [HC.out]; rfl, ?_, (ExQ.ofBelow B2.out).trans E4.out⟩
    rw [HC.out]
    exact W4.out
  ·obtain ⟨pb, po, p1, p1c, p2, p2c, rfl, hKP⟩ := slY_twoE hs
   have KP := hide hKP
   have hB2 := bsY_two hbs
   clear hKP hs hsh hbs
   have IP := hide (IH.out p (by simp))
   have IQ := hide (IH.out q (by simp))
   clear IH hM
   have e2 : ([p, q] : List Ty).length = 2 := rfl
   rw [e2] at *
   clear e2
   go_enter Tryz.func34, Tryz.ntmps34
   go_upto_region 1 with fail
   generalize ((w.alloc (.cells #[.int .i64 x0, .slice (some ⟨pb, po, none⟩) 2 c] 27)).alloc (.cells #[.int .i64 t.base, .slice a' t.subs.length c'] 27)) = w2 at *
   have x1' := A2.out.c1
   go_upto_region 7 with fail
   clear x1'
   have gR : Hid (w.heap.size + 1 < w2.heap.size) := C2.out.lt
   have E2 : Hid (ExQ (fun b => b = H ∨ b = D) w w2) := ExQ.ofBelow B2.out
   by_cases ht2 : t.subs.length = 2
   ·obtain ⟨y0, ts⟩ := t
    have ht2' : ts.length = 2 := ht2
    obtain ⟨tu, tv, rfl⟩ : ∃ tu tv, ts = [tu, tv] := by match ts, ht2' with | [tu, tv], _ => exact ⟨_, _, rfl⟩
    clear ht2 ht2'
    obtain ⟨tb, to_, t1, t1c, t2, t2c, rfl, hKT⟩ := slY_twoE hs'
    have KT := hide hKT
    clear hKT hs'
    have e2 : ([tu, tv] : List Ty).length = 2 := rfl
    simp only [e2] at *
    clear e2
    have HC := hide (cyT_two (p := p) (q := q) (u := tu) (v := tv) x0 y0 σ)
    have KS : Hid (∀ w', (Blk w' w.heap.size #[.int .i64 x0, .slice (some ⟨pb, po, none⟩) 2 c] 27 ∧ Blk w' (w.heap.size + 1) #[.int .i64 y0, .slice (some ⟨tb, to_, none⟩) 2 c'] 27 ∧ ExQ (fun b => b = H ∨ b = D) w w') → w'.cell? ⟨w.heap.size, 1, none⟩ = some (.slice (some ⟨pb, po, none⟩) 2 c) ∧ w'.cell? ⟨w.heap.size + 1, 1, none⟩ = some (.slice (some ⟨tb, to_, none⟩) 2 c') ∧ (w'.cell? ⟨pb, po, none⟩ = some (.int .i64 p.base) ∧ w'.cell? ⟨pb, po + 1, none⟩ = some (.slice p1 p.subs.length p1c) ∧ w'.cell? ⟨pb, po + 2, none⟩ = some (.int .i64 q.base) ∧ w'.cell? ⟨pb, po + 2 + 1, none⟩ = some (.slice p2 q.subs.length p2c)) ∧ (w'.cell? ⟨tb, to_, none⟩ = some (.int .i64 tu.base) ∧ w'.cell? ⟨tb, to_ + 1, none⟩ = some (.slice t1 tu.subs.length t1c) ∧ w'.cell? ⟨tb, to_ + 2, none⟩ = some (.int .i64 tv.base) ∧ w'.cell? ⟨tb, to_ + 2 + 1, none⟩ = some (.slice t2 tv.subs.length t2c))) := fun w' h => ⟨h.1.cell 1, h.2.1.cell 1, (KP.out w' _ h.2.2 HZ.out).1, (KT.out w' _ h.2.2 HX.out).1⟩
    have kd : Blk w2.drew w.heap.size #[.int .i64 x0, .slice (some ⟨pb, po, none⟩) 2 c] 27 ∧ Blk w2.drew (w.heap.size + 1) #[.int .i64 y0, .slice (some ⟨tb, to_, none⟩) 2 c'] 27 ∧ ExQ (fun b => b = H ∨ b = D) w w2.drew := ⟨A2.out, C2.out, E2.out.drew⟩
    refine wp_region_held_drew (S := fun w' => Blk w' w.heap.size #[.int .i64 x0, .slice (some ⟨pb, po, none⟩) 2 c] 27 ∧ Blk w' (w.heap.size + 1) #[.int .i64 y0, .slice (some ⟨tb, to_, none⟩) 2 c'] 27 ∧ ExQ (fun b => b = H ∨ b = D) w w') (by kernel_rfl) kd (fun hHeld => ?_)
    refine tkq (v := ?_) 0 rfl ?_ ?_
    rotate_left
    ·intro w' hSw
     obtain ⟨y0', y1', ⟨y3, y4, y5, y6⟩, y7, y8, y9, y10⟩ := KS.out w' hSw
     go_simp <;> with_reducible rfl
    try simp only [Act.put, sq]
    refine tkq (v := ?_) 1 rfl ?_ ?_
    rotate_left
    ·intro w' hSw
     obtain ⟨y0', y1', ⟨y3, y4, y5, y6⟩, y7, y8, y9, y10⟩ := KS.out w' hSw
     go_simp <;> with_reducible rfl
    try simp only [Act.put, sq]
    refine tkq (v := ?_) 2 rfl ?_ ?_
    rotate_left
    ·intro w' hSw
     obtain ⟨y0', y1', ⟨y3, y4, y5, y6⟩, y7, y8, y9, y10⟩ := KS.out w' hSw
     go_simp <;> with_reducible rfl
    try simp only [Act.put, sq]
    refine tkq (v := ?_) 3 rfl ?_ ?_
    rotate_left
    ·intro w' hSw
     obtain ⟨y0', y1', ⟨y3, y4, y5, y6⟩, y7, y8, y9, y10⟩ := KS.out w' hSw
     go_simp <;> with_reducible rfl
    try simp only [Act.put, sq]
    refine tkq (v := ?_) 4 rfl ?_ ?_
    rotate_left
    ·intro w' hSw
     obtain ⟨y0', y1', ⟨y3, y4, y5, y6⟩, y7, y8, y9, y10⟩ := KS.out w' hSw
     go_simp <;> with_reducible rfl
    try simp only [Act.put, sq]
    refine tkq (v := ?_) 5 rfl ?_ ?_
    rotate_left
    ·intro w' hSw
     obtain ⟨y0', y1', ⟨y3, y4, y5, y6⟩, y7, y8, y9, y10⟩ := KS.out w' hSw
     go_simp <;> with_reducible rfl
    try simp only [Act.put, sq]
    refine tkq (v := ?_) 6 rfl ?_ ?_
    rotate_left
    ·intro w' hSw
     obtain ⟨y0', y1', ⟨y3, y4, y5, y6⟩, y7, y8, y9, y10⟩ := KS.out w' hSw
     go_simp <;> with_reducible rfl
    try simp only [Act.put, sq]
    refine tkq (v := ?_) 7 rfl ?_ ?_
    rotate_left
    ·intro w' hSw
     obtain ⟨y0', y1', ⟨y3, y4, y5, y6⟩, y7, y8, y9, y10⟩ := KS.out w' hSw
     go_simp <;> with_reducible rfl
    try simp only [Act.put, sq]
    refine tkq (v := ?_) 8 rfl ?_ ?_
    rotate_left
    ·intro w' hSw
     obtain ⟨y0', y1', ⟨y3, y4, y5, y6⟩, y7, y8, y9, y10⟩ := KS.out w' hSw
     go_simp <;> with_reducible rfl
    try simp only [Act.put, sq]
    refine tkq (v := ?_) 9 rfl ?_ ?_
    rotate_left
    ·intro w' hSw
     obtain ⟨y0', y1', ⟨y3, y4, y5, y6⟩, y7, y8, y9, y10⟩ := KS.out w' hSw
     go_simp <;> with_reducible rfl
    try simp only [Act.put, sq]
    refine tkq (v := ?_) 10 rfl ?_ ?_
    rotate_left
    ·intro w' hSw
     obtain ⟨y0', y1', ⟨y3, y4, y5, y6⟩, y7, y8, y9, y10⟩ := KS.out w' hSw
     go_simp <;> with_reducible rfl
    try simp only [Act.put, sq]
    refine tkq (v := ?_) 11 rfl ?_ ?_
    rotate_left
    ·intro w' hSw
     obtain ⟨y0', y1', ⟨y3, y4, y5, y6⟩, y7, y8, y9, y10⟩ := KS.out w' hSw
     go_simp <;> with_reducible rfl
    try simp only [Act.put, sq]
    refine tkq (v := ?_) 12 rfl ?_ ?_
    rotate_left
    ·intro w' hSw
     obtain ⟨y0', y1', ⟨y3, y4, y5, y6⟩, y7, y8, y9, y10⟩ := KS.out w' hSw
     go_simp <;> with_reducible rfl
    try simp only [Act.put, sq]
    refine tkq (v := ?_) 13 rfl ?_ ?_
    rotate_left
    ·intro w' hSw
     obtain ⟨y0', y1', ⟨y3, y4, y5, y6⟩, y7, y8, y9, y10⟩ := KS.out w' hSw
     go_simp <;> with_reducible rfl
    try simp only [Act.put, sq]
    refine tkq (v := ?_) 14 rfl ?_ ?_
    rotate_left
    ·intro w' hSw
     obtain ⟨y0', y1', ⟨y3, y4, y5, y6⟩, y7, y8, y9, y10⟩ := KS.out w' hSw
     go_simp <;> with_reducible rfl
    try simp only [Act.put, sq]
    refine rdq 15 rfl fun K hK => ?_
    go_simp
    go_at_call 34
    refine (IP.out tu σ _ _ w2.drew Z X hp hB2.1 (KP.out w2.drew _ kd.2.2 HZ.out).2.1 (KT.out w2.drew _ kd.2.2 HX.out).2.1 HZ.out HX.out (M2.out.later (Below.refl _ _).drew)).mono ?_
    rintro e w4 ⟨rfl, hm4, he4⟩
    have A4 : Hid (Blk w4 w.heap.size #[.int .i64 x0, .slice (some ⟨pb, po, none⟩) 2 c] 27) := kd.1.exq he4 (by omega)
    have C4 : Hid (Blk w4 (w.heap.size + 1) #[.int .i64 y0, .slice (some ⟨tb, to_, none⟩) 2 c'] 27) := kd.2.1.exq he4 (by omega)
    have k4 : Blk w4 w.heap.size #[.int .i64 x0, .slice (some ⟨pb, po, none⟩) 2 c] 27 ∧ Blk w4 (w.heap.size + 1) #[.int .i64 y0, .slice (some ⟨tb, to_, none⟩) 2 c'] 27 ∧ ExQ (fun b => b = H ∨ b = D) w w4 := ⟨A4.out, C4.out, kd.2.2.trans he4⟩
    have M4 := hide hm4
    clear hm4 he4
    obtain ⟨b1, τ, hbt⟩ : ∃ b1 τ, cyT p tu σ = (b1, τ) := ⟨_, _, rfl⟩
    rw [hbt] at M4 HC ⊢
    clear hbt
    simp only at M4 HC ⊢
    cases b1 with
    | true =>
     rw [if_pos rfl] at HC
     go_simp
     refine hK.out _ _ (by exact k4) (fun hHeld => ?_)
     clear hK K
     try simp only [Act.put, sq]
     refine tkq (v := ?_) 16 rfl ?_ ?_
     rotate_left
     ·intro w' hSw
      go_simp <;> with_reducible rfl
     try simp only [Act.put, sq]
     refine tkq (v := ?_) 17 rfl ?_ ?_
     rotate_left
     ·intro w' hSw
      go_simp <;> with_reducible rfl
     try simp only [Act.put, sq]
     refine tkq (v := ?_) 18 rfl ?_ ?_
     rotate_left
     ·intro w' hSw
      obtain ⟨y0', y1', ⟨y3, y4, y5, y6⟩, y7, y8, y9, y10⟩ := KS.out w' hSw
      go_simp <;> with_reducible rfl
     try simp only [Act.put, sq]
     refine tkq (v := ?_) 19 rfl ?_ ?_
     rotate_left
     ·intro w' hSw
      obtain ⟨y0', y1', ⟨y3, y4, y5, y6⟩, y7, y8, y9, y10⟩ := KS.out w' hSw
      go_simp <;> with_reducible rfl
     try simp only [Act.put, sq]
     refine tkq (v := ?_) 20 rfl ?_ ?_
     rotate_left
     ·intro w' hSw
      obtain ⟨y0', y1', ⟨y3, y4, y5, y6⟩, y7, y8, y9, y10⟩ := KS.out w' hSw
      go_simp <;> with_reducible rfl
     try simp only [Act.put, sq]
     refine tkq (v := ?_) 21 rfl ?_ ?_
     rotate_left
     ·intro w' hSw
      obtain ⟨y0', y1', ⟨y3, y4, y5, y6⟩, y7, y8, y9, y10⟩ := KS.out w' hSw
      go_simp <;> with_reducible rfl
     try simp only [Act.put, sq]
     refine tkq (v := ?_) 22 rfl ?_ ?_
     rotate_left
     ·intro w' hSw
      obtain ⟨y0', y1', ⟨y3, y4, y5, y6⟩, y7, y8, y9, y10⟩ := KS.out w' hSw
      go_simp <;> with_reducible rfl
     try simp only [Act.put, sq]
     refine tkq (v := ?_) 23 rfl ?_ ?_
     rotate_left
     ·intro w' hSw
      obtain ⟨y0', y1', ⟨y3, y4, y5, y6⟩, y7, y8, y9, y10⟩ := KS.out w' hSw
      go_simp <;> with_reducible rfl
     try simp only [Act.put, sq]
     refine tkq (v := ?_) 24 rfl ?_ ?_
     rotate_left
     ·intro w' hSw
      obtain ⟨y0', y1', ⟨y3, y4, y5, y6⟩, y7, y8, y9, y10⟩ := KS.out w' hSw
      go_simp <;> with_reducible rfl
     try simp only [Act.put, sq]
     refine tkq (v := ?_) 25 rfl ?_ ?_
     rotate_left
     ·intro w' hSw
      obtain ⟨y0', y1', ⟨y3, y4, y5, y6⟩, y7, y8, y9, y10⟩ := KS.out w' hSw
      go_simp <;> with_reducible rfl
     try simp only [Act.put, sq]
     refine tkq (v := ?_) 26 rfl ?_ ?_
     rotate_left
     ·intro w' hSw
      obtain ⟨y0', y1', ⟨y3, y4, y5, y6⟩, y7, y8, y9, y10⟩ := KS.out w' hSw
      go_simp <;> with_reducible rfl
     try simp only [Act.put, sq]
     refine tkq (v := ?_) 27 rfl ?_ ?_
     rotate_left
     ·intro w' hSw
      obtain ⟨y0', y1', ⟨y3, y4, y5, y6⟩, y7, y8, y9, y10⟩ := KS.out w' hSw
      go_simp <;> with_reducible rfl
     try simp only [Act.put, sq]
     refine rdq 28 rfl fun K hK => ?_
     go_simp
     go_at_call 34
     refine (IQ.out tv τ _ _ w4 Z X hq hB2.2 (KP.out w4 _ k4.2.2 HZ.out).2.2 (KT.out w4 _ k4.2.2 HX.out).2.2 HZ.out HX.out M4.out).mono ?_
     rintro e w6 ⟨rfl, hm6, he6⟩
     have A6 : Hid (Blk w6 w.heap.size #[.int .i64 x0, .slice (some ⟨pb, po, none⟩) 2 c] 27) := k4.1.exq he6 (by omega)
     have C6 : Hid (Blk w6 (w.heap.size + 1) #[.int .i64 y0, .slice (some ⟨tb, to_, none⟩) 2 c'] 27) := k4.2.1.exq he6 (by omega)
     have k6 : Blk w6 w.heap.size #[.int .i64 x0, .slice (some ⟨pb, po, none⟩) 2 c] 27 ∧ Blk w6 (w.heap.size + 1) #[.int .i64 y0, .slice (some ⟨tb, to_, none⟩) 2 c'] 27 ∧ ExQ (fun b => b = H ∨ b = D) w w6 := ⟨A6.out, C6.out, k4.2.2.trans he6⟩
     rw [← HC.out] at hm6 ⊢
     have M6 := hide hm6
     obtain ⟨b2, hb2⟩ : ∃ b2, b2 = (cyT ⟨x0, [p, q]⟩ ⟨y0, [tu, tv]⟩ σ).1 := ⟨_, rfl⟩
     rw [← hb2]
     have HB2 := hide hb2
     clear hm6 he6 hb2
     go_simp
     refine hK.out _ _ (by exact k6) (fun hHeld => ?_)
     clear hK K
     try simp only [Act.put, sq]
     refine tkq (v := ?_) 29 rfl ?_ ?_
     rotate_left
     ·intro w' hSw
      go_simp <;> with_reducible rfl
     try simp only [Act.put, sq]
     refine tkq (v := ?_) 30 rfl ?_ ?_
     rotate_left
     ·intro w' hSw
      go_simp <;> with_reducible rfl
     try simp only [Act.put, sq]
     refine wpAnyH_done (by kernel_rfl) ?_ _
     go_wp2_with fail
     go_ret
     exact ⟨by rw [← HB2.out]; rfl, M6.out, k6.2.2⟩
    | false =>
     rw [if_neg (by simp)] at HC
     go_simp
     refine hK.out _ _ (by exact k4) (fun hHeld => ?_)
     clear hK K
     try simp only [Act.put, sq]
     refine tkq (v := ?_) 16 rfl ?_ ?_
     rotate_left
     ·intro w' hSw
      go_simp <;> with_reducible rfl
     try simp only [Act.put, sq]
     refine tkq (v := ?_) 17 rfl ?_ ?_
     rotate_left
     ·intro w' hSw
      go_simp <;> with_reducible rfl
     try simp only [Act.put, sq]
     refine wpAnyH_take (i := 18) (v := undef) rfl (by kernel_rfl) (by kernel_rfl) (by kernel_rfl) (fun _ _ _ h => h) (Or.inr ⟨by rfl, rfl⟩) (by assumption) ?_
     try simp only [Act.put, sq]
     refine wpAnyH_take (i := 19) (v := undef) rfl (by kernel_rfl) (by kernel_rfl) (by kernel_rfl) (fun _ _ _ h => h) (Or.inr ⟨by rfl, rfl⟩) (by assumption) ?_
     try simp only [Act.put, sq]
     refine wpAnyH_take (i := 20) (v := undef) rfl (by kernel_rfl) (by kernel_rfl) (by kernel_rfl) (fun _ _ _ h => h) (Or.inr ⟨by rfl, rfl⟩) (by assumption) ?_
     try simp only [Act.put, sq]
     refine wpAnyH_take (i := 21) (v := undef) rfl (by kernel_rfl) (by kernel_rfl) (by kernel_rfl) (fun _ _ _ h => h) (Or.inr ⟨by rfl, rfl⟩) (by assumption) ?_
     try simp only [Act.put, sq]
     refine wpAnyH_take (i := 22) (v := undef) rfl (by kernel_rfl) (by kernel_rfl) (by kernel_rfl) (fun _ _ _ h => h) (Or.inr ⟨by rfl, rfl⟩) (by assumption) ?_
     try simp only [Act.put, sq]
     refine wpAnyH_take (i := 23) (v := undef) rfl (by kernel_rfl) (by kernel_rfl) (by kernel_rfl) (fun _ _ _ h => h) (Or.inr ⟨by rfl, rfl⟩) (by assumption) ?_
     try simp only [Act.put, sq]
     refine wpAnyH_take (i := 24) (v := undef) rfl (by kernel_rfl) (by kernel_rfl) (by kernel_rfl) (fun _ _ _ h => h) (Or.inr ⟨by rfl, rfl⟩) (by assumption) ?_
     try simp only [Act.put, sq]
     refine wpAnyH_take (i := 25) (v := undef) rfl (by kernel_rfl) (by kernel_rfl) (by kernel_rfl) (fun _ _ _ h => h) (Or.inr ⟨by rfl, rfl⟩) (by assumption) ?_
     try simp only [Act.put, sq]
     refine wpAnyH_take (i := 26) (v := undef) rfl (by kernel_rfl) (by kernel_rfl) (by kernel_rfl) (fun _ _ _ h => h) (Or.inr ⟨by rfl, rfl⟩) (by assumption) ?_
     try simp only [Act.put, sq]
     refine wpAnyH_take (i := 27) (v := undef) rfl (by kernel_rfl) (by kernel_rfl) (by kernel_rfl) (fun _ _ _ h => h) (Or.inr ⟨by rfl, rfl⟩) (by assumption) ?_
     try simp only [Act.put, sq]
     refine wpAnyH_take (i := 28) (v := undef) rfl (by kernel_rfl) (by kernel_rfl) (by kernel_rfl) (fun _ _ _ h => h) (Or.inr ⟨by rfl, rfl⟩) (by assumption) ?_
     try simp only [Act.put, sq]
     refine tkq (v := ?_) 29 rfl ?_ ?_
     rotate_left
     ·intro w' hSw
      go_simp <;> with_reducible rfl
     try simp only [Act.put, sq]
     refine tkq (v := ?_) 30 rfl ?_ ?_
     rotate_left
     ·intro w' hSw
      go_simp <;> with_reducible rfl
     try simp only [Act.put, sq]
     refine wpAnyH_done (by kernel_rfl) ?_ _
     go_wp2_with fail
     go_ret
     refine ⟨by rw [HC.out]; rfl, ?_, k4.2.2⟩
     rw [HC.out]
     exact M4.out
   ·have HC := hide (fun σ => cyT_no (p := p) (q := q) (t := t) (σ := σ) ht2 x0)
    have hl : ((t.subs.length : Int) == 2) = false := by simp; omega
    clear ht2
    have kd : Blk w2.drew (w.heap.size + 1) #[.int .i64 t.base, .slice a' t.subs.length c'] 27 := C2.out
    refine wp_region_held_drew (S := fun w' => Blk w' (w.heap.size + 1) #[.int .i64 t.base, .slice a' t.subs.length c'] 27) (by kernel_rfl) kd (fun hHeld => ?_)
    refine tkq (v := ?_) 0 rfl ?_ ?_
    rotate_left
    ·intro w' hSw
     go_simp <;> with_reducible rfl
    try simp only [Act.put, sq]
    refine tkq (v := ?_) 1 rfl ?_ ?_
    rotate_left
    ·intro w' hSw
     have y1 : w'.cell? ⟨w.heap.size + 1, 1, none⟩ = some (.slice a' t.subs.length c') := hSw.cell 1
     go_simp <;> with_reducible rfl
    try simp only [Act.put, sq]
    refine tkq (v := ?_) 2 rfl ?_ ?_
    rotate_left
    ·intro w' hSw
     go_simp <;> with_reducible rfl
    try simp only [Act.put, sq]
    refine tkq (v := ?_) 3 rfl ?_ ?_
    rotate_left
    ·intro w' hSw
     go_simp <;> with_reducible rfl
    try simp only [Act.put, sq]
    refine tkq (v := ?_) 4 rfl ?_ ?_
    rotate_left
    ·intro w' hSw
     go_simp <;> with_reducible rfl
    try simp only [Act.put, sq]
    refine wpAnyH_take (i := 5) (v := undef) rfl (by kernel_rfl) (by kernel_rfl) (by kernel_rfl) (fun _ _ _ h => h) (Or.inr ⟨by rfl, rfl⟩) (by assumption) ?_
    try simp only [Act.put, sq]
    refine wpAnyH_take (i := 6) (v := undef) rfl (by kernel_rfl) (by kernel_rfl) (by kernel_rfl) (fun _ _ _ h => h) (Or.inr ⟨by rfl, rfl⟩) (by assumption) ?_
    try simp only [Act.put, sq]
    refine wpAnyH_take (i := 7) (v := undef) rfl (by kernel_rfl) (by kernel_rfl) (by kernel_rfl) (fun _ _ _ h => h) (Or.inr ⟨by rfl, rfl⟩) (by assumption) ?_
    try simp only [Act.put, sq]
    refine wpAnyH_take (i := 8) (v := undef) rfl (by kernel_rfl) (by kernel_rfl) (by kernel_rfl) (fun _ _ _ h => h) (Or.inr ⟨by rfl, rfl⟩) (by assumption) ?_
    try simp only [Act.put, sq]
    refine wpAnyH_take (i := 9) (v := undef) rfl (by kernel_rfl) (by kernel_rfl) (by kernel_rfl) (fun _ _ _ h => h) (Or.inr ⟨by rfl, rfl⟩) (by assumption) ?_
    try simp only [Act.put, sq]
    refine wpAnyH_take (i := 10) (v := undef) rfl (by kernel_rfl) (by kernel_rfl) (by kernel_rfl) (fun _ _ _ h => h) (Or.inr ⟨by rfl, rfl⟩) (by assumption) ?_
    try simp only [Act.put, sq]
    refine wpAnyH_take (i := 11) (v := undef) rfl (by kernel_rfl) (by kernel_rfl) (by kernel_rfl) (fun _ _ _ h => h) (Or.inr ⟨by rfl, rfl⟩) (by assumption) ?_
    try simp only [Act.put, sq]
    refine wpAnyH_take (i := 12) (v := undef) rfl (by kernel_rfl) (by kernel_rfl) (by kernel_rfl) (fun _ _ _ h => h) (Or.inr ⟨by rfl, rfl⟩) (by assumption) ?_
    try simp only [Act.put, sq]
    refine wpAnyH_take (i := 13) (v := undef) rfl (by kernel_rfl) (by kernel_rfl) (by kernel_rfl) (fun _ _ _ h => h) (Or.inr ⟨by rfl, rfl⟩) (by assumption) ?_
    try simp only [Act.put, sq]
    refine wpAnyH_take (i := 14) (v := undef) rfl (by kernel_rfl) (by kernel_rfl) (by kernel_rfl) (fun _ _ _ h => h) (Or.inr ⟨by rfl, rfl⟩) (by assumption) ?_
    try simp only [Act.put, sq]
    refine wpAnyH_take (i := 15) (v := undef) rfl (by kernel_rfl) (by kernel_rfl) (by kernel_rfl) (fun _ _ _ h => h) (Or.inr ⟨by rfl, rfl⟩) (by assumption) ?_
    try simp only [Act.put, sq]
    refine tkq (v := ?_) 16 rfl ?_ ?_
    rotate_left
    ·intro w' hSw
     go_simp <;> with_reducible rfl
    try simp only [Act.put, sq]
    refine tkq (v := ?_) 17 rfl ?_ ?_
    rotate_left
    ·intro w' hSw
     go_simp <;> with_reducible rfl
    try simp only [Act.put, sq]
    refine wpAnyH_take (i := 18) (v := undef) rfl (by kernel_rfl) (by kernel_rfl) (by kernel_rfl) (fun _ _ _ h => h) (Or.inr ⟨by rfl, rfl⟩) (by assumption) ?_
    try simp only [Act.put, sq]
    refine wpAnyH_take (i := 19) (v := undef) rfl (by kernel_rfl) (by kernel_rfl) (by kernel_rfl) (fun _ _ _ h => h) (Or.inr ⟨by rfl, rfl⟩) (by assumption) ?_
    try simp only [Act.put, sq]
    refine wpAnyH_take (i := 20) (v := undef) rfl (by kernel_rfl) (by kernel_rfl) (by kernel_rfl) (fun _ _ _ h => h) (Or.inr ⟨by rfl, rfl⟩) (by assumption) ?_
    try simp only [Act.put, sq]
    refine wpAnyH_take (i := 21) (v := undef) rfl (by kernel_rfl) (by kernel_rfl) (by kernel_rfl) (fun _ _ _ h => h) (Or.inr ⟨by rfl, rfl⟩) (by assumption) ?_
    try simp only [Act.put, sq]
    refine wpAnyH_take (i := 22) (v := undef) rfl (by kernel_rfl) (by kernel_rfl) (by kernel_rfl) (fun _ _ _ h => h) (Or.inr ⟨by rfl, rfl⟩) (by assumption) ?_
    try simp only [Act.put, sq]
    refine wpAnyH_take (i := 23) (v := undef) rfl (by kernel_rfl) (by kernel_rfl) (by kernel_rfl) (fun _ _ _ h => h) (Or.inr ⟨by rfl, rfl⟩) (by assumption) ?_
    try simp only [Act.put, sq]
    refine wpAnyH_take (i := 24) (v := undef) rfl (by kernel_rfl) (by kernel_rfl) (by kernel_rfl) (fun _ _ _ h => h) (Or.inr ⟨by rfl, rfl⟩) (by assumption) ?_
    try simp only [Act.put, sq]
    refine wpAnyH_take (i := 25) (v := undef) rfl (by kernel_rfl) (by kernel_rfl) (by kernel_rfl) (fun _ _ _ h => h) (Or.inr ⟨by rfl, rfl⟩) (by assumption) ?_
    try simp only [Act.put, sq]
    refine wpAnyH_take (i := 26) (v := undef) rfl (by kernel_rfl) (by kernel_rfl) (by kernel_rfl) (fun _ _ _ h => h) (Or.inr ⟨by rfl, rfl⟩) (by assumption) ?_
    try simp only [Act.put, sq]
    refine wpAnyH_take (i := 27) (v := undef) rfl (by kernel_rfl) (by kernel_rfl) (by kernel_rfl) (fun _ _ _ h => h) (Or.inr ⟨by rfl, rfl⟩) (by assumption) ?_
    try simp only [Act.put, sq]
    refine wpAnyH_take (i := 28) (v := undef) rfl (by kernel_rfl) (by kernel_rfl) (by kernel_rfl) (fun _ _ _ h => h) (Or.inr ⟨by rfl, rfl⟩) (by assumption) ?_
    try simp only [Act.put, sq]
    refine tkq (v := ?_) 29 rfl ?_ ?_
    rotate_left
    ·intro w' hSw
     go_simp <;> with_reducible rfl
    try simp only [Act.put, sq]
    refine tkq (v := ?_) 30 rfl ?_ ?_
    rotate_left
    ·intro w' hSw
     go_simp <;> with_reducible rfl
    try simp only [Act.put, sq]
    refine wpAnyH_done (by kernel_rfl) ?_ _
    go_wp2_with fail
    go_ret
    refine ⟨by rw [HC.out]; rfl, ?_, E2.out.drew⟩
    rw [HC.out]
    exact M2.out.later (Below.refl _ _).drew
def TyP (p : UInt8) (E : Nat → Prop) (N P T n : Nat) (q : Value) (cs : List Pc) (t : Lm) (ar : List Tm) (w : World) (e : Ending) (w' : World) : Prop :=
 ∃ a c q' cs', e = .returned (.agg #[.string (tyT p t ar n).1.name, .slice a (tyT p t ar n).1.args.length c]) ∧ Sl w' (Zq E N P q') a (tyT p t ar n).1.args ∧ AsK E w' N P T (tyT p t ar n).2.2 q' cs' ∧ cs'.map (·.1) = cs.map (·.1) ++ (tyT p t ar n).2.1 ∧ AsF w w' P q q'
theorem slice_full {w : World} {Z : Nat → Prop} {au : Option Addr} {ar : List Tm} {ac : Nat} (hac : ar.length ≤ ac) (hs : Sl w Z au ar) (w' : World) : Sem.run Tryz.prog (Instr.slice 51 (.slice au ar.length ac) none (some (.int .i64 (ar.length : Int))) (some (.int .i64 (ar.length : Int)))) w' = .ok (.slice au ar.length ar.length) w' := by
 have h1 := Tryz.underlying51
 have hm := hs.1
 rw [run_slice_hm (P := Tryz.prog) (ht := h1) (h0 := by omega) (h2 := by omega) (h3 := by omega)]
 simp [go_sem, sliced]
theorem belSizeI {B : Nat} {w w' : World} (h : Below B w w') (hB : B ≤ w.heap.size) : B ≤ w'.heap.size := Nat.le_trans hB h.size
theorem belSetI {B : Nat} {w w' : World} (h : Below B w w') {R : Nat} (hR : B ≤ R) (i : Nat) (v : Value) : Below B w (w'.setCell ⟨R, i, none⟩ v) :=
 ⟨h.os, h.tape, h.output, by have := h.size; simp [World.setCell]; omega, fun k hk => by rw [Below.heap_setCell _ _ _ _ (by simp; omega)]; exact h.block k hk⟩
theorem ty_cnt {p : UInt8} (t : Lm) : ∀ (ar : List Tm) (n : Nat), errM ar.length 0 [t] = 0 → csL [t] = false → (tyT p t ar n).2.2 ≤ n + sizeM [t] ∧ 2 * (tyT p t ar n).2.1.length + 1 ≤ sizeM [t] := by
 induction t using Lm.ind with
 | h k i l ih =>
  intro ar n he hc
  rcases may_look he with ⟨x, e, h1, h2⟩ | ⟨b, e, hb⟩ | ⟨f, a, e, hf, hx⟩ | ⟨x, e, _, _⟩
  ·cases e
   rw [tyT_bound]
   simp [sizeM]
  ·cases e
   rw [tyT_fun]
   have hc' : csL [b] = false := by rw [csL_one] at hc; simpa using hc
   have hz := sizeM_oneI 2 0 [b]
   have hl : ((ar ++ [vrT p (n + 1)]).length : Int) = (ar.length : Int) + 1 := by simp
   have h := ih b (by simp) (ar ++ [vrT p (n + 1)]) (n + 1) (by rw [hl]; exact hb) hc'
   simp only
   omega
  ·cases e
   rw [tyT_app]
   have hc1 : csL [f] = false ∧ csL [a] = false := by
    rw [csL_one, csL_cons] at hc
    simpa using hc
   have hz : sizeM [(⟨3, 0, [f, a]⟩ : Lm)] = 1 + (sizeM [f] + sizeM [a]) := by rw [sizeM_oneI, sizeM_two]
   have h1 := ih f (by simp) ar n hf hc1.1
   have h2 := ih a (by simp) ar (tyT p f ar n).2.2 hx hc1.2
   simp only [List.length_append, List.length_singleton]
   omega
  ·cases e
   rw [csL_one] at hc
   simp at hc
theorem tyM_pos (t : Lm) : 1 ≤ sizeM [t] := by obtain ⟨k, x, l⟩ := t; simp [sizeM]
theorem zq_alloc {w : World} {E : Nat → Prop} {N P T n : Nat} {q : Value} {cs : List Pc} (h : AsK E w N P T n q cs) (hE : ∀ b, E b → b < w.heap.size) : ∀ b, w.heap.size ≤ b → Zq E N P q b := fun b hb => ⟨Nat.le_trans h.le hb, by have := h.box.lt; omega, fun e => by have := (h.own.lt b e.symm).2; omega, fun e => by have := hE b e; omega⟩
set_option maxHeartbeats 8000000 in
theorem typeI_any {B : Nat} (t : Lm) : ∀ (E : Nat → Prop) (N P n : Nat) (q v : Value) (cs : List Pc) (ar : List Tm) (au : Option Addr) (ac : Nat) (w : World) (X : Nat → Prop), errM ar.length 0 [t] = 0 → csL [t] = false → n + sizeM [t] ≤ 900 → cs.length + sizeM [t] ≤ 100000 → ar.length + sizeM [t] ≤ 1000 → ar.length ≤ ac → MV w X v t → (∀ x, X x → x < B) → B ≤ N → Tb B w → AsK E w N P 87 n q cs → Sl w (Zq E N P q) au ar → (∀ b, E b → b < w.heap.size) →
  Calls Tryz.prog 49 #[.pointer (some ⟨P, 0, none⟩), v, .slice au ar.length ac] w fun e w' => TyP 86 E N P 87 n q cs t ar w e w' := by
 induction t using Lm.ind with
 | h k0 i0 l0 ih =>
  intro E N P n q v cs ar au ac w X he hc hn hcs har hac hv hX hBN hT hK hS hEw
  have IH := hide ih
  clear ih
  obtain ⟨a, c, rfl, hs⟩ := hv
  have HX := hide hX
  have HT := hide hT
  have HAR := hide har
  have HN := hide hn
  have HCS := hide hcs
  rcases may_look he with ⟨x, e, h1, h2⟩ | ⟨b, e, hb⟩ | ⟨f, x, e, hf, hx⟩ | ⟨x, e, _, _⟩
  ·cases e
   obtain ⟨i, rfl⟩ : ∃ i : Nat, i0 = (i : Int) := ⟨i0.toNat, by omega⟩
   have hil : i < ar.length := by omega
   have K1 := hide (hK.later ((Below.refl _ _).alloc (Nat.le_refl _) (.cells #[.int .i64 1, .int .i64 (i : Int), .slice a 0 c] 24)))
   have K2 : Hid (AsK (fun b => E b ∨ b = w.heap.size + 1) ((w.alloc (.cells #[.int .i64 1, .int .i64 (i : Int), .slice a 0 c] 24)).alloc (.cells #[.string ⟨#[]⟩, .slice none 0 0] 53)) N P 87 n q cs) := (hK.excl (E' := fun b => E b ∨ b = w.heap.size + 1) fun b hb h => h.elim id (fun h => by omega)).later (((Below.refl _ _).alloc (Nat.le_refl _) _).alloc (by simp) _)
   have A2 : Hid (Bq ((w.alloc (.cells #[.int .i64 1, .int .i64 (i : Int), .slice a 0 c] 24)).alloc (.cells #[.string ⟨#[]⟩, .slice none 0 0] 53)) P q w.heap.size #[.int .i64 1, .int .i64 (i : Int), .slice a 0 c] 24) := (Bq.new hK _ _).later ((Below.refl _ _).alloc (Nat.le_refl _) _)
   have R2 : Hid (Bq ((w.alloc (.cells #[.int .i64 1, .int .i64 (i : Int), .slice a 0 c] 24)).alloc (.cells #[.string ⟨#[]⟩, .slice none 0 0] 53)) P q (w.heap.size + 1) #[.string ⟨#[]⟩, .slice none 0 0] 53) := by have h := Bq.new K1.out #[.string ⟨#[]⟩, .slice none 0 0] 53; rw [World.size_alloc] at h; exact h
   have B2 : Hid (Below w.heap.size w ((w.alloc (.cells #[.int .i64 1, .int .i64 (i : Int), .slice a 0 c] 24)).alloc (.cells #[.string ⟨#[]⟩, .slice none 0 0] 53))) := ((Below.refl _ _).alloc (Nat.le_refl _) _).alloc (by simp) _
   have S2 := hide ((sl_excl (E' := fun b => E b ∨ b = w.heap.size + 1) hS fun b hb h => h.elim id (fun h => by omega)).later B2.out)
   have F2 := hide (AsF.ofBelow B2.out P q)
   clear hK hS K1
   have HR := hide (tyT_bound 86 (i : Int) ar n)
   have hlt : ar.length - 1 - i < ar.length := by omega
   have HG : Hid ((tyT 86 ⟨1, (i : Int), []⟩ ar n).1 = ar[ar.length - 1 - i]) := by unfold Hid; rw [HR.out]; show ar.getD (ar.length - 1 - (i : Int).toNat) noT = _; rw [Int.toNat_natCast, List.getD_eq_getElem?_getD, List.getElem?_eq_getElem hlt]; rfl
   have HR2 : Hid ((tyT 86 ⟨1, (i : Int), []⟩ ar n).2 = ([], n)) := by unfold Hid; rw [HR.out]
   obtain ⟨b, o, a', c', rfl, d0, d1, hx⟩ := S2.out.get (Below.refl _ _) (fun _ _ h => h) (ar.length - 1 - i) hlt
   obtain ⟨j, hj⟩ : ∃ j, j = ar.length - 1 - i := ⟨_, rfl⟩
   have hji : (ar.length : Int) - 1 - (i : Int) = (j : Int) := by omega
   have HJ : Hid (ar.length - 1 - i = j) := hj.symm
   have hjl : (j : Int) < (ar.length : Int) := by omega
   have HM := S2.out.1
   obtain ⟨y, hy⟩ : ∃ y, y = ar[ar.length - 1 - i] := ⟨_, rfl⟩
   rw [← hy] at d0 d1 hx HG
   rw [← hj] at d0 d1
   clear hy hj hlt
   obtain ⟨a9, c9, e9, hy9⟩ := hx
   cases e9
   have Y9 := hide hy9
   clear hy9
   go_enter Tryz.func49, Tryz.ntmps49
   go_upto_region 1 with fail
   generalize ((w.alloc (.cells #[.int .i64 1, .int .i64 (i : Int), .slice a 0 c] 24)).alloc (.cells #[.string ⟨#[]⟩, .slice none 0 0] 53)) = w2 at *
   have x0 := A2.out.1.c0
   have x1 := A2.out.1.c1
   have x2 := A2.out.1.c2
   have r0 := R2.out.1.c0
   have r1 := R2.out.1.c1
   have f0 : w2.frozen? ⟨w.heap.size + 1, 0, none⟩ = false := R2.out.1.frozen 0
   have f1 : w2.frozen? ⟨w.heap.size + 1, 1, none⟩ = false := R2.out.1.frozen 1
   have hneg : ¬ ((ar.length : Int) - 1 - (i : Int) < 0) := by omega
   go_wp2_with fail
   obtain ⟨K3, F3, R3, S3⟩ := K2.out.store F2.out R2.out (by omega) (.string y.name) (.slice a' y.args.length c') Y9.out
   generalize ((w2.setCell ⟨w.heap.size + 1, 0, none⟩ (.string y.name)).setCell ⟨w.heap.size + 1, 1, none⟩ (.slice a' y.args.length c')) = w5 at *
   have c0 := R3.cell 0
   have c1 := R3.cell 1
   simp only [List.getElem?_toArray, List.getElem?_cons_zero, List.getElem?_cons_succ] at c0 c1
   refine bodyPost_ret (v := .agg #[.string y.name, .slice a' y.args.length c']) (by simp [results, Tryz.results49, go_sem, c0, c1]) rfl ?_
   refine ⟨a', c', q, cs, ?_, ?_, ?_, ?_, F3⟩
   ·rw [HG.out]
   ·rw [HG.out]; exact S3
   ·rw [HR2.out]; exact K3
   ·rw [HR2.out]; simp
  ·cases e
   obtain ⟨b', o', a1, c1, rfl, hKP⟩ := slM_one (B := B) hs hX
   have KP := hide hKP
   have hK0 := hK.le
   have hq0 : ∀ b, some b = q.ownBlock → N ≤ b ∧ b < w.heap.size := fun b hb => hK.own.lt b hb.symm
   have IHB := hide (IH.out b (by simp))
   clear hKP hs IH
   have e1 : ([b] : List Lm).length = 1 := rfl
   rw [e1]
   clear e1
   have K1 := hide (hK.later ((Below.refl _ _).alloc (Nat.le_refl _) (.cells #[.int .i64 2, .int .i64 0, .slice (some ⟨b', o', none⟩) 1 c] 24)))
   have K2 : Hid (AsK (fun b => E b ∨ b = w.heap.size + 1) ((w.alloc (.cells #[.int .i64 2, .int .i64 0, .slice (some ⟨b', o', none⟩) 1 c] 24)).alloc (.cells #[.string ⟨#[]⟩, .slice none 0 0] 53)) N P 87 n q cs) := (hK.excl (E' := fun b => E b ∨ b = w.heap.size + 1) fun b hb h => h.elim id (fun h => by omega)).later (((Below.refl _ _).alloc (Nat.le_refl _) _).alloc (by simp) _)
   have A2 : Hid (Bq ((w.alloc (.cells #[.int .i64 2, .int .i64 0, .slice (some ⟨b', o', none⟩) 1 c] 24)).alloc (.cells #[.string ⟨#[]⟩, .slice none 0 0] 53)) P q w.heap.size #[.int .i64 2, .int .i64 0, .slice (some ⟨b', o', none⟩) 1 c] 24) := (Bq.new hK _ _).later ((Below.refl _ _).alloc (Nat.le_refl _) _)
   have R2 : Hid (Bq ((w.alloc (.cells #[.int .i64 2, .int .i64 0, .slice (some ⟨b', o', none⟩) 1 c] 24)).alloc (.cells #[.string ⟨#[]⟩, .slice none 0 0] 53)) P q (w.heap.size + 1) #[.string ⟨#[]⟩, .slice none 0 0] 53) := by have h := Bq.new K1.out #[.string ⟨#[]⟩, .slice none 0 0] 53; rw [World.size_alloc] at h; exact h
   have B2 : Hid (Below w.heap.size w ((w.alloc (.cells #[.int .i64 2, .int .i64 0, .slice (some ⟨b', o', none⟩) 1 c] 24)).alloc (.cells #[.string ⟨#[]⟩, .slice none 0 0] 53))) := ((Below.refl _ _).alloc (Nat.le_refl _) _).alloc (by simp) _
   have S2 := hide ((sl_excl (E' := fun b => E b ∨ b = w.heap.size + 1) hS fun b hb h => h.elim id (fun h => by omega)).later B2.out)
   have F2 := hide (AsF.ofBelow B2.out P q)
   clear hK hS K1
   have HF := hide (tyT_fun 86 0 b ar n)
   have hzb : sizeM [(⟨2, 0, [b]⟩ : Lm)] = 1 + sizeM [b] := sizeM_oneI 2 0 [b]
   have HZB := hide hzb
   rw [hzb] at hn hcs har
   clear hzb HN HCS HAR
   have hcb : csL [b] = false := by rw [csL_one] at hc; simpa using hc
   have HCB := hide hcb
   clear hcb hc he
   have HEB : Hid (errM ((ar ++ [vrT 86 (n + 1)]).length) 0 [b] = 0) := by unfold Hid; rw [show ((ar ++ [vrT 86 (n + 1)]).length : Int) = (ar.length : Int) + 1 by simp]; exact hb
   clear hb hX hT
   have UP2 : Hid (Below B w _) := B2.out.mono (Nat.le_trans hBN hK0)
   have HT2 := hide (HT.out.on UP2.out)
   go_enter Tryz.func49, Tryz.ntmps49
   go_upto_region 1 with fail
   generalize ((w.alloc (.cells #[.int .i64 2, .int .i64 0, .slice (some ⟨b', o', none⟩) 1 c] 24)).alloc (.cells #[.string ⟨#[]⟩, .slice none 0 0] 53)) = w2 at *
   have x0 := A2.out.1.c0
   have x1 := A2.out.1.c1
   have x2 := A2.out.1.c2
   go_wp2_with fail
   refine (freshI_any K2.out (by omega) hBN HT2.out).mono ?_
   rintro e w3 ⟨rfl, hk3, hf3⟩
   have K4 : Hid (AsK (fun b => E b ∨ b = w.heap.size + 1) (w3.alloc (.cells #[.string (vrN 86 (n + 1)), .slice none 0 0] 53)) N P 87 (n + 1) q cs) := hk3.later ((Below.refl _ _).alloc (Nat.le_refl _) _)
   have F4 : Hid (AsF w (w3.alloc (.cells #[.string (vrN 86 (n + 1)), .slice none 0 0] 53)) P q q) := (F2.out.trans hf3).then ((Below.refl _ _).alloc (Nat.le_refl _) _)
   have V4 : Hid (Bq (w3.alloc (.cells #[.string (vrN 86 (n + 1)), .slice none 0 0] 53)) P q w3.heap.size #[.string (vrN 86 (n + 1)), .slice none 0 0] 53) := Bq.new hk3 _ _
   have A4 := hide ((hf3.bq A2.out).later ((Below.refl _ _).alloc (Nat.le_refl _) (.cells #[.string (vrN 86 (n + 1)), .slice none 0 0] 53)))
   have R4 := hide ((hf3.bq R2.out).later ((Below.refl _ _).alloc (Nat.le_refl _) (.cells #[.string (vrN 86 (n + 1)), .slice none 0 0] 53)))
   have S4 := hide ((hf3.sl S2.out).later ((Below.refl _ _).alloc (Nat.le_refl _) (.cells #[.string (vrN 86 (n + 1)), .slice none 0 0] 53)))
   clear hk3 hf3 K2 F2 A2 R2 S2 x0 x1 x2
   go_upto_region 6 with fail
   generalize w3.heap.size = V at *
   generalize w3.alloc (.cells #[.string (vrN 86 (n + 1)), .slice none 0 0] 53) = w4 at *
   have KV : Hid (∀ w', Below w4.heap.size w4 w' → w'.cell? ⟨V, 0, none⟩ = some (.string (vrN 86 (n + 1))) ∧ w'.cell? ⟨V, 1, none⟩ = some (.slice none 0 0)) := fun w' hb => ⟨(V4.out.later hb).1.cell 0, (V4.out.later hb).1.cell 1⟩
   have kd : Below w4.heap.size w4 w4.drew := (Below.refl _ _).drew
   have sliced : ∀ w' : World, Sem.run Tryz.prog (Instr.slice 51 (.slice au ar.length ac) none (some (.int .i64 (ar.length : Int))) (some (.int .i64 (ar.length : Int)))) w' = .ok (.slice au ar.length ar.length) w' := fun w' => slice_full hac S4.out w'
   refine wp_region_held_drew (S := Below w4.heap.size w4) (by kernel_rfl) kd (fun hHeld => ?_)
   refine tkq (v := ?_) 0 rfl ?_ ?_
   rotate_left
   ·intro w' hSw
    go_simp <;> with_reducible rfl
   try simp only [Act.put, sq]
   refine tkq (v := ?_) 1 rfl ?_ ?_
   rotate_left
   ·intro w' hSw
    go_simp <;> with_reducible rfl
   try simp only [Act.put, sq]
   refine tkq (v := ?_) 2 rfl ?_ ?_
   rotate_left
   ·intro w' hSw
    go_simp <;> with_reducible rfl
   try simp only [Act.put, sq]
   refine tkq (v := ?_) 3 rfl ?_ ?_
   rotate_left
   ·intro w' hSw
    go_simp <;> with_reducible rfl
   try simp only [Act.put, sq]
   refine tkq (v := ?_) 4 rfl ?_ ?_
   rotate_left
   ·intro w' hSw
    go_simp <;> with_reducible rfl
   try simp only [Act.put, sq]
   refine tkq (v := ?_) 5 rfl ?_ ?_
   rotate_left
   ·intro w' hSw
    have hsl := sliced w'
    go_simp <;> with_reducible rfl
   try simp only [Act.put, sq]
   refine tkq (v := ?_) 6 rfl ?_ ?_
   rotate_left
   ·intro w' hSw
    obtain ⟨y0, y1⟩ := KV.out w' hSw
    go_simp <;> with_reducible rfl
   try simp only [Act.put, sq]
   have k5 : Below w4.heap.size w4 ((w4.alloc (.cells #[.string (vrN 86 (n + 1)), .slice none 0 0] 53)).drew) := ((Below.refl _ _).alloc (Nat.le_refl _) _).drew
   have Q5 : Hid (Blk ((w4.alloc (.cells #[.string (vrN 86 (n + 1)), .slice none 0 0] 53)).drew) w4.heap.size #[.string (vrN 86 (n + 1)), .slice none 0 0] 53) := Blk.new w4 _ _
   have S5 := hide (S4.out.later k5)
   refine rdq 7 rfl fun K hK => ?_
   go_simp
   refine hK.out _ _ (by exact k5) (fun hHeld => ?_)
   clear hK K
   try simp only [Act.put, sq]
   generalize ((w4.alloc (.cells #[.string (vrN 86 (n + 1)), .slice none 0 0] 53)).drew) = w5 at *
   obtain ⟨g, cap, w6, hap, hs6, hb6, hg6, hc6⟩ := ar_app (N := N) S5.out (by omega) Q5.out
   have HAP := hide hap
   have k6 : Below w4.heap.size w4 w6 := k5.trans (hb6.mono k5.size)
   refine rdq 8 rfl fun K hK => ?_
   refine step_append_eqM rfl _ _ _ _ rfl rfl rfl HAP.out ?_
   refine hK.out _ _ (by exact k6) (fun hHeld => ?_)
   clear hK K
   try simp only [Act.put, sq]
   refine tkq (v := ?_) 9 rfl ?_ ?_
   rotate_left
   ·intro w' hSw
    go_simp <;> with_reducible rfl
   try simp only [Act.put, sq]
   refine wpAnyH_done (by kernel_rfl) ?_ _
   have hE4 : ∀ b, (E b ∨ b = w.heap.size + 1) → b < w4.heap.size := fun b hb => by have h1 := R4.out.1.lt; rcases hb with hb | hb; exact Nat.lt_trans (hEw b hb) (by omega); omega
   have S6 : Hid (Sl w6 (Zq (fun b => E b ∨ b = w.heap.size + 1) N P q) (some ⟨g, 0, none⟩) (ar ++ [vrT 86 (n + 1)])) := hs6.mono fun b hb _ => hb.elim id (fun e => by rw [e]; exact zq_alloc K4.out hE4 g (Nat.le_trans k5.size hg6))
   have K6 := hide (K4.out.later k6)
   have F6 := hide (F4.out.then k6)
   have A6 := hide (A4.out.later k6)
   have R6 := hide (R4.out.later k6)
   have V6 := hide (V4.out.later k6)
   have HE6 : Hid (∀ b, (E b ∨ b = w.heap.size + 1) → b < w6.heap.size) := fun b hb => Nat.lt_of_lt_of_le (hE4 b hb) k6.size
   have HVR : Hid (V ≠ w.heap.size + 1) := fun e => by have h1 := V4.out.1; have h2 := R4.out.1; rw [e] at h1; have h3 := h1.cell 0; have h4 := h2.cell 0; rw [h3] at h4; simp [vrN] at h4
   have HCAP := hide hc6
   clear hs6 hb6 hg6 hc6 k6 k5 kd S5 Q5 S4 K4 F4 A4 R4 V4 KV hE4 HAP hap sliced
   skip
   have UP6 : Hid (Below B w w6) := (F6.out.1.below hK0 (fun b hb => by rcases hb with rfl | hb; exact K6.out.ge; exact (hq0 b hb).1)).mono hBN
   have KS : Hid (∀ w', (Blk w' V #[.string (vrN 86 (n + 1)), .slice none 0 0] 53 ∧ Blk w' w.heap.size #[.int .i64 2, .int .i64 0, .slice (some ⟨b', o', none⟩) 1 c] 24 ∧ Below B w w') → (w'.cell? ⟨V, 0, none⟩ = some (.string (vrN 86 (n + 1))) ∧ w'.cell? ⟨V, 1, none⟩ = some (.slice none 0 0)) ∧ w'.cell? ⟨w.heap.size, 2, none⟩ = some (.slice (some ⟨b', o', none⟩) 1 c) ∧ (w'.cell? ⟨b', o', none⟩ = some (.int .i64 b.kind) ∧ w'.cell? ⟨b', o' + 1, none⟩ = some (.int .i64 b.idx) ∧ w'.cell? ⟨b', o' + 2, none⟩ = some (.slice a1 b.subs.length c1))) := fun w' h => ⟨⟨h.1.cell 0, h.1.cell 1⟩, h.2.1.cell 2, (KP.out w' h.2.2).1⟩
   go_wp2_with fail
   have kd : Blk w6.drew V #[.string (vrN 86 (n + 1)), .slice none 0 0] 53 ∧ Blk w6.drew w.heap.size #[.int .i64 2, .int .i64 0, .slice (some ⟨b', o', none⟩) 1 c] 24 ∧ Below B w w6.drew := ⟨V6.out.1, A6.out.1, UP6.out.drew⟩
   refine wp_region_held_drew (S := fun w' => Blk w' V #[.string (vrN 86 (n + 1)), .slice none 0 0] 53 ∧ Blk w' w.heap.size #[.int .i64 2, .int .i64 0, .slice (some ⟨b', o', none⟩) 1 c] 24 ∧ Below B w w') (by kernel_rfl) kd (fun hHeld => ?_)
   refine tkq (v := ?_) 0 rfl ?_ ?_
   rotate_left
   ·intro w' hSw
    obtain ⟨⟨y0, y1⟩, y2, y3, y4, y5⟩ := KS.out w' hSw
    go_simp <;> with_reducible rfl
   try simp only [Act.put, sq]
   refine tkq (v := ?_) 1 rfl ?_ ?_
   rotate_left
   ·intro w' hSw
    go_simp <;> with_reducible rfl
   try simp only [Act.put, sq]
   refine tkq (v := ?_) 2 rfl ?_ ?_
   rotate_left
   ·intro w' hSw
    go_simp <;> with_reducible rfl
   try simp only [Act.put, sq]
   refine tkq (v := ?_) 3 rfl ?_ ?_
   rotate_left
   ·intro w' hSw
    obtain ⟨⟨y0, y1⟩, y2, y3, y4, y5⟩ := KS.out w' hSw
    go_simp <;> with_reducible rfl
   try simp only [Act.put, sq]
   refine tkq (v := ?_) 4 rfl ?_ ?_
   rotate_left
   ·intro w' hSw
    go_simp <;> with_reducible rfl
   try simp only [Act.put, sq]
   refine tkq (v := ?_) 5 rfl ?_ ?_
   rotate_left
   ·intro w' hSw
    obtain ⟨⟨y0, y1⟩, y2, y3, y4, y5⟩ := KS.out w' hSw
    go_simp <;> with_reducible rfl
   try simp only [Act.put, sq]
   refine tkq (v := ?_) 6 rfl ?_ ?_
   rotate_left
   ·intro w' hSw
    go_simp <;> with_reducible rfl
   try simp only [Act.put, sq]
   have CALL := IHB.out (fun b => E b ∨ b = w.heap.size + 1) N P (n + 1) q (.agg #[.int .i64 b.kind, .int .i64 b.idx, .slice a1 b.subs.length c1]) cs (ar ++ [vrT 86 (n + 1)]) (some ⟨g, 0, none⟩) cap w6.drew X HEB.out HCB.out (by omega) (by omega) (by simp; omega) (by simp; exact HCAP.out) (KP.out w6.drew kd.2.2).2 HX.out hBN (HT.out.on kd.2.2) (K6.out.later (Below.refl _ _).drew) (S6.out.later (Below.refl _ _).drew) HE6.out
   rw [show (ar ++ [vrT 86 (n + 1)]).length = ar.length + 1 by simp] at CALL
   have HCALL := hide CALL
   clear CALL
   refine rdq 7 rfl fun K hK => ?_
   go_simp
   go_at_call 49
   refine HCALL.out.mono ?_
   rintro e w7 ⟨a7, c7, q7, cs7, rfl, hs7, hk7, hm7, hf7⟩
   have F7 : Hid (AsF w w7 P q q7) := (F6.out.then (Below.refl _ _).drew).trans hf7
   have V7 := hide (hf7.bq (V6.out.later (Below.refl _ _).drew))
   have A7 := hide (hf7.bq (A6.out.later (Below.refl _ _).drew))
   have R7 := hide (hf7.bq (R6.out.later (Below.refl _ _).drew))
   have UP7 : Hid (Below B w w7) := (F7.out.1.below hK0 (fun b hb => by rcases hb with rfl | hb; exact K6.out.ge; exact (hq0 b hb).1)).mono hBN
   have k7 : Blk w7 V #[.string (vrN 86 (n + 1)), .slice none 0 0] 53 ∧ Blk w7 w.heap.size #[.int .i64 2, .int .i64 0, .slice (some ⟨b', o', none⟩) 1 c] 24 ∧ Below B w w7 := ⟨V7.out.1, A7.out.1, UP7.out⟩
   have K7 := hide hk7
   have S7 := hide hs7
   have M7 := hide hm7
   have hE7 : Hid (∀ b, (E b ∨ b = w.heap.size + 1) → b < w7.heap.size) := fun b hb => Nat.lt_of_lt_of_le (HE6.out b hb) hf7.1.size
   clear hs7 hk7 hm7 hf7 V6 A6 R6 K6 F6 HE6 HCALL S6 UP6
   generalize hty : tyT 86 b (ar ++ [vrT 86 (n + 1)]) (n + 1) = r at *
   clear hty
   go_simp
   refine hK.out _ _ (by exact k7) (fun hHeld => ?_)
   clear hK K
   try simp only [Act.put, sq]
   refine rdq 8 rfl fun K hK => ?_
   go_simp
   go_at_call 67
   refine (arrowI_any (vrT 86 (n + 1)) r.1 _ _ _ (Zq (fun b => E b ∨ b = w.heap.size + 1) N P q7) ⟨none, 0, rfl, by simp [vrT], Or.inl rfl⟩ ⟨_, _, rfl, S7.out⟩).mono ?_
   rintro e w8 ⟨v8, rfl, ⟨a8, c8, rfl, hs8⟩, hb8⟩
   rw [show (arT (vrT 86 (n + 1)) r.1).name = ⟨#[102]⟩ from rfl, show (arT (vrT 86 (n + 1)) r.1).args.length = 2 from rfl]
   have K8 := hide (K7.out.later hb8)
   have F8 := hide (F7.out.then hb8)
   have V8 := hide (V7.out.later hb8)
   have A8 := hide (A7.out.later hb8)
   have R8 := hide (R7.out.later hb8)
   have S8 : Hid (Sl w8 (Zq (fun b => E b ∨ b = w.heap.size + 1) N P q7) a8 (arT (vrT 86 (n + 1)) r.1).args) := hs8.mono fun b hb _ => hb.elim id (zq_alloc K7.out hE7.out b)
   have k8 : Blk w8 V #[.string (vrN 86 (n + 1)), .slice none 0 0] 53 ∧ Blk w8 w.heap.size #[.int .i64 2, .int .i64 0, .slice (some ⟨b', o', none⟩) 1 c] 24 ∧ Below B w w8 := ⟨V8.out.1, A8.out.1, UP7.out.trans (hb8.mono (belSizeI UP7.out (Nat.le_trans hBN hK0)))⟩
   clear hs8 hb8 K7 F7 V7 A7 R7 S7
   go_simp
   refine hK.out _ _ (by exact k8) (fun hHeld => ?_)
   clear hK K
   try simp only [Act.put, sq]
   have r0 := R8.out.1.c0
   have r1 := R8.out.1.c1
   have f0 : w8.frozen? ⟨w.heap.size + 1, 0, none⟩ = false := R8.out.1.frozen 0
   have f1 : w8.frozen? ⟨w.heap.size + 1, 1, none⟩ = false := R8.out.1.frozen 1
   have k9 : Blk ((w8.setCell ⟨w.heap.size + 1, 0, none⟩ (.string ⟨#[102]⟩)).setCell ⟨w.heap.size + 1, 1, none⟩ (.slice a8 2 c8)) V #[.string (vrN 86 (n + 1)), .slice none 0 0] 53 ∧ Blk ((w8.setCell ⟨w.heap.size + 1, 0, none⟩ (.string ⟨#[102]⟩)).setCell ⟨w.heap.size + 1, 1, none⟩ (.slice a8 2 c8)) w.heap.size #[.int .i64 2, .int .i64 0, .slice (some ⟨b', o', none⟩) 1 c] 24 ∧ Below B w ((w8.setCell ⟨w.heap.size + 1, 0, none⟩ (.string ⟨#[102]⟩)).setCell ⟨w.heap.size + 1, 1, none⟩ (.slice a8 2 c8)) := ⟨(V8.out.1.setOther 0 _ HVR.out).setOther 1 _ HVR.out, (A8.out.1.setOther 0 _ (by omega)).setOther 1 _ (by omega), belSetI (belSetI k8.2.2 (by omega) 0 _) (by omega) 1 _⟩
   refine rdq 9 rfl fun K hK => ?_
   go_simp
   refine hK.out _ _ (by exact k9) (fun hHeld => ?_)
   clear hK K
   try simp only [Act.put, sq]
   refine wpAnyH_done (by kernel_rfl) ?_ _
   obtain ⟨K9, F9, R9, S9⟩ := K8.out.store F8.out R8.out (by omega) (.string ⟨#[102]⟩) (.slice a8 2 c8) S8.out
   generalize ((w8.setCell ⟨w.heap.size + 1, 0, none⟩ (.string ⟨#[102]⟩)).setCell ⟨w.heap.size + 1, 1, none⟩ (.slice a8 2 c8)) = w9 at *
   have c0 := R9.cell 0
   have c1 := R9.cell 1
   simp only [List.getElem?_toArray, List.getElem?_cons_zero, List.getElem?_cons_succ] at c0 c1
   clear r0 r1 f0 f1
   go_wp2_with fail
   refine bodyPost_ret (v := .agg #[.string ⟨#[102]⟩, .slice a8 2 c8]) (by simp [results, Tryz.results49, go_sem, c0, c1]) rfl ?_
   refine ⟨a8, c8, q7, cs7, ?_, ?_, ?_, ?_, F9⟩
   ·rw [HF.out]; rfl
   ·rw [HF.out]; exact S9
   ·rw [HF.out]; exact K9
   ·rw [HF.out]; exact M7.out
  ·cases e
   obtain ⟨b', o', a1, c1, a2, c2, rfl, hKP⟩ := slM_two (B := B) hs hX
   have KP := hide hKP
   have hK0 := hK.le
   have hq0 : ∀ b, some b = q.ownBlock → N ≤ b ∧ b < w.heap.size := fun b hb => hK.own.lt b hb.symm
   have IHF := hide (IH.out f (by simp))
   have IHX := hide (IH.out x (by simp))
   clear hKP hs IH
   have e1 : ([f, x] : List Lm).length = 2 := rfl
   rw [e1]
   clear e1
   have K1 := hide (hK.later ((Below.refl _ _).alloc (Nat.le_refl _) (.cells #[.int .i64 3, .int .i64 0, .slice (some ⟨b', o', none⟩) 2 c] 24)))
   have K2 : Hid (AsK (fun b => E b ∨ b = w.heap.size + 1) ((w.alloc (.cells #[.int .i64 3, .int .i64 0, .slice (some ⟨b', o', none⟩) 2 c] 24)).alloc (.cells #[.string ⟨#[]⟩, .slice none 0 0] 53)) N P 87 n q cs) := (hK.excl (E' := fun b => E b ∨ b = w.heap.size + 1) fun b hb h => h.elim id (fun h => by omega)).later (((Below.refl _ _).alloc (Nat.le_refl _) _).alloc (by simp) _)
   have A2 : Hid (Bq ((w.alloc (.cells #[.int .i64 3, .int .i64 0, .slice (some ⟨b', o', none⟩) 2 c] 24)).alloc (.cells #[.string ⟨#[]⟩, .slice none 0 0] 53)) P q w.heap.size #[.int .i64 3, .int .i64 0, .slice (some ⟨b', o', none⟩) 2 c] 24) := (Bq.new hK _ _).later ((Below.refl _ _).alloc (Nat.le_refl _) _)
   have R2 : Hid (Bq ((w.alloc (.cells #[.int .i64 3, .int .i64 0, .slice (some ⟨b', o', none⟩) 2 c] 24)).alloc (.cells #[.string ⟨#[]⟩, .slice none 0 0] 53)) P q (w.heap.size + 1) #[.string ⟨#[]⟩, .slice none 0 0] 53) := by have h := Bq.new K1.out #[.string ⟨#[]⟩, .slice none 0 0] 53; rw [World.size_alloc] at h; exact h
   have B2 : Hid (Below w.heap.size w ((w.alloc (.cells #[.int .i64 3, .int .i64 0, .slice (some ⟨b', o', none⟩) 2 c] 24)).alloc (.cells #[.string ⟨#[]⟩, .slice none 0 0] 53))) := ((Below.refl _ _).alloc (Nat.le_refl _) _).alloc (by simp) _
   have S2 := hide ((sl_excl (E' := fun b => E b ∨ b = w.heap.size + 1) hS fun b hb h => h.elim id (fun h => by omega)).later B2.out)
   have F2 := hide (AsF.ofBelow B2.out P q)
   clear hK hS K1
   have HF := hide (tyT_app 86 0 f x ar n)
   have hzb : sizeM [(⟨3, 0, [f, x]⟩ : Lm)] = 1 + (sizeM [f] + sizeM [x]) := by rw [sizeM_oneI, sizeM_two]
   rw [hzb] at hn hcs har
   clear hzb HN HCS HAR
   have hcb : csL [f] = false ∧ csL [x] = false := by rw [csL_one, csL_cons] at hc; simpa using hc
   have HCB := hide hcb
   have HEF := hide hf
   have HEX := hide hx
   have HOK := hide (fun m => ty_cnt (p := 86) f ar m hf hcb.1)
   have HOX := hide (fun m => ty_cnt (p := 86) x ar m hx hcb.2)
   clear hcb hc he hf hx hX hT
   have hsf := tyM_pos f
   have hsx := tyM_pos x
   have UP2 : Hid (Below B w _) := B2.out.mono (Nat.le_trans hBN hK0)
   have HT2 := hide (HT.out.on UP2.out)
   have HE2 : Hid (∀ b, (E b ∨ b = w.heap.size + 1) → b < ((w.alloc (.cells #[.int .i64 3, .int .i64 0, .slice (some ⟨b', o', none⟩) 2 c] 24)).alloc (.cells #[.string ⟨#[]⟩, .slice none 0 0] 53)).heap.size) := fun b hb => by have h1 := R2.out.1.lt; rcases hb with hb | hb; exact Nat.lt_trans (hEw b hb) (by omega); omega
   go_enter Tryz.func49, Tryz.ntmps49
   go_upto_region 1 with fail
   generalize ((w.alloc (.cells #[.int .i64 3, .int .i64 0, .slice (some ⟨b', o', none⟩) 2 c] 24)).alloc (.cells #[.string ⟨#[]⟩, .slice none 0 0] 53)) = w2 at *
   have x0 := A2.out.1.c0
   have x1 := A2.out.1.c1
   have x2 := A2.out.1.c2
   obtain ⟨⟨⟨y0, y1, y2⟩, y3, y4, y5⟩, hmf, hmx⟩ := KP.out w2 UP2.out
   go_wp2_with fail
   refine (IHF.out (fun b => E b ∨ b = w.heap.size + 1) N P n q _ cs ar au ac w2 X HEF.out HCB.out.1 (by omega) (by omega) (by omega) hac hmf HX.out hBN HT2.out K2.out S2.out HE2.out).mono ?_
   rintro e w3 ⟨a3, c3, q3, cs3, rfl, hs3, hk3, hm3, hf3⟩
   have hcnt := HOK.out n
   have hlen3 := congrArg List.length hm3
   simp only [List.length_map, List.length_append] at hlen3
   obtain ⟨rf, hrf⟩ : ∃ r, r = tyT 86 f ar n := ⟨_, rfl⟩
   rw [← hrf] at hs3 hk3 hm3 hcnt hlen3 HF ⊢
   clear hrf
   have hbd3 : cs3.length ≤ cs.length + sizeM [f] := by omega
   clear hlen3
   have W3 := hide (And.intro hs3 (And.intro hk3 (And.intro hm3 hf3)))
   clear hs3 hk3 hm3 hf3 y0 y1 y2 y3 y4 y5 hmf hmx x0 x1 x2
   have O4 : Hid (Below w3.heap.size w3 (w3.alloc (.cells #[.string rf.1.name, .slice a3 rf.1.args.length c3] 53))) := (Below.refl _ _).alloc (Nat.le_refl _) _
   have V4 : Hid (Bq (w3.alloc (.cells #[.string rf.1.name, .slice a3 rf.1.args.length c3] 53)) P q3 w3.heap.size #[.string rf.1.name, .slice a3 rf.1.args.length c3] 53) := Bq.new W3.out.2.1 _ _
   have SF4 := hide (W3.out.1.later O4.out)
   have K4 := hide (W3.out.2.1.later O4.out)
   have F4 := hide ((F2.out.trans W3.out.2.2.2).then O4.out)
   have A4 := hide ((W3.out.2.2.2.bq A2.out).later O4.out)
   have R4 := hide ((W3.out.2.2.2.bq R2.out).later O4.out)
   have S4 := hide ((W3.out.2.2.2.sl S2.out).later O4.out)
   have M3 := hide W3.out.2.2.1
   have HE4 : Hid (∀ b, (E b ∨ b = w.heap.size + 1) → b < (w3.alloc (.cells #[.string rf.1.name, .slice a3 rf.1.args.length c3] 53)).heap.size) := fun b hb => Nat.lt_of_lt_of_le (HE2.out b hb) (Nat.le_trans W3.out.2.2.2.1.size O4.out.size)
   clear W3 O4 K2 F2 A2 R2 S2 HE2
   go_upto_region 9 with fail
   generalize w3.heap.size = V1 at *
   generalize w3.alloc (.cells #[.string rf.1.name, .slice a3 rf.1.args.length c3] 53) = w4 at *
   skip
   have UP4 : Hid (Below B w w4) := (F4.out.1.below hK0 (fun b hb => by rcases hb with rfl | hb; exact K4.out.ge; exact (hq0 b hb).1)).mono hBN
   obtain ⟨⟨⟨y0, y1, y2⟩, y3, y4, y5⟩, hmf, hmx⟩ := KP.out w4 UP4.out
   have x2 := A4.out.1.c2
   go_wp2_with fail
   refine (IHX.out (fun b => E b ∨ b = w.heap.size + 1) N P rf.2.2 q3 _ cs3 ar au ac w4 X HEX.out HCB.out.2 (by omega) (by omega) (by omega) hac hmx HX.out hBN (HT.out.on UP4.out) K4.out S4.out HE4.out).mono ?_
   rintro e w5 ⟨a5, c5, q5, cs5, rfl, hs5, hk5, hm5, hf5⟩
   have hcnx := HOX.out rf.2.2
   have hlen5 := congrArg List.length hm5
   simp only [List.length_map, List.length_append] at hlen5
   obtain ⟨rx, hrx⟩ : ∃ r, r = tyT 86 x ar rf.2.2 := ⟨_, rfl⟩
   rw [← hrx] at hs5 hk5 hm5 hcnx hlen5 HF ⊢
   clear hrx
   have hbd5 : cs5.length ≤ cs3.length + sizeM [x] := by omega
   clear hlen5
   have W5 := hide (And.intro hs5 (And.intro hk5 (And.intro hm5 hf5)))
   clear hs5 hk5 hm5 hf5 y0 y1 y2 y3 y4 y5 hmf hmx x2
   have O6 : Hid (Below w5.heap.size w5 (w5.alloc (.cells #[.string rx.1.name, .slice a5 rx.1.args.length c5] 53))) := (Below.refl _ _).alloc (Nat.le_refl _) _
   have V6 : Hid (Bq (w5.alloc (.cells #[.string rx.1.name, .slice a5 rx.1.args.length c5] 53)) P q5 w5.heap.size #[.string rx.1.name, .slice a5 rx.1.args.length c5] 53) := Bq.new W5.out.2.1 _ _
   have SX6 := hide (W5.out.1.later O6.out)
   have SF6 := hide ((W5.out.2.2.2.sl SF4.out).later O6.out)
   have K6 := hide (W5.out.2.1.later O6.out)
   have F6 := hide ((F4.out.trans W5.out.2.2.2).then O6.out)
   have R6 := hide ((W5.out.2.2.2.bq R4.out).later O6.out)
   have VF6 := hide ((W5.out.2.2.2.bq V4.out).later O6.out)
   have M5 := hide W5.out.2.2.1
   have HE6 : Hid (∀ b, (E b ∨ b = w.heap.size + 1) → b < (w5.alloc (.cells #[.string rx.1.name, .slice a5 rx.1.args.length c5] 53)).heap.size) := fun b hb => Nat.lt_of_lt_of_le (HE4.out b hb) (Nat.le_trans W5.out.2.2.2.1.size O6.out.size)
   clear W5 O6 K4 F4 A4 R4 S4 V4 SF4 HE4 UP4
   go_upto_region 10 with fail
   generalize w5.heap.size = V2 at *
   generalize w5.alloc (.cells #[.string rx.1.name, .slice a5 rx.1.args.length c5] 53) = w6 at *
   have UP6 : Hid (Below B w w6) := (F6.out.1.below hK0 (fun b hb => by rcases hb with rfl | hb; exact K6.out.ge; exact (hq0 b hb).1)).mono hBN
   go_wp2_with fail
   refine (freshI_any K6.out (by omega) hBN (HT.out.on UP6.out)).mono ?_
   rintro e w7 ⟨rfl, hk7, hf7⟩
   obtain ⟨m, hm⟩ : ∃ m, m = rx.2.2 + 1 := ⟨_, rfl⟩
   rw [← hm] at hk7 HF ⊢
   have HMM := hide hm
   clear hm
   have W7 := hide (And.intro hk7 hf7)
   clear hk7 hf7
   have O8 : Hid (Below w7.heap.size w7 (w7.alloc (.cells #[.string (vrN 86 m), .slice none 0 0] 53))) := (Below.refl _ _).alloc (Nat.le_refl _) _
   have VV8 : Hid (Bq (w7.alloc (.cells #[.string (vrN 86 m), .slice none 0 0] 53)) P q5 w7.heap.size #[.string (vrN 86 m), .slice none 0 0] 53) := Bq.new W7.out.1 _ _
   have SX8 := hide ((W7.out.2.sl SX6.out).later O8.out)
   have SF8 := hide ((W7.out.2.sl SF6.out).later O8.out)
   have K8 := hide (W7.out.1.later O8.out)
   have F8 := hide ((F6.out.trans W7.out.2).then O8.out)
   have R8 := hide ((W7.out.2.bq R6.out).later O8.out)
   have VF8 := hide ((W7.out.2.bq VF6.out).later O8.out)
   have VX8 := hide ((W7.out.2.bq V6.out).later O8.out)
   have HE8 : Hid (∀ b, (E b ∨ b = w.heap.size + 1) → b < (w7.alloc (.cells #[.string (vrN 86 m), .slice none 0 0] 53)).heap.size) := fun b hb => Nat.lt_of_lt_of_le (HE6.out b hb) (Nat.le_trans W7.out.2.1.size O8.out.size)
   have HVR : Hid (w7.heap.size ≠ w.heap.size + 1) := by have h1 := R6.out.1.lt; have h2 := W7.out.2.1.size; unfold Hid; omega
   clear W7 O8 K6 F6 R6 V6 VF6 SX6 SF6 HE6 UP6
   go_upto_region 11 with fail
   generalize w7.heap.size = V3 at *
   generalize w7.alloc (.cells #[.string (vrN 86 m), .slice none 0 0] 53) = w8 at *
   have KS : Hid (∀ w', (Blk w' V1 #[.string rf.1.name, .slice a3 rf.1.args.length c3] 53 ∧ Blk w' V2 #[.string rx.1.name, .slice a5 rx.1.args.length c5] 53 ∧ Blk w' V3 #[.string (vrN 86 m), .slice none 0 0] 53) → (w'.cell? ⟨V1, 0, none⟩ = some (.string rf.1.name) ∧ w'.cell? ⟨V1, 1, none⟩ = some (.slice a3 rf.1.args.length c3)) ∧ (w'.cell? ⟨V2, 0, none⟩ = some (.string rx.1.name) ∧ w'.cell? ⟨V2, 1, none⟩ = some (.slice a5 rx.1.args.length c5)) ∧ w'.cell? ⟨V3, 0, none⟩ = some (.string (vrN 86 m)) ∧ w'.cell? ⟨V3, 1, none⟩ = some (.slice none 0 0)) := fun w' h => ⟨⟨h.1.cell 0, h.1.cell 1⟩, ⟨h.2.1.cell 0, h.2.1.cell 1⟩, h.2.2.cell 0, h.2.2.cell 1⟩
   have kd : Blk w8.drew V1 #[.string rf.1.name, .slice a3 rf.1.args.length c3] 53 ∧ Blk w8.drew V2 #[.string rx.1.name, .slice a5 rx.1.args.length c5] 53 ∧ Blk w8.drew V3 #[.string (vrN 86 m), .slice none 0 0] 53 := ⟨VF8.out.1, VX8.out.1, VV8.out.1⟩
   refine wp_region_held_drew (S := fun w' => Blk w' V1 #[.string rf.1.name, .slice a3 rf.1.args.length c3] 53 ∧ Blk w' V2 #[.string rx.1.name, .slice a5 rx.1.args.length c5] 53 ∧ Blk w' V3 #[.string (vrN 86 m), .slice none 0 0] 53) (by kernel_rfl) kd (fun hHeld => ?_)
   refine tkq (v := ?_) 0 rfl ?_ ?_
   rotate_left
   ·intro w' hSw
    go_simp <;> with_reducible rfl
   try simp only [Act.put, sq]
   refine tkq (v := ?_) 1 rfl ?_ ?_
   rotate_left
   ·intro w' hSw
    go_simp <;> with_reducible rfl
   try simp only [Act.put, sq]
   refine tkq (v := ?_) 2 rfl ?_ ?_
   rotate_left
   ·intro w' hSw
    go_simp <;> with_reducible rfl
   try simp only [Act.put, sq]
   refine tkq (v := ?_) 3 rfl ?_ ?_
   rotate_left
   ·intro w' hSw
    go_simp <;> with_reducible rfl
   try simp only [Act.put, sq]
   refine tkq (v := ?_) 5 rfl ?_ ?_
   rotate_left
   ·intro w' hSw
    obtain ⟨⟨y0, y1⟩, ⟨y2, y3⟩, y4, y5⟩ := KS.out w' hSw
    go_simp <;> with_reducible rfl
   try simp only [Act.put, sq]
   refine tkq (v := ?_) 6 rfl ?_ ?_
   rotate_left
   ·intro w' hSw
    obtain ⟨⟨y0, y1⟩, ⟨y2, y3⟩, y4, y5⟩ := KS.out w' hSw
    go_simp <;> with_reducible rfl
   try simp only [Act.put, sq]
   refine tkq (v := ?_) 7 rfl ?_ ?_
   rotate_left
   ·intro w' hSw
    obtain ⟨⟨y0, y1⟩, ⟨y2, y3⟩, y4, y5⟩ := KS.out w' hSw
    go_simp <;> with_reducible rfl
   try simp only [Act.put, sq]
   refine wpAnyH_ready (rs := [4, 8]) (by kernel_rfl) (by simp) ?_
   refine AllReadyH.cons rfl (fun K hK => ?_) (AllReadyH.cons rfl (fun K hK => ?_) AllReadyH.nil)
   ·have p0 : w8.cell? ⟨P, 0, none⟩ = some q5 := K8.out.box.cell 0
    go_simp
    refine hK.out _ _ (by exact kd) (fun hHeld => ?_)
    clear hK K
    try simp only [Act.put, sq]
    clear p0
    refine rdq 8 rfl fun K hK => ?_
    go_simp
    go_at_call 67
    refine (arrowI_any rx.1 (vrT 86 m) _ _ _ (Zq (fun b => E b ∨ b = w.heap.size + 1) N P q5) ⟨_, _, rfl, SX8.out.later (Below.refl _ _).drew⟩ ⟨none, 0, rfl, by simp [vrT], Or.inl rfl⟩).mono ?_
    rintro e w9 ⟨v9, rfl, ⟨a9, c9, rfl, hs9⟩, hb9⟩
    rw [show (arT rx.1 (vrT 86 m)).name = ⟨#[102]⟩ from rfl, show (arT rx.1 (vrT 86 m)).args.length = 2 from rfl]
    have hb9 : Below w8.heap.size w8 w9 := (Below.refl w8.heap.size w8).drew.trans hb9
    have K9 := hide (K8.out.later hb9)
    have F9 := hide (F8.out.then hb9)
    have SF9 := hide (SF8.out.later hb9)
    have R9 := hide (R8.out.later hb9)
    have VF9 := hide (VF8.out.later hb9)
    have VX9 := hide (VX8.out.later hb9)
    have VV9 := hide (VV8.out.later hb9)
    have SA9 : Hid (Sl w9 (Zq (fun b => E b ∨ b = w.heap.size + 1) N P q5) a9 (arT rx.1 (vrT 86 m)).args) := hs9.mono fun b hb _ => hb.elim id (zq_alloc K8.out HE8.out b)
    have k9 : Blk w9 V1 #[.string rf.1.name, .slice a3 rf.1.args.length c3] 53 ∧ Blk w9 V2 #[.string rx.1.name, .slice a5 rx.1.args.length c5] 53 ∧ Blk w9 V3 #[.string (vrN 86 m), .slice none 0 0] 53 := ⟨VF9.out.1, VX9.out.1, VV9.out.1⟩
    clear hs9 hb9
    go_simp
    refine hK.out _ _ (by exact k9) (fun hHeld => ?_)
    clear hK K
    try simp only [Act.put, sq]
    refine tkq (v := ?_) 9 rfl ?_ ?_
    rotate_left
    ·intro w' hSw
     go_simp <;> with_reducible rfl
    try simp only [Act.put, sq]
    refine rdq 10 rfl fun K hK => ?_
    go_simp
    have kA : Blk (w9.alloc (.cells #[.string rf.1.name, .slice a3 rf.1.args.length c3, .string ⟨#[102]⟩, .slice a9 2 c9] 76)) V1 #[.string rf.1.name, .slice a3 rf.1.args.length c3] 53 ∧ Blk (w9.alloc (.cells #[.string rf.1.name, .slice a3 rf.1.args.length c3, .string ⟨#[102]⟩, .slice a9 2 c9] 76)) V2 #[.string rx.1.name, .slice a5 rx.1.args.length c5] 53 ∧ Blk (w9.alloc (.cells #[.string rf.1.name, .slice a3 rf.1.args.length c3, .string ⟨#[102]⟩, .slice a9 2 c9] 76)) V3 #[.string (vrN 86 m), .slice none 0 0] 53 := ⟨k9.1.alloc _, k9.2.1.alloc _, k9.2.2.alloc _⟩
    refine hK.out _ _ (by exact kA) (fun hHeld => ?_)
    clear hK K
    try simp only [Act.put, sq]
    obtain ⟨g, cap, wB, hap, hst, hexB, hboxB⟩ := app_pairK (⟨⟨rf.1, arT rx.1 (vrT 86 m)⟩, (a3, c3), (a9, c9)⟩ : Pc) K9.out (by omega) ⟨SF9.out, SA9.out⟩
    have HAP := hide hap
    have kB : Blk wB V1 #[.string rf.1.name, .slice a3 rf.1.args.length c3] 53 ∧ Blk wB V2 #[.string rx.1.name, .slice a5 rx.1.args.length c5] 53 ∧ Blk wB V3 #[.string (vrN 86 m), .slice none 0 0] 53 := ⟨VF9.out.1.exq hexB (fun e => e.elim VF9.out.2.1 VF9.out.2.2), VX9.out.1.exq hexB (fun e => e.elim VX9.out.2.1 VX9.out.2.2), VV9.out.1.exq hexB (fun e => e.elim VV9.out.2.1 VV9.out.2.2)⟩
    clear hap
    refine rdq 11 rfl fun K hK => ?_
    refine step_append_eqM rfl _ _ _ _ rfl rfl rfl HAP.out ?_
    refine hK.out _ _ (by exact kB) (fun hHeld => ?_)
    clear hK K
    try simp only [Act.put, sq]
    have p0 : wB.cell? ⟨P, 0, none⟩ = some q5 := hboxB.cell 0
    have pf : wB.frozen? ⟨P, 0, none⟩ = false := hboxB.frozen 0
    obtain ⟨KC, FC⟩ := hst _ rfl
    have kC : Blk (wB.setCell ⟨P, 0, none⟩ (.slice (some ⟨g, 0, none⟩) (cs5.length + 1) cap)) V1 #[.string rf.1.name, .slice a3 rf.1.args.length c3] 53 ∧ Blk (wB.setCell ⟨P, 0, none⟩ (.slice (some ⟨g, 0, none⟩) (cs5.length + 1) cap)) V2 #[.string rx.1.name, .slice a5 rx.1.args.length c5] 53 ∧ Blk (wB.setCell ⟨P, 0, none⟩ (.slice (some ⟨g, 0, none⟩) (cs5.length + 1) cap)) V3 #[.string (vrN 86 m), .slice none 0 0] 53 := ⟨kB.1.setOther 0 _ VF9.out.2.1, kB.2.1.setOther 0 _ VX9.out.2.1, kB.2.2.setOther 0 _ VV9.out.2.1⟩
    refine tkq (v := ?_) 12 rfl ?_ ?_
    rotate_left
    ·intro w' hSw
     go_simp <;> with_reducible rfl
    try simp only [Act.put, sq]
    refine tkq (v := ?_) 13 rfl ?_ ?_
    rotate_left
    ·intro w' hSw
     go_simp <;> with_reducible rfl
    try simp only [Act.put, sq]
    refine rdq 14 rfl fun K hK => ?_
    go_simp
    refine hK.out _ _ (by exact kC) (fun hHeld => ?_)
    clear hK K
    try simp only [Act.put, sq]
    refine wpAnyH_done (by kernel_rfl) ?_ _
    have R10 := hide (FC.bq R9.out)
    have F10 := hide (F9.out.trans FC)
    have K10 := hide KC
    clear KC FC hst hexB hboxB p0 pf
    generalize (wB.setCell ⟨P, 0, none⟩ (.slice (some ⟨g, 0, none⟩) (cs5.length + 1) cap)) = w10 at *
    generalize (Value.slice (some ⟨g, 0, none⟩) (cs5.length + 1) cap) = q10 at *
    have v0 := kC.2.2.cell 0
    have v1 := kC.2.2.cell 1
    simp only [List.getElem?_toArray, List.getElem?_cons_zero, List.getElem?_cons_succ] at v0 v1
    have r0 := R10.out.1.c0
    have r1 := R10.out.1.c1
    have f0 : w10.frozen? ⟨w.heap.size + 1, 0, none⟩ = false := R10.out.1.frozen 0
    have f1 : w10.frozen? ⟨w.heap.size + 1, 1, none⟩ = false := R10.out.1.frozen 1
    go_wp2_with fail
    obtain ⟨K11, F11, R11, S11⟩ := K10.out.store F10.out R10.out (by omega) (.string (vrN 86 m)) (.slice none 0 0) (a := none) (l := []) ⟨by simp, Or.inl rfl⟩
    generalize ((w10.setCell ⟨w.heap.size + 1, 0, none⟩ (.string (vrN 86 m))).setCell ⟨w.heap.size + 1, 1, none⟩ (.slice none 0 0)) = w11 at *
    have c0 := R11.cell 0
    have c1 := R11.cell 1
    simp only [List.getElem?_toArray, List.getElem?_cons_zero, List.getElem?_cons_succ] at c0 c1
    refine bodyPost_ret (v := .agg #[.string (vrN 86 m), .slice none 0 0]) (by simp [results, Tryz.results49, go_sem, c0, c1]) rfl ?_
    refine ⟨none, 0, q10, cs5 ++ [⟨⟨rf.1, arT rx.1 (vrT 86 m)⟩, (a3, c3), (a9, c9)⟩], ?_, ?_, ?_, ?_, F11⟩
    ·rw [HF.out]; rfl
    ·rw [HF.out]; exact S11
    ·rw [HF.out]; exact K11
    ·rw [HF.out, List.map_append, M5.out, M3.out]; simp
   ·go_simp
    go_at_call 67
    refine (arrowI_any rx.1 (vrT 86 m) _ _ _ (Zq (fun b => E b ∨ b = w.heap.size + 1) N P q5) ⟨_, _, rfl, SX8.out.later (Below.refl _ _).drew⟩ ⟨none, 0, rfl, by simp [vrT], Or.inl rfl⟩).mono ?_
    rintro e w9 ⟨v9, rfl, ⟨a9, c9, rfl, hs9⟩, hb9⟩
    rw [show (arT rx.1 (vrT 86 m)).name = ⟨#[102]⟩ from rfl, show (arT rx.1 (vrT 86 m)).args.length = 2 from rfl]
    have hb9 : Below w8.heap.size w8 w9 := (Below.refl w8.heap.size w8).drew.trans hb9
    have K9 := hide (K8.out.later hb9)
    have F9 := hide (F8.out.then hb9)
    have SF9 := hide (SF8.out.later hb9)
    have R9 := hide (R8.out.later hb9)
    have VF9 := hide (VF8.out.later hb9)
    have VX9 := hide (VX8.out.later hb9)
    have VV9 := hide (VV8.out.later hb9)
    have SA9 : Hid (Sl w9 (Zq (fun b => E b ∨ b = w.heap.size + 1) N P q5) a9 (arT rx.1 (vrT 86 m)).args) := hs9.mono fun b hb _ => hb.elim id (zq_alloc K8.out HE8.out b)
    have k9 : Blk w9 V1 #[.string rf.1.name, .slice a3 rf.1.args.length c3] 53 ∧ Blk w9 V2 #[.string rx.1.name, .slice a5 rx.1.args.length c5] 53 ∧ Blk w9 V3 #[.string (vrN 86 m), .slice none 0 0] 53 := ⟨VF9.out.1, VX9.out.1, VV9.out.1⟩
    clear hs9 hb9
    go_simp
    refine hK.out _ _ (by exact k9) (fun hHeld => ?_)
    clear hK K
    try simp only [Act.put, sq]
    refine tkq (v := ?_) 9 rfl ?_ ?_
    rotate_left
    ·intro w' hSw
     go_simp <;> with_reducible rfl
    try simp only [Act.put, sq]
    refine wpAnyH_ready (rs := [4, 10]) (by kernel_rfl) (by simp) ?_
    refine AllReadyH.cons rfl (fun K hK => ?_) (AllReadyH.cons rfl (fun K hK => ?_) AllReadyH.nil)
    ·have p0 : w9.cell? ⟨P, 0, none⟩ = some q5 := K9.out.box.cell 0
     go_simp
     refine hK.out _ _ (by exact k9) (fun hHeld => ?_)
     clear hK K
     try simp only [Act.put, sq]
     clear p0
     refine rdq 10 rfl fun K hK => ?_
     go_simp
     have kA : Blk (w9.alloc (.cells #[.string rf.1.name, .slice a3 rf.1.args.length c3, .string ⟨#[102]⟩, .slice a9 2 c9] 76)) V1 #[.string rf.1.name, .slice a3 rf.1.args.length c3] 53 ∧ Blk (w9.alloc (.cells #[.string rf.1.name, .slice a3 rf.1.args.length c3, .string ⟨#[102]⟩, .slice a9 2 c9] 76)) V2 #[.string rx.1.name, .slice a5 rx.1.args.length c5] 53 ∧ Blk (w9.alloc (.cells #[.string rf.1.name, .slice a3 rf.1.args.length c3, .string ⟨#[102]⟩, .slice a9 2 c9] 76)) V3 #[.string (vrN 86 m), .slice none 0 0] 53 := ⟨k9.1.alloc _, k9.2.1.alloc _, k9.2.2.alloc _⟩
     refine hK.out _ _ (by exact kA) (fun hHeld => ?_)
     clear hK K
     try simp only [Act.put, sq]
     obtain ⟨g, cap, wB, hap, hst, hexB, hboxB⟩ := app_pairK (⟨⟨rf.1, arT rx.1 (vrT 86 m)⟩, (a3, c3), (a9, c9)⟩ : Pc) K9.out (by omega) ⟨SF9.out, SA9.out⟩
     have HAP := hide hap
     have kB : Blk wB V1 #[.string rf.1.name, .slice a3 rf.1.args.length c3] 53 ∧ Blk wB V2 #[.string rx.1.name, .slice a5 rx.1.args.length c5] 53 ∧ Blk wB V3 #[.string (vrN 86 m), .slice none 0 0] 53 := ⟨VF9.out.1.exq hexB (fun e => e.elim VF9.out.2.1 VF9.out.2.2), VX9.out.1.exq hexB (fun e => e.elim VX9.out.2.1 VX9.out.2.2), VV9.out.1.exq hexB (fun e => e.elim VV9.out.2.1 VV9.out.2.2)⟩
     clear hap
     refine rdq 11 rfl fun K hK => ?_
     refine step_append_eqM rfl _ _ _ _ rfl rfl rfl HAP.out ?_
     refine hK.out _ _ (by exact kB) (fun hHeld => ?_)
     clear hK K
     try simp only [Act.put, sq]
     have p0 : wB.cell? ⟨P, 0, none⟩ = some q5 := hboxB.cell 0
     have pf : wB.frozen? ⟨P, 0, none⟩ = false := hboxB.frozen 0
     obtain ⟨KC, FC⟩ := hst _ rfl
     have kC : Blk (wB.setCell ⟨P, 0, none⟩ (.slice (some ⟨g, 0, none⟩) (cs5.length + 1) cap)) V1 #[.string rf.1.name, .slice a3 rf.1.args.length c3] 53 ∧ Blk (wB.setCell ⟨P, 0, none⟩ (.slice (some ⟨g, 0, none⟩) (cs5.length + 1) cap)) V2 #[.string rx.1.name, .slice a5 rx.1.args.length c5] 53 ∧ Blk (wB.setCell ⟨P, 0, none⟩ (.slice (some ⟨g, 0, none⟩) (cs5.length + 1) cap)) V3 #[.string (vrN 86 m), .slice none 0 0] 53 := ⟨kB.1.setOther 0 _ VF9.out.2.1, kB.2.1.setOther 0 _ VX9.out.2.1, kB.2.2.setOther 0 _ VV9.out.2.1⟩
     refine tkq (v := ?_) 12 rfl ?_ ?_
     rotate_left
     ·intro w' hSw
      go_simp <;> with_reducible rfl
     try simp only [Act.put, sq]
     refine tkq (v := ?_) 13 rfl ?_ ?_
     rotate_left
     ·intro w' hSw
      go_simp <;> with_reducible rfl
     try simp only [Act.put, sq]
     refine rdq 14 rfl fun K hK => ?_
     go_simp
     refine hK.out _ _ (by exact kC) (fun hHeld => ?_)
     clear hK K
     try simp only [Act.put, sq]
     refine wpAnyH_done (by kernel_rfl) ?_ _
     have R10 := hide (FC.bq R9.out)
     have F10 := hide (F9.out.trans FC)
     have K10 := hide KC
     clear KC FC hst hexB hboxB p0 pf
     generalize (wB.setCell ⟨P, 0, none⟩ (.slice (some ⟨g, 0, none⟩) (cs5.length + 1) cap)) = w10 at *
     generalize (Value.slice (some ⟨g, 0, none⟩) (cs5.length + 1) cap) = q10 at *
     have v0 := kC.2.2.cell 0
     have v1 := kC.2.2.cell 1
     simp only [List.getElem?_toArray, List.getElem?_cons_zero, List.getElem?_cons_succ] at v0 v1
     have r0 := R10.out.1.c0
     have r1 := R10.out.1.c1
     have f0 : w10.frozen? ⟨w.heap.size + 1, 0, none⟩ = false := R10.out.1.frozen 0
     have f1 : w10.frozen? ⟨w.heap.size + 1, 1, none⟩ = false := R10.out.1.frozen 1
     go_wp2_with fail
     obtain ⟨K11, F11, R11, S11⟩ := K10.out.store F10.out R10.out (by omega) (.string (vrN 86 m)) (.slice none 0 0) (a := none) (l := []) ⟨by simp, Or.inl rfl⟩
     generalize ((w10.setCell ⟨w.heap.size + 1, 0, none⟩ (.string (vrN 86 m))).setCell ⟨w.heap.size + 1, 1, none⟩ (.slice none 0 0)) = w11 at *
     have c0 := R11.cell 0
     have c1 := R11.cell 1
     simp only [List.getElem?_toArray, List.getElem?_cons_zero, List.getElem?_cons_succ] at c0 c1
     refine bodyPost_ret (v := .agg #[.string (vrN 86 m), .slice none 0 0]) (by simp [results, Tryz.results49, go_sem, c0, c1]) rfl ?_
     refine ⟨none, 0, q10, cs5 ++ [⟨⟨rf.1, arT rx.1 (vrT 86 m)⟩, (a3, c3), (a9, c9)⟩], ?_, ?_, ?_, ?_, F11⟩
     ·rw [HF.out]; rfl
     ·rw [HF.out]; exact S11
     ·rw [HF.out]; exact K11
     ·rw [HF.out, List.map_append, M5.out, M3.out]; simp
    ·go_simp
     have kA : Blk (w9.alloc (.cells #[.string rf.1.name, .slice a3 rf.1.args.length c3, .string ⟨#[102]⟩, .slice a9 2 c9] 76)) V1 #[.string rf.1.name, .slice a3 rf.1.args.length c3] 53 ∧ Blk (w9.alloc (.cells #[.string rf.1.name, .slice a3 rf.1.args.length c3, .string ⟨#[102]⟩, .slice a9 2 c9] 76)) V2 #[.string rx.1.name, .slice a5 rx.1.args.length c5] 53 ∧ Blk (w9.alloc (.cells #[.string rf.1.name, .slice a3 rf.1.args.length c3, .string ⟨#[102]⟩, .slice a9 2 c9] 76)) V3 #[.string (vrN 86 m), .slice none 0 0] 53 := ⟨k9.1.alloc _, k9.2.1.alloc _, k9.2.2.alloc _⟩
     refine hK.out _ _ (by exact kA) (fun hHeld => ?_)
     clear hK K
     try simp only [Act.put, sq]
     refine rdq 4 rfl fun K hK => ?_
     have p0 : (w9.alloc (.cells #[.string rf.1.name, .slice a3 rf.1.args.length c3, .string ⟨#[102]⟩, .slice a9 2 c9] 76)).cell? ⟨P, 0, none⟩ = some q5 := (K9.out.later ((Below.refl _ _).alloc (Nat.le_refl _) (.cells #[.string rf.1.name, .slice a3 rf.1.args.length c3, .string ⟨#[102]⟩, .slice a9 2 c9] 76))).box.cell 0
     go_simp
     refine hK.out _ _ (by exact kA) (fun hHeld => ?_)
     clear hK K
     try simp only [Act.put, sq]
     clear p0
     obtain ⟨g, cap, wB, hap, hst, hexB, hboxB⟩ := app_pairK (⟨⟨rf.1, arT rx.1 (vrT 86 m)⟩, (a3, c3), (a9, c9)⟩ : Pc) K9.out (by omega) ⟨SF9.out, SA9.out⟩
     have HAP := hide hap
     have kB : Blk wB V1 #[.string rf.1.name, .slice a3 rf.1.args.length c3] 53 ∧ Blk wB V2 #[.string rx.1.name, .slice a5 rx.1.args.length c5] 53 ∧ Blk wB V3 #[.string (vrN 86 m), .slice none 0 0] 53 := ⟨VF9.out.1.exq hexB (fun e => e.elim VF9.out.2.1 VF9.out.2.2), VX9.out.1.exq hexB (fun e => e.elim VX9.out.2.1 VX9.out.2.2), VV9.out.1.exq hexB (fun e => e.elim VV9.out.2.1 VV9.out.2.2)⟩
     clear hap
     refine rdq 11 rfl fun K hK => ?_
     refine step_append_eqM rfl _ _ _ _ rfl rfl rfl HAP.out ?_
     refine hK.out _ _ (by exact kB) (fun hHeld => ?_)
     clear hK K
     try simp only [Act.put, sq]
     have p0 : wB.cell? ⟨P, 0, none⟩ = some q5 := hboxB.cell 0
     have pf : wB.frozen? ⟨P, 0, none⟩ = false := hboxB.frozen 0
     obtain ⟨KC, FC⟩ := hst _ rfl
     have kC : Blk (wB.setCell ⟨P, 0, none⟩ (.slice (some ⟨g, 0, none⟩) (cs5.length + 1) cap)) V1 #[.string rf.1.name, .slice a3 rf.1.args.length c3] 53 ∧ Blk (wB.setCell ⟨P, 0, none⟩ (.slice (some ⟨g, 0, none⟩) (cs5.length + 1) cap)) V2 #[.string rx.1.name, .slice a5 rx.1.args.length c5] 53 ∧ Blk (wB.setCell ⟨P, 0, none⟩ (.slice (some ⟨g, 0, none⟩) (cs5.length + 1) cap)) V3 #[.string (vrN 86 m), .slice none 0 0] 53 := ⟨kB.1.setOther 0 _ VF9.out.2.1, kB.2.1.setOther 0 _ VX9.out.2.1, kB.2.2.setOther 0 _ VV9.out.2.1⟩
     refine tkq (v := ?_) 12 rfl ?_ ?_
     rotate_left
     ·intro w' hSw
      go_simp <;> with_reducible rfl
     try simp only [Act.put, sq]
     refine tkq (v := ?_) 13 rfl ?_ ?_
     rotate_left
     ·intro w' hSw
      go_simp <;> with_reducible rfl
     try simp only [Act.put, sq]
     refine rdq 14 rfl fun K hK => ?_
     go_simp
     refine hK.out _ _ (by exact kC) (fun hHeld => ?_)
     clear hK K
     try simp only [Act.put, sq]
     refine wpAnyH_done (by kernel_rfl) ?_ _
     have R10 := hide (FC.bq R9.out)
     have F10 := hide (F9.out.trans FC)
     have K10 := hide KC
     clear KC FC hst hexB hboxB p0 pf
     generalize (wB.setCell ⟨P, 0, none⟩ (.slice (some ⟨g, 0, none⟩) (cs5.length + 1) cap)) = w10 at *
     generalize (Value.slice (some ⟨g, 0, none⟩) (cs5.length + 1) cap) = q10 at *
     have v0 := kC.2.2.cell 0
     have v1 := kC.2.2.cell 1
     simp only [List.getElem?_toArray, List.getElem?_cons_zero, List.getElem?_cons_succ] at v0 v1
     have r0 := R10.out.1.c0
     have r1 := R10.out.1.c1
     have f0 : w10.frozen? ⟨w.heap.size + 1, 0, none⟩ = false := R10.out.1.frozen 0
     have f1 : w10.frozen? ⟨w.heap.size + 1, 1, none⟩ = false := R10.out.1.frozen 1
     go_wp2_with fail
     obtain ⟨K11, F11, R11, S11⟩ := K10.out.store F10.out R10.out (by omega) (.string (vrN 86 m)) (.slice none 0 0) (a := none) (l := []) ⟨by simp, Or.inl rfl⟩
     generalize ((w10.setCell ⟨w.heap.size + 1, 0, none⟩ (.string (vrN 86 m))).setCell ⟨w.heap.size + 1, 1, none⟩ (.slice none 0 0)) = w11 at *
     have c0 := R11.cell 0
     have c1 := R11.cell 1
     simp only [List.getElem?_toArray, List.getElem?_cons_zero, List.getElem?_cons_succ] at c0 c1
     refine bodyPost_ret (v := .agg #[.string (vrN 86 m), .slice none 0 0]) (by simp [results, Tryz.results49, go_sem, c0, c1]) rfl ?_
     refine ⟨none, 0, q10, cs5 ++ [⟨⟨rf.1, arT rx.1 (vrT 86 m)⟩, (a3, c3), (a9, c9)⟩], ?_, ?_, ?_, ?_, F11⟩
     ·rw [HF.out]; rfl
     ·rw [HF.out]; exact S11
     ·rw [HF.out]; exact K11
     ·rw [HF.out, List.map_append, M5.out, M3.out]; simp
  ·cases e
   rw [csL_one] at hc
   simp at hc
theorem spreadTI {W0 W : World} {G0 : Nat} {Y : Nat → Prop} {a : Option Addr} {c : Nat} {l : List Tm} (hb : Below W0.heap.size W0 W) (hG : W0.heap.size ≤ G0) (hB : Blk W G0 #[] 53) (hs : Sl W0 Y a l) (hl : l.length ≤ 100000) :
  ∃ v1 W1 xs, (Builtin.append_ #[51, 51] 51 #[.slice (some ⟨G0, 0, none⟩) 0 0, .slice a l.length c]).run Tryz.prog W = .ok v1 W1 ∧ W1.ownsRow W0.heap.size 53 2 v1 l.length xs ∧ RowT W0 Y l xs ∧ Below W0.heap.size W0 W1 ∧ (∀ q, q < W.heap.size → q ≠ G0 → W1.heap[q]? = W.heap[q]?) ∧ W.heap.size ≤ W1.heap.size ∧ (∀ b, v1.ownBlock = some b → b = G0 ∨ W.heap.size ≤ b) := by
 obtain ⟨i0, hi, hz0, hz1, hz2⟩ := info_parts Tryz.infoTerm
 have hbs := hb.size
 have hown : W.ownsRow W0.heap.size 53 2 (.slice (some ⟨G0, 0, none⟩) 0 0) 0 [] := ⟨by simp, Or.inr ⟨G0, 0, #[], rfl, hG, hB, by omega, by unfold maxLen; omega, by simp, by simp⟩⟩
 have fin : ∀ (W1 : World), W.grownBy W1 (some G0) → Below W0.heap.size W0 W1 ∧ (∀ q, q < W.heap.size → q ≠ G0 → W1.heap[q]? = W.heap[q]?) ∧ W.heap.size ≤ W1.heap.size := by
  intro W1 hg
  exact ⟨hb.grown hg hbs (fun k hk => by simp at hk; omega), fun q hq hne => hg.block q hq (by simp; exact fun e => hne e), hg.size⟩
 cases a with
 | none =>
  have hl0 : l = [] := by
   rcases hs.2 with h | ⟨b, o, e, _⟩
   ·exact h
   ·cases e
  subst hl0
  obtain ⟨f1, f2, f3⟩ := fin W ⟨rfl, rfl, rfl, Nat.le_refl _, fun k hk _ => rfl⟩
  refine ⟨.slice (some ⟨G0, 0, none⟩) 0 0, W, [], ?_, hown, rfl, f1, f2, f3, fun b h => Or.inl (by simpa [Value.ownBlock] using h.symm)⟩
  have hrun : ∀ cc, (Builtin.append_ #[51, 51] 51 #[.slice (some ⟨G0, 0, none⟩) 0 0, .slice none 0 cc]).run Tryz.prog W = .ok (.slice (some ⟨G0, 0, none⟩) 0 0) W := fun cc => by
   simp [Builtin.append_, run_underlying Tryz.underlying51, sizeOf, typeInfo, hi, Builtin.lenOf, Builtin.firstCells, storeCells]
  exact hrun c
 | some ad =>
  obtain ⟨xs, hr, hx⟩ : ∃ xs, RowT W0 Y l xs ∧ ∀ j u, xs[j]? = some u → W.cell? (ad.add j) = some u := by
   rcases hs.2 with rfl | ⟨b, o, e, hL⟩
   ·exact ⟨[], rfl, fun j u hj => by simp at hj⟩
   ·cases e
    obtain ⟨xs, h1, h2⟩ := rowT_of_lies l b o hL
    refine ⟨xs, h1, fun j u hj => ?_⟩
    have e : (⟨b, o, none⟩ : Addr).add j = ⟨b, o + j, none⟩ := by
     by_cases h0 : j = 0
     ·subst h0; simp [Addr.add]
     ·simp [Addr.add, h0]
    rw [e]
    exact cell_later hb (h2 j u hj)
  obtain ⟨v1, W1, hrun, ho, hg, _, h5⟩ := run_append_own_at (P := Tryz.prog) W W0.heap.size 51 51 53 i0 _ 2 40 Tryz.underlying51 hi hz0 hz1 hz2 rfl (by decide) _ 0 [] hown ad l.length c xs hr.len hx (fun u hu => RowT.one hr u hu) (by unfold maxLen; omega) (by omega) hbs
  obtain ⟨f1, f2, f3⟩ := fin W1 (by simpa [Value.ownBlock] using hg)
  refine ⟨v1, W1, xs, hrun, by simpa using ho, hr, f1, f2, f3, fun b h => ?_⟩
  rcases h5 with h5 | h5
  ·rw [h5] at h
   exact Or.inl (by simpa [Value.ownBlock] using h.symm)
  ·rw [h5] at h
   exact Or.inr (by simp at h; omega)
theorem oneTI {W0 W : World} {P0 T : Nat} {Y : Nat → Prop} {v : Value} {l : List Tm} {xs : List Value} {s : ByteArray} (hb : Below W0.heap.size W0 W) (ho : W.ownsRow W0.heap.size 53 2 v l.length xs) (hr : RowT W0 Y l xs) (hP : Blk W P0 #[.string s, .slice none 0 0] T) (hl : l.length ≤ 100000) :
  ∃ g cap W1, (Builtin.append_ #[51, 51] 51 #[v, .slice (some ⟨P0, 0, none⟩) 1 1]).run Tryz.prog W = .ok (.slice (some ⟨g, 0, none⟩) (l.length + 1) cap) W1 ∧
   Sl W1 (fun b => Y b ∨ b = g) (some ⟨g, 0, none⟩) (l ++ [⟨s, []⟩]) ∧ Below W0.heap.size W0 W1 ∧ (W0.heap.size ≤ g ∧ g < W1.heap.size) ∧ l.length + 1 ≤ cap ∧ (∀ q, q < W.heap.size → some q ≠ v.ownBlock → W1.heap[q]? = W.heap[q]?) ∧ W.heap.size ≤ W1.heap.size ∧ (v.ownBlock = some g ∨ W.heap.size ≤ g) := by
 obtain ⟨i0, hi, hz0, hz1, hz2⟩ := info_parts Tryz.infoTerm
 have hbs := hb.size
 obtain ⟨g, cap, W1, hrun, ho1, hg, hat, hgl⟩ := run_append_lies (P := Tryz.prog) (w := W) 51 51 W0.heap.size 53 i0 _ 2 40 Tryz.underlying51 hi hz0 hz1 hz2 rfl (by decide) v l.length xs ho ⟨P0, 0, none⟩ 1 1 [.string s, .slice none 0 0] rfl (cells_two hP) (fun x hx => by simp at hx; rcases hx with rfl | rfl <;> rfl) (by decide) (by unfold maxLen; omega) (by omega) hbs _ rfl
 have hbl : Below W0.heap.size W0 W1 := hb.grown hg hbs (fun k hk => (ho.lt k hk).1)
 obtain ⟨g2, cap2, e, hg1, _, _⟩ := owned_val ho1 (by omega)
 cases e
 have hcap : l.length + 1 ≤ cap := by
  rcases ho1.2 with ⟨_, h0⟩ | ⟨g1, cap1, cur, e, _, _, h1, _⟩
  ·omega
  ·cases e; exact h1
 refine ⟨g, cap, W1, hrun, sl_owned (Y := fun b => Y b ∨ b = g) ho1 (by omega) (l := l ++ [⟨s, []⟩]) (RowT.append hr ⟨none, 0, [], rfl, ⟨by simp, Or.inl rfl⟩, rfl⟩) (fun a k h => (h.later hbl).mono fun b h _ => Or.inl h) (Or.inr rfl) (by simp; omega), hbl, ⟨hg1, hgl⟩, hcap, fun q hq hne => hg.block q hq hne, hg.size, ?_⟩
 rcases hat with h | h
 ·exact Or.inl h
 ·exact Or.inr (by omega)
end Go.Proofs.YtpnhiaeijhokgaaGreatDoor
