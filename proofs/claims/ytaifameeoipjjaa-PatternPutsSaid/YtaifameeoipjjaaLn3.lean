/- Walks: the closure that hands on a step below a knot. -/
import Derived.Test.YtaifameeoipjjaaLn2
import Derived.Deep.RegionHeld3
namespace Go.Proofs.Ytaifameeoipjjaa
open Go.RowKit Go.Shelf
attribute [local go_sem] Oper.semAt_some
set_option linter.unusedSimpArgs false
set_option linter.unusedVariables false
set_option maxRecDepth 8000

set_option maxHeartbeats 4000000 in
theorem below1_any {y : Value} {P : Nat → Prop} {hi : Nat} {J : World → Prop} {S : Lm → Bool → World → Prop} (hP : ∀ b, hi ≤ b → P b) (hT : StopAt y P J S) (hJ : StayJ J) (k xi : Int) (l : List Lm) (i : Nat) (hil : i < l.length) (hlen : l.length ≤ 1000000) (a : Option Addr) (c T I Y : Nat) (X : Nat → Prop) (hTh : hi ≤ T) (W : World) (hjw : J W) (hE : BeS ⟨k, xi, l⟩ a c T I Y i y X W) (hX : ∀ b, X b → b < W.heap.size ∧ P b) (v : Value) (x : Lm) (ok : Bool) (Z : Nat → Prop) (hv : MV W Z v x) (hZ : ∀ b, Z b → b < W.heap.size ∧ P b) :
    Calls Try.prog 45 #[v, .bool ok, .pointer (some ⟨T, 0, none⟩), .pointer (some ⟨I, 0, none⟩), .pointer (some ⟨Y, 0, none⟩)] W fun e W' => e = .returned (.bool false) ∧ S ⟨k, xi, l.set i x⟩ ok W' := by
  obtain ⟨va, vc, rfl, hxs⟩ := hv
  have hB1 : Below W.heap.size W (W.alloc (.cells #[.int .i64 x.kind, .int .i64 x.idx, .slice va x.subs.length vc] 24)) := (Below.refl _ _).alloc (Nat.le_refl _) _
  have hsl := hE.sl
  obtain ⟨ba, oa, rfl, hlies⟩ := hsl.2.resolve_left (fun e => by simp only at e; rw [e] at hil; simp at hil)
  obtain ⟨xs, hrt, hxc⟩ := rowTM_of_lies l ba oa hlies
  have hbal : ba < W.heap.size := (hX _ (liesM_get _ _ _ hlies 0 (by show 0 < l.length; omega)).1).1
  have hTW : T < W.heap.size := hE.bt.lt
  have CL : Hid (∀ w', Below W.heap.size W w' → Calls Try.prog 46 #[.slice (some ⟨ba, oa, none⟩) l.length c] w' fun e w'' => ∃ G cap, e = .returned (.slice (some ⟨G, 0, none⟩) l.length cap) ∧ w''.ownsRow w'.heap.size 24 3 (.slice (some ⟨G, 0, none⟩) l.length cap) l.length xs ∧ Below w'.heap.size w' w'') := fun w' hb => by
    refine (cloneM_any ba oa l.length c xs w' hrt.len hlen (fun j u hj => (hb.cell (p := ⟨ba, oa + j, none⟩) hbal).trans (hxc j u hj)) hrt.one).mono ?_
    rintro e w'' ⟨v', rfl, ho, hne, hb2⟩
    rcases ho.2 with ⟨h1, _⟩ | ⟨g, cap, cur, hv, _⟩
    · exact absurd h1 hne
    · subst hv
      exact ⟨g, cap, rfl, ho, hb2⟩
  have HRT := hide hrt
  have HE := hide hE
  have HXS := hide hxs
  have HJW := hide hjw
  have HTK := hide hT
  have HX := hide hX
  have HZ := hide hZ
  have hX1 : Blk (W.alloc (.cells #[.int .i64 x.kind, .int .i64 x.idx, .slice va x.subs.length vc] 24)) W.heap.size #[.int .i64 x.kind, .int .i64 x.idx, .slice va x.subs.length vc] 24 := Blk.new _ _ _
  have HX1 := hide hX1
  have HB1 := hide hB1
  clear hrt hE hxs hjw hT hX hZ hsl hlies hxc hX1 hB1
  go_enter Try.func45, Try.ntmps45
  go_upto_region 1 with fail
  go_cut [8] (fun o8 wc => KpL (W.alloc (.cells #[.int .i64 x.kind, .int .i64 x.idx, .slice va x.subs.length vc] 24)) (W.heap.size + 1) k xi l.length xs o8 wc)
  case first =>
    have hz1 : ((W.alloc (.cells #[.int .i64 x.kind, .int .i64 x.idx, .slice va x.subs.length vc] 24))).heap.size = W.heap.size + 1 := by simp
    have E1 := HE.out.later HB1.out
    generalize (W.alloc (.cells #[.int .i64 x.kind, .int .i64 x.idx, .slice va x.subs.length vc] 24)) = W1 at *
    have t0 : W1.cell? ⟨T, 0, none⟩ = some (.int .i64 k) := E1.bt.cell 0
    have t1 : W1.cell? ⟨T, 1, none⟩ = some (.int .i64 xi) := E1.bt.cell 1
    have t2 : W1.cell? ⟨T, 2, none⟩ = some (.slice (some ⟨ba, oa, none⟩) l.length c) := E1.bt.cell 2
    have HS0 := hide (And.intro t0 (And.intro t1 t2))
    have KP : Hid (∀ w', Below (W.heap.size + 1) W1 w' → w'.cell? ⟨T, 0, none⟩ = some (.int .i64 k) ∧ w'.cell? ⟨T, 1, none⟩ = some (.int .i64 xi) ∧ w'.cell? ⟨T, 2, none⟩ = some (.slice (some ⟨ba, oa, none⟩) l.length c)) := fun w' hb => ⟨(hb.cell (p := ⟨T, 0, none⟩) (by simp; omega)).trans t0, (hb.cell (p := ⟨T, 1, none⟩) (by simp; omega)).trans t1, (hb.cell (p := ⟨T, 2, none⟩) (by simp; omega)).trans t2⟩
    have HD : Hid (Below (W.heap.size + 1) W1 W1.drew) := (Below.refl _ _).drew
    have HA : Hid (∀ o, Below (W.heap.size + 1) W1 (W1.drew.alloc o)) := fun o => ((Below.refl _ _).drew).alloc (by simp; omega) o
    have CL2 : Hid (∀ w', Below (W.heap.size + 1) W1 w' → Calls Try.prog 46 #[.slice (some ⟨ba, oa, none⟩) l.length c] w' fun e w'' => ∃ G cap, e = .returned (.slice (some ⟨G, 0, none⟩) l.length cap) ∧ w''.ownsRow w'.heap.size 24 3 (.slice (some ⟨G, 0, none⟩) l.length cap) l.length xs ∧ Below w'.heap.size w' w'' ∧ Below (W.heap.size + 1) W1 w'') := fun w' hb => by
      refine (CL.out w' (HB1.out.trans (hb.mono (by omega)))).mono ?_
      rintro e w'' ⟨G, cap, rfl, h1, h2⟩
      exact ⟨G, cap, rfl, h1, h2, hb.trans (h2.mono (by have := hb.size; omega))⟩
    have HZ1 := hide hz1
    have nW : T ≠ W1.heap.size := by omega
    clear hz1 t0 t1 t2 E1
    go_region_held3 (fun w' => w'.cell? ⟨T, 0, none⟩ = some (.int .i64 k) ∧ w'.cell? ⟨T, 1, none⟩ = some (.int .i64 xi) ∧ w'.cell? ⟨T, 2, none⟩ = some (.slice (some ⟨ba, oa, none⟩) l.length c)) (first | exact hS | exact HS0.out | exact KP.out _ (HA.out _) | exact ⟨set3_keep hS.1 nW, set3_keep hS.2.1 nW, set3_keep hS.2.2 nW⟩ | go_keep)
      (first
        | (go_at_call 46;
            first
              | (refine (CL2.out _ (by first | exact Below.refl _ _ | exact HD.out)).mono ?_; rintro e w5 ⟨G, cap, rfl, ho5, hb5, hB5⟩; have hS := KP.out _ hB5)
              | (refine (CL2.out _ (by exact HA.out (.cells #[.int .i64 0, .int .i64 0, .slice none 0 0] 24))).mono ?_; rintro e w5 ⟨G, cap, rfl, ho5, hb5, hB5⟩; have hS := KP.out _ hB5; have QB : Blk w5 W1.heap.size #[.int .i64 0, .int .i64 0, .slice none 0 0] 24 := (Blk.new W1.drew _ _).below hb5 (by simp); have q0 : w5.cell? ⟨W1.heap.size, 0, none⟩ = some (.int .i64 0) := QB.cell 0; have q1 : w5.cell? ⟨W1.heap.size, 1, none⟩ = some (.int .i64 0) := QB.cell 1; have q2 : w5.cell? ⟨W1.heap.size, 2, none⟩ = some (.slice none 0 0) := QB.cell 2; have qf := QB.frozen)))
    all_goals have hGl := ho5.lt G rfl
    all_goals go_wp2_with fail
    all_goals go_meet
    all_goals first
      | exact kpL_last (by exact HZ1.out) (owns_monoM ho5 (by have := HZ1.out; simp; omega)) hB5
      | (have hz3 := HZ1.out; have e : W1.heap.size = W.heap.size + 1 := hz3; exact kpL_first (by omega) QB (by have := hGl.1; simp at this; omega) (owns_monoM ho5 (by simp; omega)) hB5)
  case rest =>
    obtain ⟨G, O, cap, rfl, hG3, hO3, hGO, hBO, hown, hbw⟩ := hcut
    have hbW : Below W.heap.size W wc := HB1.out.trans (hbw.mono (by omega))
    have XB := HX1.out.below hbw (by omega)
    have E2 := HE.out.later hbW
    obtain ⟨cur, hGb, hcur, hcx, hcap⟩ : ∃ cur : Array Value, Blk wc G cur 24 ∧ cur.size = cap * 3 ∧ cur.toList.take (l.length * 3) = xs ∧ l.length ≤ cap := by
      rcases hown.2 with ⟨h1, _⟩ | ⟨g, cap', cur, hv, _, hh, hnc, _, hz, ht⟩
      · cases h1
      · simp at hv
        obtain ⟨rfl, rfl⟩ := hv
        exact ⟨cur, hh, hz, ht, hnc⟩
    obtain ⟨y0, hy0⟩ : ∃ y, cur[i * 3]? = some y := ⟨_, Array.getElem?_eq_getElem (by omega)⟩
    obtain ⟨y1, hy1⟩ : ∃ y, cur[i * 3 + 1]? = some y := ⟨_, Array.getElem?_eq_getElem (by omega)⟩
    obtain ⟨y2, hy2⟩ : ∃ y, cur[i * 3 + 2]? = some y := ⟨_, Array.getElem?_eq_getElem (by omega)⟩
    have g0 : wc.cell? ⟨G, i * 3, none⟩ = some y0 := (hGb.cell (i * 3)).trans hy0
    have g1 : wc.cell? ⟨G, i * 3 + 1, none⟩ = some y1 := (hGb.cell (i * 3 + 1)).trans hy1
    have g2 : wc.cell? ⟨G, i * 3 + 2, none⟩ = some y2 := (hGb.cell (i * 3 + 2)).trans hy2
    have gf := hGb.frozen
    have hIlt : I < W.heap.size := HE.out.bi.lt
    have hYlt : Y < W.heap.size := HE.out.by'.lt
    have nO : O ≠ G := fun e => hGO e.symm
    have nI : I ≠ G := by omega
    have nY : Y ≠ G := by omega
    have nX : W.heap.size ≠ G := by omega
    have ci : wc.cell? ⟨I, 0, none⟩ = some (.int .i64 (i : Int)) := E2.bi.cell 0
    have x0 : wc.cell? ⟨W.heap.size, 0, none⟩ = some (.int .i64 x.kind) := XB.cell 0
    have x1 : wc.cell? ⟨W.heap.size, 1, none⟩ = some (.int .i64 x.idx) := XB.cell 1
    have x2 : wc.cell? ⟨W.heap.size, 2, none⟩ = some (.slice va x.subs.length vc) := XB.cell 2
    have o2 : wc.cell? ⟨O, 2, none⟩ = some (.slice (some ⟨G, 0, none⟩) l.length cap) := hBO.cell 2
    have hil2 : (i : Int) < (l.length : Int) := by omega
    have hlen9 : l.length ≤ 9223372036854775807 := by omega
    have SLX : SlM wc (fun b => X b ∨ Z b) va x.subs := (HXS.out.later hbW).mono fun b h _ => Or.inr h
    have RTX : RowTM wc (fun b => X b ∨ Z b) l xs := HRT.out.imp fun a kk hs => (hs.later hbW).mono fun b h _ => Or.inl h
    have HXZ : ∀ b, (X b ∨ Z b) → b < W.heap.size := fun b h => h.elim (fun h => (HX.out b h).1) fun h => (HZ.out b h).1
    have FIN := kputM_fin (c9 := vc) (fun b hb => by have := HXZ b hb; omega) hil hlen9 RTX hcx hGb SLX
    have OB := ((hBO.setOther (i * 3) (.int .i64 x.kind) nO).setOther (i * 3 + 1) (.int .i64 x.idx) nO).setOther (i * 3 + 2) (.slice va x.subs.length vc) nO
    have YB := ((E2.by'.setOther (i * 3) (.int .i64 x.kind) nY).setOther (i * 3 + 1) (.int .i64 x.idx) nY).setOther (i * 3 + 2) (.slice va x.subs.length vc) nY
    have hb9 : Below W.heap.size W (((wc.setCell ⟨G, i * 3, none⟩ (.int .i64 x.kind)).setCell ⟨G, i * 3 + 1, none⟩ (.int .i64 x.idx)).setCell ⟨G, i * 3 + 2, none⟩ (.slice va x.subs.length vc)) := ((hbW.setCell (p := ⟨G, i * 3, none⟩) (by simp; omega) _).setCell (p := ⟨G, i * 3 + 1, none⟩) (by simp; omega) _).setCell (p := ⟨G, i * 3 + 2, none⟩) (by simp; omega) _
    have hGw : G < wc.heap.size := hGb.lt
    have hsz9 : (((wc.setCell ⟨G, i * 3, none⟩ (.int .i64 x.kind)).setCell ⟨G, i * 3 + 1, none⟩ (.int .i64 x.idx)).setCell ⟨G, i * 3 + 2, none⟩ (.slice va x.subs.length vc)).heap.size = wc.heap.size := by simp [World.setCell]
    have TK := HTK.out (((wc.setCell ⟨G, i * 3, none⟩ (.int .i64 x.kind)).setCell ⟨G, i * 3 + 1, none⟩ (.int .i64 x.idx)).setCell ⟨G, i * 3 + 2, none⟩ (.slice va x.subs.length vc)) (.agg #[.int .i64 k, .int .i64 xi, .slice (some ⟨G, 0, none⟩) l.length cap]) ⟨k, xi, l.set i x⟩ ok _ (hJ _ _ HJW.out hb9) ⟨some ⟨G, 0, none⟩, cap, by simp, FIN⟩ (fun b hb => by
      rw [hsz9]
      have hWc := hbW.size
      rcases hb with hb | rfl
      · rcases hb with hb | hb
        · have := HX.out b hb; exact ⟨by omega, this.2⟩
        · have := HZ.out b hb; exact ⟨by omega, this.2⟩
      · exact ⟨by omega, hP _ (by omega)⟩)
    clear hsz9 FIN SLX RTX hGb hcx hy0 hy1 hy2 hcur hown hBO
    have u0 := OB.cell 0
    have u1 := OB.cell 1
    have u2 := OB.cell 2
    have yy := YB.cell 0
    simp only [List.getElem?_toArray, List.getElem?_cons_succ, List.getElem?_cons_zero] at u0 u1 u2 yy
    rcases TK with ⟨T', I', Y', rfl, hcall⟩ | ⟨lp, rfl, hyl⟩
    · have HC := hide hcall
      clear hcall OB YB
      go_wp2_with fail
      refine HC.out.mono ?_
      rintro e W' ⟨rfl, hS⟩
      have HS := hide hS
      clear hS
      go_wp2_with fail
      go_ret
      exact ⟨rfl, HS.out⟩
    · obtain ⟨hfn, htmps, hasg, hbody, hyy, hR⟩ := hyl 0
      have HR := hide hR
      clear hR OB YB hyl
      go_upto_region 3 with fail
      refine (wpIn_wide (n := 1)).1 ?_
      gi_wp2
      refine HR.out.mono ?_
      rintro e W' ⟨rfl, hS⟩
      have HS := hide hS
      clear hS hyy
      gi_wp2
      go_wp2_with fail
      go_ret
      exact ⟨rfl, HS.out⟩
end Go.Proofs.Ytaifameeoipjjaa
