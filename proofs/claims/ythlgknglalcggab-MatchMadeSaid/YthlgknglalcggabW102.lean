/- The law on matching a term made of raw numbers: it answers true. -/
import Derived.Test.YthlgknglalcggabW100
import Derived.Test.YthlgknglalcggabW99
import Derived.Test.YthlgknglalcggabW53
import Derived.Test.YthlgknglalcggabW84
namespace Go.Proofs.Ythlgknglalcggab
open Go.RowKit
set_option linter.unusedSimpArgs false
set_option linter.unusedVariables false
set_option maxRecDepth 8000

/-- How great a term is with bindings in it. -/
theorem onL_size {ls : List Bd} {M : Nat} (hM : 1 ≤ M) (h : ∀ d ∈ ls, sizeL [d.t] ≤ M) : ∀ l : List Tm, sizeL (onL ls l) ≤ sizeL l * M := by
  intro l
  induction l using Tm.indL with
  | h0 => simp [onL, sizeL]
  | h s l r ihl ihr =>
    have e1 : sizeL (onL ls (⟨s, l⟩ :: r)) = sizeL [onT ls ⟨s, l⟩] + sizeL (onL ls r) := by
      rw [onL_cons]
      generalize onT ls ⟨s, l⟩ = x
      obtain ⟨s2, m⟩ := x
      simp [sizeL]
    have e2 : sizeL (⟨s, l⟩ :: r) = (1 + sizeL l) + sizeL r := by simp [sizeL]
    have h1 : sizeL [onT ls ⟨s, l⟩] ≤ (1 + sizeL l) * M := by
      have hdeep : sizeL [(⟨s, onL ls l⟩ : Tm)] ≤ (1 + sizeL l) * M := by
        simp only [sizeL]
        rw [Nat.add_mul]
        omega
      unfold onT onN
      cases hf : forT ls s with
      | none => exact hdeep
      | some x =>
        dsimp only
        split
        · obtain ⟨d, hd, _, rfl⟩ := forT_mem hf
          have := h d hd
          rw [Nat.add_mul]
          omega
        · exact hdeep
    rw [e1, e2, Nat.add_mul]
    omega
theorem onT_size {ls : List Bd} {M : Nat} (hM : 1 ≤ M) (h : ∀ d ∈ ls, sizeL [d.t] ≤ M) (t : Tm) : sizeL [onT ls t] ≤ sizeL [t] * M := by
  have h1 := onL_size hM h [t]
  rw [onL_cons] at h1
  simpa [onL] using h1

/-- What the region that makes the instance leaves. -/
def MmB (w3 : World) (Q : Nat) (s : ByteArray) (a : Option Addr) (n c : Nat) (l0 : List Tm) (w9 : World) : Prop := Blk w9 Q #[.string s, .slice a n c] 29 ∧ Below w3.heap.size w3 w9 ∧ Sl w9 (fun _ => True) a l0
theorem mmB_set {w3 w8 : World} {Q n c : Nat} {s : ByteArray} {a : Option Addr} {l0 : List Tm} (hQ : Blk w8 Q #[.string ⟨#[]⟩, .slice none 0 0] 29) (hw : w3.heap.size ≤ Q) (hb : Below w3.heap.size w3 w8) (hs : Sl w8 (fun b => b ≠ Q) a l0) :
    MmB w3 Q s a n c l0 ((w8.setCell ⟨Q, 0, none⟩ (.string s)).setCell ⟨Q, 1, none⟩ (.slice a n c)) :=
  ⟨(hQ.set 0 _).set 1 _, (hb.setCell (by exact hw) _).setCell (by exact hw) _, (hs.kept fun b hb => by
    rw [Below.heap_setCell _ _ _ _ (by simpa using hb), Below.heap_setCell _ _ _ _ (by simpa using hb)]).mono fun b hb _ => trivial⟩

set_option maxHeartbeats 3000000 in
theorem matchMade_any (zs : List Int) (hr : ∀ z ∈ zs, Rng z) (y y2 : Int) (hy : Rng y) (hy2 : Rng y2) (u : Value) (w : World) (X : Nat → Prop) (hu : PV w X u zs) :
    Calls Try.prog 5 #[u, .int .i64 y, .int .i64 y2] w fun e w' => e = .returned (.bool true) ∧ Below w.heap.size w w' := by
  have HU := hide hu
  obtain ⟨a, c, rfl, hlc, hu2⟩ := hu
  clear hu2
  by_cases h256 : 256 < zs.length
  · go_enter Try.func5, Try.ntmps5
    go_wp2_with fail
    go_ret
    exact ⟨rfl, Below.refl _ _⟩
  · go_enter Try.func5, Try.ntmps5
    go_wp2_with fail
    refine (pick_any _ 14 (by decide) (by decide) hy _).mono ?_
    rintro e w1 ⟨k1, rfl, hk1, rfl⟩
    go_wp2_with fail
    refine (termOf_any 3 (by decide) (by decide) zs hr (by omega) k1 0 _ _ X HU.out (by omega) (by unfold top; split <;> omega)).mono ?_
    rintro e w2 ⟨t2, a2, c2, rfl, hs2, hz2, hb2, _⟩
    have htop : sizeL [t2] ≤ 1000000 := by
      have : top k1 ≤ 100 := by unfold top; split <;> omega
      omega
    have hbA : Below w2.heap.size w2 (w2.alloc (.cells #[.string t2.name, .slice a2 t2.args.length c2] 29)) := (Below.refl _ _).alloc (Nat.le_refl _) _
    have P3 := hide (Blk.new w2 #[.string t2.name, .slice a2 t2.args.length c2] 29)
    have B3 := hide ((hb2.trans (hbA.mono hb2.size)))
    have S3 := hide ((hs2.later hbA).mono (Y := fun _ => True) fun _ _ _ => trivial)
    have hz2' := hb2.size
    clear hb2 hs2 hbA
    go_wp2_with fail
    have p0 := P3.out.cell 0
    have p1 := P3.out.cell 1
    generalize w2.alloc (.cells #[.string t2.name, .slice a2 t2.args.length c2] 29) = w3 at *
    generalize w2.heap.size = P at *
    have PKA : Hid (∀ w', Calls Try.prog 9 #[.int .i64 y2, .int .i64 6] w' fun e w'' => e = .returned (.int .i64 (pickN y2 6 : Int)) ∧ w'' = w') := fun w' => pick_eq y2 6 (by decide) (by decide) hy2 w'
    have hp6 := pickN_lt y2 6 (by decide)
    generalize pickN y2 6 = k3 at *
    have BFA : Hid (∀ w', Below w3.heap.size w3 w' → Calls Try.prog 8 #[.slice a zs.length c, .int .i64 30, .int .i64 (k3 : Int), .int .i64 3] w' fun e w'' => ∃ v ls, e = .returned v ∧ BV w'' (fun b => w'.heap.size ≤ b) v ls ∧ (∀ d ∈ ls, sizeL [d.t] ≤ 9) ∧ Below w3.heap.size w3 w'' ∧ Below w'.heap.size w' w'') := fun w' hb => by
      refine (bindsFrom_any 3 (by decide) (by decide) zs hr (by omega) k3 30 _ w' X ((HU.out.later B3.out).later hb) (by omega) (by unfold top; split <;> omega)).mono ?_
      rintro e w5 ⟨v, ls, rfl, hv, _, hsz, hb5⟩
      have ht : top k3 ≤ 9 := by unfold top; split <;> omega
      exact ⟨v, ls, rfl, hv, fun d hd => by have := (hsz d hd).1; omega, hb.trans (hb5.mono hb.size), hb5⟩
    have hsz2 : sizeL [t2] ≤ 25 := by
      have : top k1 ≤ 25 := by unfold top; split <;> omega
      omega
    have ONA : Hid (∀ (Y : Nat → Prop) v ls w', (∀ b, b < w3.heap.size → Y b) → Below w3.heap.size w3 w' → BV w' Y v ls → (∀ d ∈ ls, sizeL [d.t] ≤ 9) → Calls Try.prog 22 #[v, .agg #[.string t2.name, .slice a2 t2.args.length c2]] w' fun e w'' => ∃ a6 c6, e = .returned (.tuple #[.agg #[.string (onT ls t2).name, .slice a6 (onT ls t2).args.length c6], .bool true]) ∧ Below w3.heap.size w3 w'' ∧ Below w'.heap.size w' w'' ∧ Sl w'' (fun b => Y b ∨ w'.heap.size ≤ b) a6 (onT ls t2).args ∧ sizeL [onT ls t2] ≤ 2000) := fun Y v ls w' hY hb hv hd => by
      refine (onAll_any ls t2 v _ w' Y hv ⟨_, _, rfl, (((S3.out.mono (Y := fun b => b < w3.heap.size) fun b _ h => h).later hb).mono fun b h _ => hY b h)⟩ htop).mono ?_
      rintro e w6 ⟨hb6, ⟨h6, _⟩ | ⟨h6, a6, c6, rfl, hs6⟩⟩
      · have := onT_size (by decide) hd t2
        omega
      · exact ⟨a6, c6, rfl, hb.trans (hb6.mono hb.size), hb6, hs6.mono fun b h _ => h.imp (fun h => h.1) id, h6⟩
    have KP : Hid (∀ w', Below w3.heap.size w3 w' → w'.cell? ⟨P, 0, none⟩ = some (.string t2.name) ∧ w'.cell? ⟨P, 1, none⟩ = some (.slice a2 t2.args.length c2)) := fun w' hb => ⟨(P3.out.below hb P3.out.lt).cell 0, (P3.out.below hb P3.out.lt).cell 1⟩
    have hPl : P < w3.heap.size := P3.out.lt
    go_region_held3 (fun w' => w'.cell? ⟨P, 0, none⟩ = some (.string t2.name) ∧ w'.cell? ⟨P, 1, none⟩ = some (.slice a2 t2.args.length c2)) (first | exact hS | exact ⟨p0, p1⟩ | exact two_keep (two_keep hS nQ nQ) nQ nQ | exact two_keep hS nQ nQ | go_keep)
      (first
        | (go_at_call 9; refine (PKA.out _).mono ?_; rintro e w4 ⟨rfl, rfl⟩)
        | (go_at_call 8; refine (BFA.out _ (by first | exact Below.refl _ _ | exact (Below.refl _ _).drew | exact ((Below.refl _ _).alloc (Nat.le_refl _) _) | exact ((Below.refl _ _).drew.alloc (Nat.le_refl _) _) | exact ((Below.refl _ _).alloc (Nat.le_refl _) _).drew)).mono ?_; rintro e w5 ⟨v5, l5, rfl, hv5, hz5, hb5, hbl5⟩; have hS := KP.out _ hb5)
        | (go_at_call 22;
            first
              | (refine (ONA.out (fun b => b ≠ w5.heap.size) _ _ _ (fun b h => by have := hb5.size; omega) (by exact hb5.alloc hb5.size _) (by exact ((hv5.mono (Y := fun b => b ≠ w5.heap.size) (fun b _ h => by omega)).alloc _)) hz5).mono ?_; rintro e w6 ⟨a6, c6, rfl, hb6, hbl6, hs6, hz6⟩; have hS := KP.out _ hb6; have QB : Blk w6 w5.heap.size #[.string ⟨#[]⟩, .slice none 0 0] 29 := (Blk.new w5 _ _).below hbl6 (by simp); have q0 := QB.cell 0; have q1 := QB.cell 1; have qf := QB.frozen; have ql := QB.lt; have hQN : w3.heap.size ≤ w5.heap.size := hb5.size; have nQ : w5.heap.size ≠ P := by omega)
              | (have BVq : BV w5 (fun b => b ≠ w3.heap.size) v5 l5 := hv5.mono (fun b h _ => by simp at h; omega); refine (ONA.out (fun b => b ≠ w3.heap.size) _ _ _ (fun b h => by omega) (by exact hb5) (by exact BVq) hz5).mono ?_; rintro e w6 ⟨a6, c6, rfl, hb6, hbl6, hs6, hz6⟩; have hS := KP.out _ hb6; have QB : Blk w6 w3.heap.size #[.string ⟨#[]⟩, .slice none 0 0] 29 := (((Blk.new w3 _ _).drewN 1).below hbl5 (by simp)).below hbl6 (by have := hbl5.size; simp at this; omega); have q0 := QB.cell 0; have q1 := QB.cell 1; have qf := QB.frozen; have ql := QB.lt; have hQN : w3.heap.size ≤ w3.heap.size := Nat.le_refl _; have nQ : w3.heap.size ≠ P := by omega)
              | (refine (ONA.out (fun _ => True) _ _ _ (fun _ _ => trivial) (by exact hb5) (by exact hv5.mono fun _ _ _ => trivial) hz5).mono ?_; rintro e w6 ⟨a6, c6, rfl, hb6, hbl6, hs6, hz6⟩; have hS := KP.out _ hb6)))
    all_goals first
      | (have TB : Hid (MmB w3 w5.heap.size (onT l5 t2).name a6 (onT l5 t2).args.length c6 (onT l5 t2).args ((w6.setCell ⟨w5.heap.size, 0, none⟩ (.string (onT l5 t2).name)).setCell ⟨w5.heap.size, 1, none⟩ (.slice a6 (onT l5 t2).args.length c6))) := mmB_set QB hQN hb6 (hs6.mono fun b hb _ => by rcases hb with h | h; exact h; simp at h; omega); generalize ((w6.setCell ⟨w5.heap.size, 0, none⟩ (.string (onT l5 t2).name)).setCell ⟨w5.heap.size, 1, none⟩ (.slice a6 (onT l5 t2).args.length c6)) = w9 at *; generalize w5.heap.size = Q at *)
      | (have hz35 : w3.heap.size < w5.heap.size := by (have := hbl5.size; simp at this; omega)
         have TB : Hid (MmB w3 w3.heap.size (onT l5 t2).name a6 (onT l5 t2).args.length c6 (onT l5 t2).args ((w6.setCell ⟨w3.heap.size, 0, none⟩ (.string (onT l5 t2).name)).setCell ⟨w3.heap.size, 1, none⟩ (.slice a6 (onT l5 t2).args.length c6))) := mmB_set QB (by exact hQN) hb6 (hs6.mono fun b hb _ => by rcases hb with h | h; exact h; omega)
         generalize ((w6.setCell ⟨w3.heap.size, 0, none⟩ (.string (onT l5 t2).name)).setCell ⟨w3.heap.size, 1, none⟩ (.slice a6 (onT l5 t2).args.length c6)) = w9 at *
         obtain ⟨Q, hQe⟩ : ∃ Q, Q = w3.heap.size := ⟨_, rfl⟩
         rw [← hQe] at TB ⊢
         clear hQe)
      | (have TB : Hid (MmB w3 w6.heap.size (onT l5 t2).name a6 (onT l5 t2).args.length c6 (onT l5 t2).args (w6.alloc (.cells #[.string (onT l5 t2).name, .slice a6 (onT l5 t2).args.length c6] 29))) := ⟨Blk.new w6 _ _, hb6.alloc hb6.size _, (hs6.later ((Below.refl _ _).alloc (Nat.le_refl _) _)).mono fun _ _ _ => trivial⟩; generalize (w6.alloc (.cells #[.string (onT l5 t2).name, .slice a6 (onT l5 t2).args.length c6] 29)) = w9 at *; generalize w6.heap.size = Q at *)
    all_goals
      clear PKA BFA ONA
      generalize onT l5 t2 = x at *
      have HB9 := hide TB.out.2.1
      have q0 : w9.cell? ⟨Q, 0, none⟩ = some (.string x.name) := TB.out.1.cell 0
      have q1 : w9.cell? ⟨Q, 1, none⟩ = some (.slice a6 x.args.length c6) := TB.out.1.cell 1
      have p0' : w9.cell? ⟨P, 0, none⟩ = some (.string t2.name) := (KP.out w9 HB9.out).1
      have p1' : w9.cell? ⟨P, 1, none⟩ = some (.slice a2 t2.args.length c2) := (KP.out w9 HB9.out).2
      have K4 : Hid (∀ w', Below w9.heap.size w9 w' → w'.cell? ⟨P, 0, none⟩ = some (.string t2.name) ∧ w'.cell? ⟨P, 1, none⟩ = some (.slice a2 t2.args.length c2) ∧ w'.cell? ⟨Q, 0, none⟩ = some (.string x.name) ∧ w'.cell? ⟨Q, 1, none⟩ = some (.slice a6 x.args.length c6)) := fun w' hb => ⟨cell_later hb p0', cell_later hb p1', cell_later hb q0, cell_later hb q1⟩
      have TX : Hid (∀ w', Below w9.heap.size w9 w' → TV w' (fun _ => True) (.agg #[.string x.name, .slice a6 x.args.length c6]) x) := fun w' hb => ⟨_, _, rfl, TB.out.2.2.later hb⟩
      have TT : Hid (∀ w', Below w9.heap.size w9 w' → TV w' (fun _ => True) (.agg #[.string t2.name, .slice a2 t2.args.length c2]) t2) := fun w' hb => ⟨_, _, rfl, (S3.out.later HB9.out).later hb⟩
      have M1 : Hid (∀ w', Below w9.heap.size w9 w' → Calls Try.prog 4 #[.agg #[.string t2.name, .slice a2 t2.args.length c2], .agg #[.string x.name, .slice a6 x.args.length c6]] w' fun e w'' => e = .returned (.bool true) ∧ Below w9.heap.size w9 w'') := fun w' hb => (matchSays_any t2 x _ _ w' _ (TT.out w' hb) (TX.out w' hb)).mono fun e w'' h => ⟨h.1, hb.trans (h.2.mono hb.size)⟩
      have M2 : Hid (∀ w', Below w9.heap.size w9 w' → Calls Try.prog 4 #[.agg #[.string x.name, .slice a6 x.args.length c6], .agg #[.string t2.name, .slice a2 t2.args.length c2]] w' fun e w'' => e = .returned (.bool true) ∧ Below w9.heap.size w9 w'') := fun w' hb => (matchSays_any x t2 _ _ w' _ (TX.out w' hb) (TT.out w' hb)).mono fun e w'' h => ⟨h.1, hb.trans (h.2.mono hb.size)⟩
      have M3 : Hid (∀ w', Below w9.heap.size w9 w' → Calls Try.prog 11 #[.slice a zs.length c, .int .i64 70, .int .i64 7, .int .i64 2] w' fun e w'' => ∃ (t : Tm) (a : Option Addr) (c : Nat), e = .returned (.agg #[.string t.name, .slice a t.args.length c]) ∧ Sl w'' (fun _ => True) a t.args ∧ Below w9.heap.size w9 w'') := fun w' hb => by
        refine (termOf_any 2 (by decide) (by decide) zs hr (by omega) 7 70 _ w' X (((HU.out.later B3.out).later HB9.out).later hb) (by omega) (by unfold top; split <;> omega)).mono ?_
        rintro e w'' ⟨t, a, c, rfl, hs, _, hb2, _⟩
        exact ⟨t, a, c, rfl, hs.mono fun _ _ _ => trivial, hb.trans (hb2.mono hb.size)⟩
      have M4 : Hid (∀ (t : Tm) a c w', Below w9.heap.size w9 w' → Sl w' (fun _ => True) a t.args → Calls Try.prog 4 #[.agg #[.string t2.name, .slice a2 t2.args.length c2], .agg #[.string t.name, .slice a t.args.length c]] w' fun e w'' => e = .returned (.bool true) ∧ Below w9.heap.size w9 w'') := fun t a c w' hb hs => (matchSays_any t2 t _ _ w' _ (TT.out w' hb) ⟨_, _, rfl, hs⟩).mono fun e w'' h => ⟨h.1, hb.trans (h.2.mono hb.size)⟩
      have BW9 := hide (B3.out.trans (HB9.out.mono B3.out.size))
      have HS0 := hide (And.intro p0' (And.intro p1' (And.intro q0 q1)))
      clear KP
      go_wp2_with fail
      go_region_held3 (fun w' => w'.cell? ⟨P, 0, none⟩ = some (.string t2.name) ∧ w'.cell? ⟨P, 1, none⟩ = some (.slice a2 t2.args.length c2) ∧ w'.cell? ⟨Q, 0, none⟩ = some (.string x.name) ∧ w'.cell? ⟨Q, 1, none⟩ = some (.slice a6 x.args.length c6)) (first | exact HS0.out | exact hT4 | exact hT3 | exact hT2 | exact hT1 | go_keep)
        (first
          | (go_at_call 11; have hgd := hd2; clear hgd; refine (M3.out _ (by first | exact hd2 | exact hd2.drew)).mono ?_; rintro e w13 ⟨t3, a13, c13, rfl, hs13, hd3⟩; have hT3 := K4.out _ hd3)
          | (go_at_call 4;
              first
                | (have hgd := hd3; clear hgd; refine (M4.out t3 a13 c13 _ (by first | exact hd3 | exact hd3.drew) (by exact hs13)).mono ?_; rintro e w14 ⟨rfl, hd4⟩; have hT4 := K4.out _ hd4)
                | (have hgd := hd1; clear hgd; refine (M2.out _ (by first | exact hd1 | exact hd1.drew)).mono ?_; rintro e w12 ⟨rfl, hd2⟩; have hT2 := K4.out _ hd2)
                | (refine (M1.out _ (by first | exact Below.refl _ _ | exact (Below.refl _ _).drew)).mono ?_; rintro e w11 ⟨rfl, hd1⟩; have hT1 := K4.out _ hd1)))
      all_goals
        have BWF := hide (BW9.out.trans (hd4.mono BW9.out.size))
        clear hd1 hd2 hd3 hd4 hT1 hT2 hT3 hT4
        go_wp2_with fail
        go_ret
        exact ⟨rfl, BWF.out⟩
#print axioms matchMade_any
end Go.Proofs.Ythlgknglalcggab
