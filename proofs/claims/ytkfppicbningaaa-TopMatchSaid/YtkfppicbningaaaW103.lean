/- The law on matching an instance: it answers true. -/
import Derived.Test.YtkfppicbningaaaTmQ
import Derived.Test.YtkfppicbningaaaW102
import Derived.Test.YtkfppicbningaaaW17
namespace Go.Proofs.Ytkfppicbningaaa
open Go.RowKit
set_option linter.unusedSimpArgs false
set_option linter.unusedVariables false
set_option maxRecDepth 8000

/-- What is asked of the pattern and its instance. -/
def TmX (p x : Tm) : Prop := errL [x] = 0 ∧ (sizeL [x] ≤ 200 → twoE p x = 0 ∧ ∃ h', mtT p x [] = some h' ∧ ∀ l' : List Bd, l'.Perm h' → SortedB l' → bindsE l' = 0 ∧ mayE p = 0 ∧ fT l' p = x ∧ l'.length = (varsP [] (preL [p])).length)

set_option maxHeartbeats 3000000 in
theorem topMatch_any (zs : List Int) (hr : ∀ z ∈ zs, Rng z) (y : Int) (hy : Rng y) (u : Value) (w : World) (X : Nat → Prop) (hu : PV w X u zs) :
    Calls Try.prog 4 #[u, .int .i64 y] w fun e w' => e = .returned (.bool true) ∧ Below w.heap.size w w' := by
  have HU := hide hu
  obtain ⟨a, c, rfl, hlc, hu2⟩ := hu
  clear hu2
  by_cases h256 : 256 < zs.length
  · go_enter Try.func4, Try.ntmps4
    go_wp2_with fail
    go_ret
    exact ⟨rfl, Below.refl _ _⟩
  · go_enter Try.func4, Try.ntmps4
    go_wp2_with fail
    refine (pick_any _ 14 (by decide) (by decide) hy _).mono ?_
    rintro e w1 ⟨k1, rfl, hk1, rfl⟩
    go_wp2_with fail
    refine (termOf_any 3 (by decide) (by decide) zs hr (by omega) k1 0 _ _ X HU.out (by omega) (by unfold top; split <;> omega)).mono ?_
    rintro e w2 ⟨t2, a2, c2, rfl, hs2, hz2, hb2, he2⟩
    have htop : sizeL [t2] ≤ 25 := by
      have : top k1 ≤ 25 := by unfold top; split <;> omega
      omega
    have hbA : Below w2.heap.size w2 (w2.alloc (.cells #[.string t2.name, .slice a2 t2.args.length c2] 28)) := (Below.refl _ _).alloc (Nat.le_refl _) _
    have P3 := hide (Blk.new w2 #[.string t2.name, .slice a2 t2.args.length c2] 28)
    have B3 := hide ((hb2.trans (hbA.mono hb2.size)))
    have S3 := hide ((hs2.later hbA).mono (Y := fun _ => True) fun _ _ _ => trivial)
    have hz2' := hb2.size
    clear hb2 hs2 hbA
    go_wp2_with fail
    have p0 := P3.out.cell 0
    have p1 := P3.out.cell 1
    generalize w2.alloc (.cells #[.string t2.name, .slice a2 t2.args.length c2] 28) = w3 at *
    generalize w2.heap.size = P at *
    have BFA : Hid (∀ w', Below w3.heap.size w3 w' → Calls Try.prog 8 #[.slice a zs.length c, .int .i64 40, .int .i64 6, .int .i64 4] w' fun e w'' => ∃ v ls, e = .returned v ∧ BV w'' (fun b => w'.heap.size ≤ b) v ls ∧ (bindsE ls = 0 ∧ ∀ d ∈ ls, sizeL [d.t] ≤ 11) ∧ Below w3.heap.size w3 w'' ∧ Below w'.heap.size w' w'') := fun w' hb => by
      refine (bindsFrom_any 4 (by decide) (by decide) zs hr (by omega) 6 40 _ w' X ((HU.out.later B3.out).later hb) (by omega) (by unfold top; split <;> omega)).mono ?_
      rintro e w5 ⟨v, ls, rfl, hv, hfo, hsz, hb5⟩
      have ht : top 6 ≤ 11 := by unfold top; split <;> omega
      exact ⟨v, ls, rfl, hv, ⟨four_E hfo fun d hd => ⟨by have := (hsz d hd).1; omega, (hsz d hd).2⟩, fun d hd => by have := (hsz d hd).1; omega⟩, hb.trans (hb5.mono hb.size), hb5⟩
    have ONA : Hid (∀ (Y : Nat → Prop) v ls w', (∀ b, b < w3.heap.size → Y b) → Below w3.heap.size w3 w' → BV w' Y v ls → (bindsE ls = 0 ∧ ∀ d ∈ ls, sizeL [d.t] ≤ 11) → Calls Try.prog 16 #[v, .agg #[.string t2.name, .slice a2 t2.args.length c2]] w' fun e w'' => ∃ a6 c6, e = .returned (.tuple #[.agg #[.string (onT ls t2).name, .slice a6 (onT ls t2).args.length c6], .bool true]) ∧ Below w3.heap.size w3 w'' ∧ Below w'.heap.size w' w'' ∧ Sl w'' (fun b => Y b ∨ w'.heap.size ≤ b) a6 (onT ls t2).args ∧ TmX t2 (onT ls t2)) := fun Y v ls w' hY hb hv hd => by
      refine (onAll_any ls t2 v _ w' Y hv ⟨_, _, rfl, (((S3.out.mono (Y := fun b => b < w3.heap.size) fun b _ h => h).later hb).mono fun b h _ => hY b h)⟩ (by omega)).mono ?_
      rintro e w6 ⟨hb6, ⟨h6, _⟩ | ⟨h6, a6, c6, rfl, hs6⟩⟩
      · have := onT_size (by decide) hd.2 t2
        omega
      · exact ⟨a6, c6, rfl, hb.trans (hb6.mono hb.size), hb6, hs6.mono fun b h _ => h.imp (fun h => h.1) id, errL_onT hd.1 he2, fun hsx => topMatch_pure hd.1 he2 (by omega) hsx⟩
    have KP : Hid (∀ w', Below w3.heap.size w3 w' → w'.cell? ⟨P, 0, none⟩ = some (.string t2.name) ∧ w'.cell? ⟨P, 1, none⟩ = some (.slice a2 t2.args.length c2)) := fun w' hb => ⟨(P3.out.below hb P3.out.lt).cell 0, (P3.out.below hb P3.out.lt).cell 1⟩
    have hPl : P < w3.heap.size := P3.out.lt
    go_region_held3 (fun w' => w'.cell? ⟨P, 0, none⟩ = some (.string t2.name) ∧ w'.cell? ⟨P, 1, none⟩ = some (.slice a2 t2.args.length c2)) (first | exact hS | exact ⟨p0, p1⟩ | exact two_keep (two_keep hS nQ nQ) nQ nQ | exact two_keep hS nQ nQ | go_keep)
      (first
        | (go_at_call 8; refine (BFA.out _ (by first | exact Below.refl _ _ | exact (Below.refl _ _).drew | exact ((Below.refl _ _).alloc (Nat.le_refl _) _) | exact ((Below.refl _ _).drew.alloc (Nat.le_refl _) _) | exact ((Below.refl _ _).alloc (Nat.le_refl _) _).drew)).mono ?_; rintro e w5 ⟨v5, l5, rfl, hv5, hz5, hb5, hbl5⟩; have hS := KP.out _ hb5)
        | (go_at_call 16;
            first
              | (refine (ONA.out (fun b => b ≠ w5.heap.size) _ _ _ (fun b h => by have := hb5.size; omega) (by exact hb5.alloc hb5.size _) (by exact ((hv5.mono (Y := fun b => b ≠ w5.heap.size) (fun b _ h => by omega)).alloc _)) hz5).mono ?_; rintro e w6 ⟨a6, c6, rfl, hb6, hbl6, hs6, hz6⟩; have hS := KP.out _ hb6; have QB : Blk w6 w5.heap.size #[.string ⟨#[]⟩, .slice none 0 0] 28 := (Blk.new w5 _ _).below hbl6 (by simp); have q0 := QB.cell 0; have q1 := QB.cell 1; have qf := QB.frozen; have ql := QB.lt; have hQN : w3.heap.size ≤ w5.heap.size := hb5.size; have nQ : w5.heap.size ≠ P := by omega)
              | (have BVq : BV w5 (fun b => b ≠ w3.heap.size) v5 l5 := hv5.mono (fun b h _ => by simp at h; omega); refine (ONA.out (fun b => b ≠ w3.heap.size) _ _ _ (fun b h => by omega) (by exact hb5) (by exact BVq) hz5).mono ?_; rintro e w6 ⟨a6, c6, rfl, hb6, hbl6, hs6, hz6⟩; have hS := KP.out _ hb6; have QB : Blk w6 w3.heap.size #[.string ⟨#[]⟩, .slice none 0 0] 28 := (((Blk.new w3 _ _).drewN 1).below hbl5 (by simp)).below hbl6 (by have := hbl5.size; simp at this; omega); have q0 := QB.cell 0; have q1 := QB.cell 1; have qf := QB.frozen; have ql := QB.lt; have hQN : w3.heap.size ≤ w3.heap.size := Nat.le_refl _; have nQ : w3.heap.size ≠ P := by omega)
              | (refine (ONA.out (fun _ => True) _ _ _ (fun _ _ => trivial) (by exact hb5) (by exact hv5.mono fun _ _ _ => trivial) hz5).mono ?_; rintro e w6 ⟨a6, c6, rfl, hb6, hbl6, hs6, hz6⟩; have hS := KP.out _ hb6)))
    all_goals first
      | (have TB : Hid (MmB w3 w5.heap.size (onT l5 t2).name a6 (onT l5 t2).args.length c6 (onT l5 t2).args ((w6.setCell ⟨w5.heap.size, 0, none⟩ (.string (onT l5 t2).name)).setCell ⟨w5.heap.size, 1, none⟩ (.slice a6 (onT l5 t2).args.length c6))) := mmB_set QB hQN hb6 (hs6.mono fun b hb _ => by rcases hb with h | h; exact h; simp at h; omega); generalize ((w6.setCell ⟨w5.heap.size, 0, none⟩ (.string (onT l5 t2).name)).setCell ⟨w5.heap.size, 1, none⟩ (.slice a6 (onT l5 t2).args.length c6)) = w9 at *; generalize w5.heap.size = Q at *)
      | (have hz35 : w3.heap.size < w5.heap.size := by (have := hbl5.size; simp at this; omega)
         have TB : Hid (MmB w3 w3.heap.size (onT l5 t2).name a6 (onT l5 t2).args.length c6 (onT l5 t2).args ((w6.setCell ⟨w3.heap.size, 0, none⟩ (.string (onT l5 t2).name)).setCell ⟨w3.heap.size, 1, none⟩ (.slice a6 (onT l5 t2).args.length c6))) := mmB_set QB (by exact hQN) hb6 (hs6.mono fun b hb _ => by rcases hb with h | h; exact h; omega)
         generalize ((w6.setCell ⟨w3.heap.size, 0, none⟩ (.string (onT l5 t2).name)).setCell ⟨w3.heap.size, 1, none⟩ (.slice a6 (onT l5 t2).args.length c6)) = w9 at *
         obtain ⟨Q, hQe⟩ : ∃ Q, Q = w3.heap.size := ⟨_, rfl⟩
         rw [← hQe] at TB ⊢
         clear hQe)
      | (have TB : Hid (MmB w3 w6.heap.size (onT l5 t2).name a6 (onT l5 t2).args.length c6 (onT l5 t2).args (w6.alloc (.cells #[.string (onT l5 t2).name, .slice a6 (onT l5 t2).args.length c6] 28))) := ⟨Blk.new w6 _ _, hb6.alloc hb6.size _, (hs6.later ((Below.refl _ _).alloc (Nat.le_refl _) _)).mono fun _ _ _ => trivial⟩; generalize (w6.alloc (.cells #[.string (onT l5 t2).name, .slice a6 (onT l5 t2).args.length c6] 28)) = w9 at *; generalize w6.heap.size = Q at *)
    all_goals
      clear BFA ONA
      generalize onT l5 t2 = x at *
      have TX0 := hide hz6
      clear hz6 hS hs6 hb6 hbl6
      have HB9 := hide TB.out.2.1
      have q0 : w9.cell? ⟨Q, 0, none⟩ = some (.string x.name) := TB.out.1.cell 0
      have q1 : w9.cell? ⟨Q, 1, none⟩ = some (.slice a6 x.args.length c6) := TB.out.1.cell 1
      have p0' : w9.cell? ⟨P, 0, none⟩ = some (.string t2.name) := (KP.out w9 HB9.out).1
      have p1' : w9.cell? ⟨P, 1, none⟩ = some (.slice a2 t2.args.length c2) := (KP.out w9 HB9.out).2
      have BW9 := hide (B3.out.trans (HB9.out.mono B3.out.size))
      have TX : Hid (∀ w', Below w9.heap.size w9 w' → TV w' (fun _ => True) (.agg #[.string x.name, .slice a6 x.args.length c6]) x) := fun w' hb => ⟨_, _, rfl, TB.out.2.2.later hb⟩
      have TT : Hid (∀ w', Below w9.heap.size w9 w' → TV w' (fun _ => True) (.agg #[.string t2.name, .slice a2 t2.args.length c2]) t2) := fun w' hb => ⟨_, _, rfl, (S3.out.later HB9.out).later hb⟩
      have K4 : Hid (∀ w', Below w9.heap.size w9 w' → w'.cell? ⟨P, 0, none⟩ = some (.string t2.name) ∧ w'.cell? ⟨P, 1, none⟩ = some (.slice a2 t2.args.length c2) ∧ w'.cell? ⟨Q, 0, none⟩ = some (.string x.name) ∧ w'.cell? ⟨Q, 1, none⟩ = some (.slice a6 x.args.length c6)) := fun w' hb => ⟨cell_later hb p0', cell_later hb p1', cell_later hb q0, cell_later hb q1⟩
      go_wp2_with fail
      refine (size_any x _ 200 _ _ (TX.out _ (Below.refl _ _)) (by decide) (by decide)).mono ?_
      rintro e w10 ⟨rfl, hb10⟩
      clear p0' p1' q0 q1
      obtain ⟨p0', p1', q0, q1⟩ := K4.out _ hb10
      have HB10 := hide hb10
      clear hb10
      by_cases h200 : sizeL [x] ≤ 200
      · have e10 : min ((sizeL [x] : Nat) : Int) (200 + 1) = (sizeL [x] : Nat) := by omega
        rw [e10]
        clear e10
        obtain ⟨htw, h', hmt, hall⟩ := TX0.out.2 h200
        have HTW := hide htw
        have HMT := hide hmt
        have HALL := hide hall
        clear htw hmt hall
        go_wp2_with fail
        refine (match_any t2 x _ _ _ _ (TT.out _ HB10.out) (TX.out _ HB10.out)).mono ?_
        rintro e w11 ⟨hb11, ⟨h, _⟩ | ⟨_, h, _⟩ | ⟨_, h'', v11, l', hm', rfl, hbv, hperm, hsort⟩⟩
        · exact absurd HTW.out h
        · rw [HMT.out] at h; cases h
        have hb11' := HB10.out.trans (hb11.mono HB10.out.size)
        obtain ⟨hE', hmp, hf, hlen⟩ := HALL.out l' (by rw [HMT.out] at hm'; cases hm'; exact hperm) hsort
        clear p0' p1' q0 q1
        obtain ⟨p0', p1', q0, q1⟩ := K4.out _ hb11'
        have HB11 := hide hb11'
        have AP : Hid (Calls Try.prog 11 #[v11, .agg #[.string t2.name, .slice a2 t2.args.length c2]] w11 fun e w' => Below w11.heap.size w11 w' ∧ ∃ a' c', e = .returned (.tuple #[.agg #[.string x.name, .slice a' x.args.length c'], .int .i64 0]) ∧ Sl w' (fun b => w11.heap.size ≤ b) a' x.args) := by
          refine (apply_on l' t2 _ _ w11 (fun _ => True) (hbv.mono fun _ _ _ => trivial) (TT.out _ hb11')).mono ?_
          rintro e w12 ⟨hb12, ⟨h, _⟩ | ⟨_, h, _⟩ | ⟨_, _, ⟨_, a', c', rfl, hs⟩ | ⟨h, _⟩⟩⟩
          · exact absurd hE' h
          · exact absurd hmp h
          · rw [hf] at hs ⊢
            exact ⟨hb12, a', c', rfl, hs⟩
          · rw [hf] at h
            omega
        have HLN := hide hlen
        have HMP := hide hmp
        obtain ⟨av, cv, rfl, hlv⟩ : ∃ av cv, v11 = .slice av l'.length cv ∧ True := by
          obtain ⟨av, cv, h, _⟩ := hbv
          exact ⟨av, cv, h, trivial⟩
        clear hE' hmp hf hlen hbv hperm hsort hm' hb11 hb11' HALL hlv
        go_wp2_with fail
        refine AP.out.mono ?_
        rintro e w12 ⟨hb12, a12, c12, rfl, hs12⟩
        have hb12' := HB11.out.trans (hb12.mono HB11.out.size)
        have hbA : Below w12.heap.size w12 (w12.alloc (.cells #[.string x.name, .slice a12 x.args.length c12] 28)) := (Below.refl _ _).alloc (Nat.le_refl _) _
        have YB := hide (Blk.new w12 #[.string x.name, .slice a12 x.args.length c12] 28)
        have HB13 := hide (hb12'.trans (hbA.mono hb12'.size))
        have SY := hide ((hs12.later hbA).mono (Y := fun _ => True) fun _ _ _ => trivial)
        clear hb12 hs12 hbA hb12' AP p0' p1' q0 q1
        obtain ⟨p0', p1', q0, q1⟩ := K4.out _ HB13.out
        go_wp2_with fail
        generalize w12.alloc (.cells #[.string x.name, .slice a12 x.args.length c12] 28) = w13 at *
        generalize w12.heap.size = Y at *
        have K13 : Hid (∀ w', Below w13.heap.size w13 w' → w'.cell? ⟨P, 0, none⟩ = some (.string t2.name) ∧ w'.cell? ⟨P, 1, none⟩ = some (.slice a2 t2.args.length c2) ∧ w'.cell? ⟨Q, 0, none⟩ = some (.string x.name) ∧ w'.cell? ⟨Q, 1, none⟩ = some (.slice a6 x.args.length c6)) := fun w' hb => ⟨cell_later hb p0', cell_later hb p1', cell_later hb q0, cell_later hb q1⟩
        have HS0 := hide (And.intro p0' (And.intro p1' (And.intro q0 q1)))
        obtain ⟨G, hG0⟩ : ∃ G : Tm, G = ⟨⟨#[103]⟩, [⟨⟨#[97]⟩, []⟩, x]⟩ := ⟨_, rfl⟩
        have hG := hide hG0
        have HV : Hid (sizeL [x] ≤ 190 → (decide (twoE G t2 = 0) && hcB G t2) = true ∧ twoE G t2 = 0) := fun h => by
          have h1 := topMatch_in (p := t2) (x := x) (sa := ⟨#[97]⟩) (sg := ⟨#[103]⟩) HMP.out TX0.out.1 h (by unfold mtB; rw [HMT.out]; rfl) (by decide) (by decide) (by decide)
          rw [hG0, h1.1, h1.2]
          exact ⟨rfl, rfl⟩
        clear hG0
        have EN : Hid (∀ w14, Below w13.heap.size w13 w14 → Calls Try.prog 18 #[.agg #[.string ⟨#[103]⟩, .slice (some ⟨w14.heap.size, 0, none⟩) 2 2], .agg #[.string t2.name, .slice a2 t2.args.length c2]] (w14.alloc (.cells #[.string ⟨#[97]⟩, .slice none 0 0, .string x.name, .slice a6 x.args.length c6] 28)) fun e w'' => e = .returned (.tuple #[.bool (decide (twoE G t2 = 0) && hcB G t2), .int .i64 (twoE G t2)]) ∧ Below w13.heap.size w13 w'') := fun w14 hb => by
          have hbA : Below w14.heap.size w14 (w14.alloc (.cells #[.string ⟨#[97]⟩, .slice none 0 0, .string x.name, .slice a6 x.args.length c6] 28)) := (Below.refl _ _).alloc (Nat.le_refl _) _
          have hb9 := HB13.out.trans (hb.mono HB13.out.size)
          have hSx : Sl w14 (fun _ => True) a6 x.args := TB.out.2.2.later hb9
          have hG2 : Sl (w14.alloc (.cells #[.string ⟨#[97]⟩, .slice none 0 0, .string x.name, .slice a6 x.args.length c6] 28)) (fun _ => True) (some ⟨w14.heap.size, 0, none⟩) [⟨⟨#[97]⟩, []⟩, x] :=
            sl_two (t5 := ⟨⟨#[97]⟩, []⟩) (a5 := none) (c5 := 0) (Blk.new w14 _ _) trivial (show Sl _ (fun _ => True) none [] from ⟨by simp, Or.inl rfl⟩) (hSx.later hbA) (fun _ _ _ => trivial) (fun _ _ _ => trivial)
          refine (encompasses_any G t2 _ _ _ (fun _ => True) ⟨some ⟨w14.heap.size, 0, none⟩, 2, by rw [hG.out]; rfl, by rw [hG.out]; exact hG2⟩ (TT.out _ (hb9.trans (hbA.mono hb9.size)))).mono ?_
          rintro e w15 ⟨rfl, hb15⟩
          exact ⟨rfl, (hb.trans (hbA.mono hb.size)).trans (hb15.mono (hb.trans (hbA.mono hb.size)).size)⟩
        go_region_held3 (fun w' => w'.cell? ⟨P, 0, none⟩ = some (.string t2.name) ∧ w'.cell? ⟨P, 1, none⟩ = some (.slice a2 t2.args.length c2) ∧ w'.cell? ⟨Q, 0, none⟩ = some (.string x.name) ∧ w'.cell? ⟨Q, 1, none⟩ = some (.slice a6 x.args.length c6)) (first | exact HS0.out | exact hT2 | exact hT1 | go_keep)
          (first
            | (go_at_call 19; refine (leaf_any _ _).mono ?_; rintro e w14 ⟨rfl, hd0⟩; have hd1 : Below w13.heap.size w13 w14 := by first | exact hd0 | exact (Below.refl _ _).drew.trans (hd0.mono (by simp))
               have hT1 := K13.out _ hd1)
            | (go_at_call 18; refine (EN.out w14 hd1).mono ?_; rintro e w15 ⟨rfl, hd2⟩; have hT2 := K13.out _ hd2))
        clear hG EN
        generalize (decide (twoE G t2 = 0) && hcB G t2) = hv at *
        generalize twoE G t2 = gv at *
        have HD := hide hd2
        clear hd0 hd1 hd2 hT1
        obtain ⟨p0', p1', q0, q1⟩ := hT2
        have y0 := cell_later HD.out (YB.out.cell 0)
        have y1 := cell_later HD.out (YB.out.cell 1)
        go_wp2_with fail
        have hbF := HB13.out.trans (HD.out.mono HB13.out.size)
        have HBF := hide hbF
        refine (sameR_all x x _ _ _ _ _ (TX.out _ hbF) ⟨_, _, rfl, SY.out.later HD.out⟩).mono ?_
        rintro e w16 ⟨rfl, hb16⟩
        rw [sameB_refl]
        have hb16' := HBF.out.trans (hb16.mono HBF.out.size)
        clear p0' p1' q0 q1 y0 y1 hbF hb16
        obtain ⟨p0', p1', q0, q1⟩ := K4.out _ hb16'
        have HB16 := hide hb16'
        clear hb16'
        go_wp2_with fail
        refine (varsOf_any t2 _ _ _ (TT.out _ HB16.out) (by omega)).mono ?_
        rintro e w17 ⟨v17, rfl, ⟨a17, c17, rfl, hl17⟩, hb17⟩
        rw [← HLN.out]
        have hb17' := HB16.out.trans (hb17.mono HB16.out.size)
        clear p0' p1' q0 q1 hb17 hl17
        obtain ⟨p0', p1', q0, q1⟩ := K4.out _ hb17'
        have HB17 := hide hb17'
        clear hb17'
        go_wp2_with fail
        refine (size_any x _ 190 _ _ (TX.out _ HB17.out) (by decide) (by decide)).mono ?_
        rintro e w18 ⟨rfl, hb18⟩
        have BWF := hide (BW9.out.trans ((HB17.out.trans (hb18.mono HB17.out.size)).mono BW9.out.size))
        clear hb18
        by_cases h190 : sizeL [x] ≤ 190
        · obtain ⟨hv1, hv2⟩ := HV.out h190
          subst hv1
          subst hv2
          have e10 : min ((sizeL [x] : Nat) : Int) (190 + 1) = (sizeL [x] : Nat) := by omega
          rw [e10]
          clear e10
          go_wp2_with fail
          go_ret
          exact ⟨rfl, BWF.out⟩
        · have e10 : min ((sizeL [x] : Nat) : Int) (190 + 1) = 191 := by omega
          rw [e10]
          clear e10
          go_wp2_with fail
          go_ret
          exact ⟨rfl, BWF.out⟩
      · have e10 : min ((sizeL [x] : Nat) : Int) (200 + 1) = 201 := by omega
        rw [e10]
        clear e10
        have BWF := hide (BW9.out.trans (HB10.out.mono BW9.out.size))
        go_wp2_with fail
        go_ret
        exact ⟨rfl, BWF.out⟩
#print axioms topMatch_any
end Go.Proofs.Ytkfppicbningaaa
