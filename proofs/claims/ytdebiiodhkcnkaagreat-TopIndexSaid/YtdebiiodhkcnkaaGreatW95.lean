import Derived.Test.YtdebiiodhkcnkaaGreatShp
import Derived.Test.YtdebiiodhkcnkaaGreatW91
import Derived.Test.YtdebiiodhkcnkaaGreatZCTopIndexOwn
import Derived.Test.YtdebiiodhkcnkaaGreatZTopIndexOwn
namespace Go.Proofs.YtdebiiodhkcnkaaGreat
open Go.RowKit
set_option linter.unusedSimpArgs false
set_option linter.unusedVariables false
set_option maxRecDepth 8000
def FtM (w : World) (q : Nat) (Y : Nat → Prop) (Z : List Bc) : Prop := MapAt w q (Z.map toP) ∧ ∀ x ∈ Z, Sl w Y x.2.1 x.1.t.args
def FtPost (w : World) (q : Nat) (Y : Nat → Prop) (r : Option (List Bd)) (e : Ending) (w' : World) : Prop :=
 w.grownBy w' (some q) ∧ ((r = none ∧ e = .returned (.bool false)) ∨ ∃ (h' : List Bd) (Z' : List Bc), r = some h' ∧ e = .returned (.bool true) ∧ Z'.map (·.1) = h' ∧ FtM w' q Y Z')
theorem FtM.kept {w w' : World} {q : Nat} {Y : Nat → Prop} {Z : List Bc} (h : FtM w q Y Z) (hY : ∀ b, Y b → b < w.heap.size) (hk : ∀ b, b < w.heap.size → w'.heap[b]? = w.heap[b]?) : FtM w' q Y Z :=
 ⟨h.1.kept (hk q h.1.lt), fun x hx => (h.2 x hx).kept fun b hb => hk b (hY b hb)⟩
theorem FtM.below {w w' : World} {q : Nat} {Y : Nat → Prop} {Z : List Bc} (h : FtM w q Y Z) (hY : ∀ b, Y b → b < w.heap.size) (hb : Below w.heap.size w w') : FtM w' q Y Z := h.kept hY fun b hb' => hb.block b hb'
theorem mapGet_forT {Z : List Bc} {n : ByteArray} : (forT (Z.map (·.1)) n = none → mapGet (Z.map toP) n = none) ∧ (∀ t, forT (Z.map (·.1)) n = some t → ∃ x ∈ Z, x.1.t = t ∧ mapGet (Z.map toP) n = some (.agg #[.string t.name, .slice x.2.1 t.args.length x.2.2])) := by
 induction Z with
 | nil => exact ⟨fun _ => rfl, fun t h => by simp [forT] at h⟩
 | cons y r ih =>
  simp only [List.map_cons]
  by_cases hn : y.1.nm = n
  ·refine ⟨fun h => by simp [forT, hn] at h, fun t h => ?_⟩
   rw [forT, if_pos hn] at h
   cases h
   exact ⟨y, by simp, rfl, by simp [mapGet, toP, hn]⟩
  ·refine ⟨fun h => ?_, fun t h => ?_⟩
   ·rw [forT, if_neg hn] at h
    rw [mapGet, if_neg (by simpa [toP] using hn)]
    exact ih.1 h
   ·rw [forT, if_neg hn] at h
    obtain ⟨x, hx, h1, h2⟩ := ih.2 t h
    exact ⟨x, by simp [hx], h1, by rw [mapGet, if_neg (by simpa [toP] using hn)]; exact h2⟩
def FlInv (w2 : World) (q : Nat) (Y : Nat → Prop) (l m : List Tm) (h : List Bd) (i : Value) (wr : World) : Prop :=
 ∃ (k : Nat) (Z' : List Bc), k ≤ l.length ∧ i = .int .i64 (k : Int) ∧ mtL (l.take k) (m.take k) h = some (Z'.map (·.1)) ∧ FtM wr q Y Z' ∧ w2.grownBy wr (some q)
theorem grown2_below {w w' w'' : World} {row : Option Nat} (h : w.grownBy w' row) (hb : Below w'.heap.size w' w'') : w.grownBy w'' row :=
 h.andThen (row' := none) ⟨hb.os, hb.tape, hb.output, hb.size, fun j hj _ => hb.block j hj⟩ (by simp)
set_option maxHeartbeats 1000000 in
theorem fits_any (S F q : Nat) (Y : Nat → Prop) (p : Tm) : ∀ (t : Tm) (Z : List Bc) (pv tv : Value) (w : World), TV w Y pv p → TV w Y tv t → Blk w S #[.map (some q)] 67 → Blk w F #[.func (.func 51) #[] #[.pointer (some ⟨S, 0, none⟩), .pointer (some ⟨F, 0, none⟩)]] 93 → FtM w q Y Z → (∀ b, Y b → b < w.heap.size ∧ b ≠ q) → shT p t = true →
  Calls Tryz.prog 51 #[pv, tv, .pointer (some ⟨S, 0, none⟩), .pointer (some ⟨F, 0, none⟩)] w fun e w' => FtPost w q Y (mtT p t (Z.map (·.1))) e w' := by
 induction p using Tm.ind with
 | h s l ih =>
  intro t Z pv tv w hp ht hS hF hM hY hsh
  obtain ⟨s2, m⟩ := t
  obtain ⟨a, c, rfl, hs⟩ := hp
  obtain ⟨a2, c2, rfl, hs2⟩ := ht
  have IH := hide ih
  have HS := hide hs
  have HS2 := hide hs2
  have HSB := hide hS
  have HFB := hide hF
  have HM := hide hM
  have HY := hide hY
  have hl := hs.1
  have hl2 := hs2.1
  have hql := hM.1.lt
  have hSq : S ≠ q := fun e => by
   obtain ⟨es, clk, h1, _⟩ := hM.1
   subst e
   unfold Blk at hS
   rw [h1] at hS; cases hS
  have hFq : F ≠ q := fun e => by
   obtain ⟨es, clk, h1, _⟩ := hM.1
   subst e
   unfold Blk at hF
   rw [h1] at hF; cases hF
  have hSl := hS.lt
  have hFl := hF.lt
  clear ih hs hs2 hS hF hM hY
  dsimp only
  have HB2 : Hid (Below w.heap.size w ((w.alloc (.cells #[.string s, .slice a l.length c] 26)).alloc (.cells #[.string s2, .slice a2 m.length c2] 26))) := below2 _ _
  have PA := hide ((Blk.new w #[.string s, .slice a l.length c] 26).alloc (.cells #[.string s2, .slice a2 m.length c2] 26))
  have PB : Hid (Blk ((w.alloc (.cells #[.string s, .slice a l.length c] 26)).alloc (.cells #[.string s2, .slice a2 m.length c2] 26)) (w.heap.size + 1) #[.string s2, .slice a2 m.length c2] 26) := by
   have h := Blk.new (w.alloc (.cells #[.string s, .slice a l.length c] 26)) #[.string s2, .slice a2 m.length c2] 26
   unfold Hid
   simpa using h
  have hz2 : ((w.alloc (.cells #[.string s, .slice a l.length c] 26)).alloc (.cells #[.string s2, .slice a2 m.length c2] 26)).heap.size = w.heap.size + 2 := by simp
  have HG2 : Hid (w.grownBy ((w.alloc (.cells #[.string s, .slice a l.length c] 26)).alloc (.cells #[.string s2, .slice a2 m.length c2] 26)) (some q)) := (World.grownBy_alloc w _ _).andThen (World.grownBy_alloc _ _ none) (by simp)
  have hz : ∀ w', (zeroValue 26).run Tryz.prog w' = .ok (.agg #[.string ⟨#[]⟩, .slice none 0 0]) w' := fun w' => Tryz.zeroValue26 w'
  cases hvb : varB s with
  | true =>
   have HVB := hide hvb
   clear hvb
   have HM2 := hide (HM.out.below (fun b hb => (HY.out b hb).1) HB2.out)
   have HS22 := hide (HS2.out.later HB2.out)
   have s0 : ((w.alloc (.cells #[.string s, .slice a l.length c] 26)).alloc (.cells #[.string s2, .slice a2 m.length c2] 26)).cell? ⟨S, 0, none⟩ = some (.map (some q)) := (HSB.out.below HB2.out hSl).cell 0
   have a0 := PA.out.cell 0
   have b0 := PB.out.cell 0
   have b1 := PB.out.cell 1
   cases hf : forT (Z.map (·.1)) s with
   | some x =>
    obtain ⟨y, hy, rfl, hg⟩ := mapGet_forT.2 x hf
    have HR := hide (mtT_old (l := l) (t := ⟨s2, m⟩) HVB.out hf)
    have HSY := hide (HM2.out.2 y hy)
    have hlk : (Instr.lookup 67 (.map (some q)) (.string s) true).run Tryz.prog ((w.alloc (.cells #[.string s, .slice a l.length c] 26)).alloc (.cells #[.string s2, .slice a2 m.length c2] 26)) = .ok (.tuple #[.agg #[.string y.1.t.name, .slice y.2.1 y.1.t.args.length y.2.2], .bool true]) ((w.alloc (.cells #[.string s, .slice a l.length c] 26)).alloc (.cells #[.string s2, .slice a2 m.length c2] 26)) := by
     rw [run_look (P := Tryz.prog) Tryz.underlying67 Tryz.underlying9 (hz _) HM2.out.1 s, hg]; rfl
    clear hf hg hy
    have b0' : ∀ o, (((w.alloc (.cells #[.string s, .slice a l.length c] 26)).alloc (.cells #[.string s2, .slice a2 m.length c2] 26)).alloc o).cell? ⟨w.heap.size + 1, 0, none⟩ = some (.string s2) := fun o => (PB.out.alloc o).cell 0
    have b1' : ∀ o, (((w.alloc (.cells #[.string s, .slice a l.length c] 26)).alloc (.cells #[.string s2, .slice a2 m.length c2] 26)).alloc o).cell? ⟨w.heap.size + 1, 1, none⟩ = some (.slice a2 m.length c2) := fun o => (PB.out.alloc o).cell 1
    have SK : Hid (Calls Tryz.prog 53 #[.agg #[.string y.1.t.name, .slice y.2.1 y.1.t.args.length y.2.2], .agg #[.string s2, .slice a2 m.length c2]] (((w.alloc (.cells #[.string s, .slice a l.length c] 26)).alloc (.cells #[.string s2, .slice a2 m.length c2] 26)).alloc (.cells #[.string y.1.t.name, .slice y.2.1 y.1.t.args.length y.2.2] 26)) fun e w' => e = .returned (.bool (sameB y.1.t ⟨s2, m⟩)) ∧ Below ((w.alloc (.cells #[.string s, .slice a l.length c] 26)).alloc (.cells #[.string s2, .slice a2 m.length c2] 26)).heap.size ((w.alloc (.cells #[.string s, .slice a l.length c] 26)).alloc (.cells #[.string s2, .slice a2 m.length c2] 26)) w') := by
     refine (sameK_all y.1.t ⟨s2, m⟩ _ _ _ Y Y ⟨_, _, rfl, HSY.out.later ((Below.refl _ _).alloc (Nat.le_refl _) _)⟩ ⟨_, _, rfl, HS22.out.later ((Below.refl _ _).alloc (Nat.le_refl _) _)⟩).mono ?_
     rintro e w5 ⟨rfl, hb5⟩
     exact ⟨rfl, ((Below.refl _ _).alloc (Nat.le_refl _) _).trans (hb5.mono (by simp))⟩
    go_enter Tryz.func51, Tryz.ntmps51
    go_wp2_with (go_at_call 52; refine (isVariable_all _ _).mono ?_; rintro e w' ⟨rfl, rfl⟩; rw [HVB.out])
    refine SK.out.mono ?_
    rintro e w5 ⟨rfl, hb5⟩
    have HG5 := hide (grown2_below HG2.out hb5)
    have HM5 := hide (HM2.out.below (fun b hb => by have := (HY.out b hb).1; omega) hb5)
    clear hb5 b0' b1' hlk
    go_wp2_with fail
    go_ret
    refine ⟨HG5.out, ?_⟩
    rw [HR.out]
    cases hsm : sameB y.1.t ⟨s2, m⟩ with
    | true => exact Or.inr ⟨_, Z, by rw [if_pos rfl], rfl, rfl, HM5.out⟩
    | false => exact Or.inl ⟨by rw [if_neg (by simp)], rfl⟩
   | none =>
    have hg := mapGet_forT.1 hf
    have HR := hide (mtT_new (l := l) (t := ⟨s2, m⟩) HVB.out hf)
    have hlk : (Instr.lookup 67 (.map (some q)) (.string s) true).run Tryz.prog ((w.alloc (.cells #[.string s, .slice a l.length c] 26)).alloc (.cells #[.string s2, .slice a2 m.length c2] 26)) = .ok (.tuple #[.agg #[.string ⟨#[]⟩, .slice none 0 0], .bool false]) ((w.alloc (.cells #[.string s, .slice a l.length c] 26)).alloc (.cells #[.string s2, .slice a2 m.length c2] 26)) := by
     rw [run_look (P := Tryz.prog) Tryz.underlying67 Tryz.underlying9 (hz _) HM2.out.1 s, hg]; rfl
    have hbA : Below ((w.alloc (.cells #[.string s, .slice a l.length c] 26)).alloc (.cells #[.string s2, .slice a2 m.length c2] 26)).heap.size ((w.alloc (.cells #[.string s, .slice a l.length c] 26)).alloc (.cells #[.string s2, .slice a2 m.length c2] 26)) (((w.alloc (.cells #[.string s, .slice a l.length c] 26)).alloc (.cells #[.string s2, .slice a2 m.length c2] 26)).alloc (.cells #[.string ⟨#[]⟩, .slice none 0 0] 26)) := (Below.refl _ _).alloc (Nat.le_refl _) _
    have HM3 := hide (HM2.out.below (fun b hb => by have := (HY.out b hb).1; omega) hbA)
    have HG3 := hide (grown2_below HG2.out hbA)
    have HB3 := hide (HB2.out.trans (hbA.mono HB2.out.size))
    have s0' : (((w.alloc (.cells #[.string s, .slice a l.length c] 26)).alloc (.cells #[.string s2, .slice a2 m.length c2] 26)).alloc (.cells #[.string ⟨#[]⟩, .slice none 0 0] 26)).cell? ⟨S, 0, none⟩ = some (.map (some q)) := (HSB.out.below HB3.out hSl).cell 0
    have a0' : (((w.alloc (.cells #[.string s, .slice a l.length c] 26)).alloc (.cells #[.string s2, .slice a2 m.length c2] 26)).alloc (.cells #[.string ⟨#[]⟩, .slice none 0 0] 26)).cell? ⟨w.heap.size, 0, none⟩ = some (.string s) := (PA.out.alloc _).cell 0
    have b0' : (((w.alloc (.cells #[.string s, .slice a l.length c] 26)).alloc (.cells #[.string s2, .slice a2 m.length c2] 26)).alloc (.cells #[.string ⟨#[]⟩, .slice none 0 0] 26)).cell? ⟨w.heap.size + 1, 0, none⟩ = some (.string s2) := (PB.out.alloc _).cell 0
    have b1' : (((w.alloc (.cells #[.string s, .slice a l.length c] 26)).alloc (.cells #[.string s2, .slice a2 m.length c2] 26)).alloc (.cells #[.string ⟨#[]⟩, .slice none 0 0] 26)).cell? ⟨w.heap.size + 1, 1, none⟩ = some (.slice a2 m.length c2) := (PB.out.alloc _).cell 1
    obtain ⟨w8, hrun, hM8, hz8, ho8, ht8, hu8, hk8⟩ := run_put (P := Tryz.prog) Tryz.underlying67 Tryz.underlying9 HM3.out.1 s (.agg #[.string s2, .slice a2 m.length c2]) hg
    have HM8 : Hid (FtM w8 q Y (Z ++ [(⟨s, ⟨s2, m⟩⟩, a2, c2)])) := ⟨by rw [List.map_append]; exact hM8, fun x hx => by
     rcases List.mem_append.1 hx with hx | hx
     ·exact (HM3.out.2 x hx).kept fun b hb => hk8 b (HY.out b hb).2
     ·have e : x = (⟨s, ⟨s2, m⟩⟩, a2, c2) := by simpa using hx
      subst e
      exact (HS2.out.later HB3.out).kept fun b hb => hk8 b (HY.out b hb).2⟩
    have HG8 : Hid (w.grownBy w8 (some q)) := ⟨ho8.trans HG3.out.os, ht8.trans HG3.out.tape, hu8.trans HG3.out.output, by rw [hz8]; exact HG3.out.size, fun j hj hne => (hk8 j (fun e => hne (by rw [e]))).trans (HG3.out.block j hj hne)⟩
    clear hf hg hbA hM8 hz8 ho8 ht8 hu8 hk8
    go_enter Tryz.func51, Tryz.ntmps51
    go_wp2_with (go_at_call 52; refine (isVariable_all _ _).mono ?_; rintro e w' ⟨rfl, rfl⟩; rw [HVB.out])
    go_ret
    refine ⟨HG8.out, ?_⟩
    rw [HR.out]
    exact Or.inr ⟨_, _, rfl, rfl, by simp, HM8.out⟩
  | false =>
   have HVB := hide hvb
   clear hvb
   rw [shT_deep HVB.out, Bool.and_eq_true, Bool.and_eq_true] at hsh
   obtain ⟨⟨hn, hm⟩, hsh⟩ := hsh
   have hm : l.length = m.length := by simpa using hm
   have HSH := hide ((shL_iff l m hm).1 hsh)
   clear hsh
   have HR := hide (mtT_deep (h := Z.map (·.1)) HVB.out hn hm)
   have HLM := hide hm
   rw [← hm] at HG2 HB2 PA PB hz2 hl2 ⊢
   clear hm
   go_enter Tryz.func51, Tryz.ntmps51
   go_wp2_with (go_at_call 52; refine (isVariable_all _ _).mono ?_; rintro e w' ⟨rfl, rfl⟩; rw [HVB.out])
   generalize (w.alloc (.cells #[.string s, .slice a l.length c] 26)).alloc (.cells #[.string s2, .slice a2 l.length c2] 26) = w2 at *
   go_loopw [36] (fun i wr => FlInv w2 q Y l m (Z.map (·.1)) i wr) (fun i wr => l.length - (intOf i).toNat)
   case atStart => exact ⟨0, Z, Nat.zero_le _, rfl, by simp [mtL], HM.out.below (fun b hb => (HY.out b hb).1) HB2.out, ⟨rfl, rfl, rfl, Nat.le_refl _, fun _ _ _ => rfl⟩⟩
   case round =>
    obtain ⟨k, Z', hk, rfl, hT, hMk, hg⟩ := hrel
    have HT := hide hT
    have HMK := hide hMk
    have HGK := hide hg
    have hwr : w.heap.size + 2 ≤ wr.heap.size := by have := hg.size; omega
    have PAK : Hid (Blk wr w.heap.size #[.string s, .slice a l.length c] 26) := (hg.block w.heap.size (by omega) (by simp; omega)).trans PA.out
    have PBK : Hid (Blk wr (w.heap.size + 1) #[.string s2, .slice a2 l.length c2] 26) := (hg.block (w.heap.size + 1) (by omega) (by simp; omega)).trans PB.out
    have FBK : Hid (Blk wr F #[.func (.func 51) #[] #[.pointer (some ⟨S, 0, none⟩), .pointer (some ⟨F, 0, none⟩)]] 93) := (hg.block F (by omega) (by simpa using hFq)).trans (HFB.out.below HB2.out hFl)
    have SBK : Hid (Blk wr S #[.map (some q)] 67) := (hg.block S (by omega) (by simpa using hSq)).trans (HSB.out.below HB2.out hSl)
    have HSK : Hid (Sl wr Y a l) := (HS.out.later HB2.out).kept fun b hb => by
     have h1 := HY.out b hb
     exact hg.block b (by omega) (by simpa using h1.2)
    have HSK2 : Hid (Sl wr Y a2 m) := (HS2.out.later HB2.out).kept fun b hb => by
     have h1 := HY.out b hb
     exact hg.block b (by omega) (by simpa using h1.2)
    have f0 := FBK.out.c0
    have a1 := PAK.out.c1
    clear hT hMk hg
    by_cases hlt' : k < l.length
    ·have hlt2 : (k : Int) < (l.length : Int) := by omega
     have hltm : k < m.length := by have := HLM.out; omega
     obtain ⟨b, o, a', c', rfl, d0, d1, hx⟩ := HSK.out.get (Below.refl _ _) (fun _ _ h => h) k hlt'
     obtain ⟨b2, o2, a2', c2', rfl, e0, e1, hx2⟩ := HSK2.out.get (Below.refl _ _) (fun _ _ h => h) k hltm
     have HX := hide hx
     have HX2 := hide hx2
     have b1 : wr.cell? ⟨w.heap.size + 1, 1, none⟩ = some (.slice (some ⟨b2, o2, none⟩) l.length c2) := PBK.out.cell 1
     have HS0 := hide (And.intro f0 (And.intro a1 (And.intro b1 (And.intro d0 (And.intro d1 (And.intro e0 e1))))))
     have hbY : b < w.heap.size ∧ b ≠ q := by
      obtain ⟨_, h1⟩ := HSK.out
      rcases h1 with h1 | ⟨b', o', e', h1⟩
      ·rw [h1] at hlt'; simp at hlt'
      ·cases e'; exact HY.out _ (lies_get _ _ _ h1 k hlt').1
     have hb2Y : b2 < w.heap.size ∧ b2 ≠ q := by
      obtain ⟨_, h1⟩ := HSK2.out
      rcases h1 with h1 | ⟨b', o', e', h1⟩
      ·rw [h1] at hltm; simp at hltm
      ·cases e'; exact HY.out _ (lies_get _ _ _ h1 k hltm).1
     have IHK := hide (IH.out l[k] (List.getElem_mem hlt') m[k] Z' (.agg #[.string l[k].name, .slice a' l[k].args.length c']) (.agg #[.string m[k].name, .slice a2' m[k].args.length c2']) wr.drew (by exact HX.out.later (below_drewN (Below.refl _ _) 1)) (by exact HX2.out.later (below_drewN (Below.refl _ _) 1)) (by exact SBK.out) (by exact FBK.out) (by exact HMK.out.below (fun b hb => by have := (HY.out b hb).1; omega) (below_drewN (Below.refl _ _) 1)) (fun b hb => by have := HY.out b hb; exact ⟨by simp; omega, this.2⟩) (HSH.out k hlt' hltm))
     have SEV : Hid (∀ w1, wr.drew.grownBy w1 (some q) → w1.cell? ⟨F, 0, none⟩ = some (.func (.func 51) #[] #[.pointer (some ⟨S, 0, none⟩), .pointer (some ⟨F, 0, none⟩)]) ∧ w1.cell? ⟨w.heap.size, 1, none⟩ = some (.slice (some ⟨b, o, none⟩) l.length c) ∧ w1.cell? ⟨w.heap.size + 1, 1, none⟩ = some (.slice (some ⟨b2, o2, none⟩) l.length c2) ∧ w1.cell? ⟨b, o + k * 2, none⟩ = some (.string l[k].name) ∧ w1.cell? ⟨b, o + k * 2 + 1, none⟩ = some (.slice a' l[k].args.length c') ∧ w1.cell? ⟨b2, o2 + k * 2, none⟩ = some (.string m[k].name) ∧ w1.cell? ⟨b2, o2 + k * 2 + 1, none⟩ = some (.slice a2' m[k].args.length c2')) := fun w1 hg1 => by
      have kp : ∀ b o, b < wr.heap.size → b ≠ q → w1.cell? ⟨b, o, none⟩ = wr.cell? ⟨b, o, none⟩ := fun b o hb hne => hg1.cell_far ⟨b, o, none⟩ (by simpa using hb) (by simpa using hne)
      have h := HS0.out
      exact ⟨(kp _ _ (by omega) hFq).trans h.1, (kp _ _ (by omega) (by omega)).trans h.2.1, (kp _ _ (by omega) (by omega)).trans h.2.2.1, (kp _ _ (by omega) hbY.2).trans h.2.2.2.1, (kp _ _ (by omega) hbY.2).trans h.2.2.2.2.1, (kp _ _ (by omega) hb2Y.2).trans h.2.2.2.2.2.1, (kp _ _ (by omega) hb2Y.2).trans h.2.2.2.2.2.2⟩
     have HNO := hide (fun h0 => mtL_no hlt' HLM.out HT.out h0)
     have HNX := hide (fun h'' (h0 : mtT l[k] m[k] (Z'.map (·.1)) = some h'') => mtL_next hlt' hltm HT.out h0)
     have HGO : Hid (∀ w1, wr.drew.grownBy w1 (some q) → w2.grownBy w1 (some q)) := fun w1 hg1 => (grown2_below HGK.out (below_drewN (Below.refl _ _) 1)).andThen hg1 (fun j hj => Or.inr hj)
     clear hx hx2 hbY hb2Y
     generalize l[k] = y at *
     generalize m[k] = z at *
     go_wp2_with fail
     cases hr : mtT y z (Z'.map (·.1)) with
     | none =>
      have IHN : Hid (Calls Tryz.prog 51 #[.agg #[.string y.name, .slice a' y.args.length c'], .agg #[.string z.name, .slice a2' z.args.length c2'], .pointer (some ⟨S, 0, none⟩), .pointer (some ⟨F, 0, none⟩)] wr.drew fun e w' => e = .returned (.bool false) ∧ wr.drew.grownBy w' (some q)) := by
       refine IHK.out.mono ?_
       rintro e w1 ⟨hg1, ⟨_, rfl⟩ | ⟨h', Z1, h0, _⟩⟩
       ·exact ⟨rfl, hg1⟩
       ·rw [hr] at h0; cases h0
      have HF : Hid (mtT ⟨s, l⟩ ⟨s2, m⟩ (Z.map (·.1)) = none) := by unfold Hid; rw [HR.out, HNO.out hr]
      go_region_held3 (fun w' => w'.cell? ⟨F, 0, none⟩ = some (.func (.func 51) #[] #[.pointer (some ⟨S, 0, none⟩), .pointer (some ⟨F, 0, none⟩)]) ∧ w'.cell? ⟨w.heap.size, 1, none⟩ = some (.slice (some ⟨b, o, none⟩) l.length c) ∧ w'.cell? ⟨w.heap.size + 1, 1, none⟩ = some (.slice (some ⟨b2, o2, none⟩) l.length c2) ∧ w'.cell? ⟨b, o + k * 2, none⟩ = some (.string y.name) ∧ w'.cell? ⟨b, o + k * 2 + 1, none⟩ = some (.slice a' y.args.length c') ∧ w'.cell? ⟨b2, o2 + k * 2, none⟩ = some (.string z.name) ∧ w'.cell? ⟨b2, o2 + k * 2 + 1, none⟩ = some (.slice a2' z.args.length c2')) (first | exact HS0.out | exact hS1 | go_keep)
       ((go_at_call 51; refine IHN.out.mono ?_; rintro e w1 ⟨rfl, hg1⟩; have hS1 := SEV.out w1 hg1))
      have HG1 := hide (HGO.out w1 hg1)
      clear hg1 hS1
      go_wp2_with fail
      go_ret
      exact ⟨HG2.out.andThen HG1.out (fun j hj => Or.inr hj), Or.inl ⟨HF.out, rfl⟩⟩
     | some h' =>
      have IHS : Hid (Calls Tryz.prog 51 #[.agg #[.string y.name, .slice a' y.args.length c'], .agg #[.string z.name, .slice a2' z.args.length c2'], .pointer (some ⟨S, 0, none⟩), .pointer (some ⟨F, 0, none⟩)] wr.drew fun e w' => e = .returned (.bool true) ∧ wr.drew.grownBy w' (some q) ∧ ∃ Z1 : List Bc, Z1.map (·.1) = h' ∧ FtM w' q Y Z1) := by
       refine IHK.out.mono ?_
       rintro e w1 ⟨hg1, ⟨h0, _⟩ | ⟨h'', Z1, h0, rfl, h2, h3⟩⟩
       ·rw [hr] at h0; cases h0
       ·rw [hr] at h0
        cases h0
        exact ⟨rfl, hg1, Z1, h2, h3⟩
      have HN := hide (HNX.out h' hr)
      go_region_held3 (fun w' => w'.cell? ⟨F, 0, none⟩ = some (.func (.func 51) #[] #[.pointer (some ⟨S, 0, none⟩), .pointer (some ⟨F, 0, none⟩)]) ∧ w'.cell? ⟨w.heap.size, 1, none⟩ = some (.slice (some ⟨b, o, none⟩) l.length c) ∧ w'.cell? ⟨w.heap.size + 1, 1, none⟩ = some (.slice (some ⟨b2, o2, none⟩) l.length c2) ∧ w'.cell? ⟨b, o + k * 2, none⟩ = some (.string y.name) ∧ w'.cell? ⟨b, o + k * 2 + 1, none⟩ = some (.slice a' y.args.length c') ∧ w'.cell? ⟨b2, o2 + k * 2, none⟩ = some (.string z.name) ∧ w'.cell? ⟨b2, o2 + k * 2 + 1, none⟩ = some (.slice a2' z.args.length c2')) (first | exact HS0.out | exact hS1 | go_keep)
       ((go_at_call 51; refine IHS.out.mono ?_; rintro e w1 ⟨rfl, hg1, Z1, hc1, hm1⟩; have hS1 := SEV.out w1 hg1))
      have HG1 := hide (HGO.out w1 hg1)
      have HC1 := hide hc1
      have HM1 := hide hm1
      clear hg1 hS1 hc1 hm1
      go_wp2_with fail
      go_roundw
      case rel => exact ⟨k + 1, Z1, by omega, by go_num, by rw [HC1.out]; exact HN.out, HM1.out, HG1.out⟩
      case measure => simp [intOf]; omega
    ·have HF : Hid (mtT ⟨s, l⟩ ⟨s2, m⟩ (Z.map (·.1)) = some (Z'.map (·.1))) := by
      unfold Hid
      rw [HR.out, ← HT.out, List.take_of_length_le (by omega), List.take_of_length_le (by have := HLM.out; omega)]
     have HGF := hide (HG2.out.andThen HGK.out (fun j hj => Or.inr hj))
     go_wp2_with fail
     go_ret
     exact ⟨HGF.out, Or.inr ⟨_, Z', HF.out, rfl, rfl, HMK.out⟩⟩
end Go.Proofs.YtdebiiodhkcnkaaGreat
