/- Walks: the row that a term is, as the document says. -/
import Derived.Test.YtcdabjekppddjaaGreatDoorZCombMadeOwn
namespace Go.Proofs.YtcdabjekppddjaaGreatDoor
open Go.RowKit
set_option linter.unusedSimpArgs false
set_option linter.unusedVariables false
set_option maxRecDepth 8000

theorem cells_new2 (w : World) (o1 : Obj) (a b : Value) (T : Nat) : ∀ (j : Nat) (u : Value), [a, b][j]? = some u → ((w.alloc o1).alloc (.cells #[a, b] T)).drew.cell? ((⟨w.heap.size + 1, 0, none⟩ : Addr).add j) = some u := by
  intro j u h
  have := cell_two_new (w.alloc o1) a b T j u h
  simpa using this

theorem Row.mono {w : World} {N N' T : Nat} {Y Y' : Nat → Prop} {v : Value} {l : List Tm} {xs : List Value} (h : Row w N T Y v l xs) (hY : ∀ b, Y b → Y' b) (hN : N' ≤ N) : Row w N' T Y' v l xs :=
  ⟨ownsRow_base h.own hN, h.row.imp fun a l hs => hs.mono fun b hb _ => hb.imp (hY b) fun h => ⟨by omega, h.2⟩⟩

def RwPost (w : World) (X : Nat → Prop) (t : Tm) (e : Ending) (w' : World) : Prop :=
  ∃ ah ch lv xs, e = .returned (.tuple #[.agg #[.string (rowH t).name, .slice ah 0 ch], lv]) ∧ Row w' w.heap.size 24 (fun b => X b ∧ b < w.heap.size) lv (rowL t) xs ∧ Below w.heap.size w w'

theorem rw_end {w w1 w3 : World} {X : Nat → Prop} {lv : Value} {f x : Tm} {xs : List Value} {o1 o2 : Obj} {ah a2 : Option Addr} {ch c2 g cap : Nat} {u u' : Value}
    (hrow : Row w1 (w.heap.size + 2) 24 (fun b => X b ∧ b < w.heap.size) lv (rowL f) xs) (hb : Below w.heap.size w w1) (hsz : w.heap.size + 2 ≤ w1.heap.size)
    (hx : TV w1 (fun b => X b ∧ b < w.heap.size) (.agg #[.string x.name, .slice a2 x.args.length c2]) x)
    (hown : w3.ownsRow (w.heap.size + 2) 24 2 (.slice (some ⟨g, 0, none⟩) ((rowL f).length + 1) cap) ((rowL f).length + 1) (xs ++ [.string x.name, .slice a2 x.args.length c2])) (hg : ((w1.alloc o1).alloc o2).drew.grownBy w3 lv.ownBlock) (hat : lv.ownBlock = some g ∨ g = ((w1.alloc o1).alloc o2).drew.heap.size) :
    RwPost w X (apT f x) (.returned (.tuple #[.agg #[.string (rowH f).name, .slice ah 0 ch], .slice (some ⟨g, 0, none⟩) ((rowL f).length + 1) cap])) ((w3.setCell ⟨w.heap.size + 1, 0, none⟩ u).setCell ⟨w.heap.size + 1, 1, none⟩ u') := by
  have hb1 : Below w1.heap.size w1 (w1.alloc o1).drew := ((Below.refl _ _).alloc (Nat.le_refl _) o1).drew
  have hlt := hrow.own.lt
  have hp := hrow.push (w1 := (w1.alloc o1).drew) (w2 := (w1.alloc o1).drew.alloc o2) (w3 := w3) hsz (fun b h => by have := h.2; omega) hb1 ((hx.later hb1).mono fun b h _ => Or.inl h) o2 rfl hown hg hat
  have hw3 : Below w.heap.size w w3 := ((hb.trans (hb1.mono (by omega))).alloc (by simp; omega) o2).grown hg (by simp; omega) (fun k hk => by have := (hlt k hk).1; omega)
  refine ⟨ah, ch, .slice (some ⟨g, 0, none⟩) ((rowL f).length + 1) cap, xs ++ [.string x.name, .slice a2 x.args.length c2], by rw [(row_ap f x).1], ?_, ((hw3.setCell (p := ⟨w.heap.size + 1, 0, none⟩) (by simp) u).setCell (p := ⟨w.heap.size + 1, 1, none⟩) (by simp) u')⟩
  rw [(row_ap f x).2]
  exact ((hp.setCell (b := w.heap.size + 1) (by omega) (fun h => by have := h.2; omega) u).setCell (by omega) (fun h => by have := h.2; omega) u').mono (fun _ h => h) (by omega)

set_option maxHeartbeats 1000000 in
theorem row_any (n : Nat) : ∀ (t : Tm) (v : Value) (w : World) (X : Nat → Prop), sizeL [t] ≤ n → n ≤ 100000 → isC t = true → TV w X v t →
    Calls Tryz.prog 79 #[v] w fun e w' => RwPost w X t e w' := by
  induction n with
  | zero => intro t v w X h; have := size_posC t; omega
  | succ n ih =>
    intro t v w X hn hm hc hv
    obtain ⟨a, c, rfl, hs⟩ := hv
    have IH := hide ih
    have HS := hide hs
    clear ih hs
    obtain ⟨i0, hi0, hz0, hz1, hz2⟩ := info_parts Tryz.infoTerm
    rcases isC_cases hc with ⟨s, rfl⟩ | ⟨f, x, rfl, h1, h2⟩
    · dsimp only
      have HB2 : Hid (Below w.heap.size w ((w.alloc (.cells #[.string s, .slice a 0 c] 24)).alloc (.cells #[.string s, .slice a 0 c] 24))) := below2 _ _
      have q := Blk.new (w.alloc (.cells #[.string s, .slice a 0 c] 24)) #[.string s, .slice a 0 c] 24
      have q0 := q.cell 0
      have q1 := q.cell 1
      simp at q0 q1
      clear q
      go_enter Tryz.func79, Tryz.ntmps79
      go_wp2_with fail
      refine bodyPost_ret (v := .tuple #[.agg #[.string s, .slice a 0 c], .slice none 0 0]) (by simp [results, Tryz.results79, go_sem, q0, q1]) rfl ?_
      exact ⟨a, c, _, [], by rw [(row_leaf s).1], by rw [(row_leaf s).2]; exact Row.start _ _ _ _, HB2.out⟩
    · dsimp only [apT]
      have HH := hide (row_ap f x)
      have hsz := size_ap f x
      have hpx := size_posC x
      have HF := hide (row_facts _ f (Nat.le_refl _) h1)
      have hlr := HF.out.2.2.2
      obtain ⟨b, o, a1, c1, a2, c2, rfl, hb, d0, d1, d2, d3, hs1, hs2⟩ := sl_twoC HS.out
      have HS1 : Hid (TV w X (.agg #[.string f.name, .slice a1 f.args.length c1]) f) := ⟨a1, c1, rfl, hs1⟩
      have HS2 : Hid (Sl w (fun b => X b ∧ b < w.heap.size) a2 x.args) := hs2.mono fun b h1 h2 => ⟨h1, h2⟩
      clear hs1 hs2
      simp only [List.length_cons, List.length_nil]
      go_enter Tryz.func79, Tryz.ntmps79
      go_wp2_with fail
      refine (IH.out f _ _ (fun b => X b ∧ b < w.heap.size) (by omega) (by omega) h1 (((HS1.out.mono fun b h1 h2 => ⟨h1, h2⟩).alloc _).alloc _)).mono ?_
      rintro e w1 ⟨ah, ch, lv, xs, rfl, hrow, hb1⟩
      have HBX : Hid (Below w.heap.size w w1) := (below2 _ _).trans (hb1.mono (by simp; omega))
      have HBK := hide (((Blk.new w #[.string apB, .slice (some ⟨b, o, none⟩) 2 c] 24).alloc (.cells #[.string ⟨#[]⟩, .slice none 0 0] 24)).below hb1 (by simp; omega))
      have HBR : Hid (Blk w1 (w.heap.size + 1) #[.string ⟨#[]⟩, .slice none 0 0] 24) := by
        have h := (Blk.new (w.alloc (.cells #[.string apB, .slice (some ⟨b, o, none⟩) 2 c] 24)) #[.string ⟨#[]⟩, .slice none 0 0] 24).below hb1 (by simp)
        unfold Hid
        simpa using h
      have HBR2 : Hid (∀ o1 o2, Blk ((w1.alloc o1).alloc o2).drew (w.heap.size + 1) #[.string ⟨#[]⟩, .slice none 0 0] 24) := fun o1 o2 => ((HBR.out.alloc o1).alloc o2).drewN 1
      have HBH2 : Hid (∀ o2, Blk ((w1.alloc (.cells #[.string (rowH f).name, .slice ah 0 ch] 24)).alloc o2).drew w1.heap.size #[.string (rowH f).name, .slice ah 0 ch] 24) := fun o2 => ((Blk.new w1 _ _).alloc o2).drewN 1
      have HNE : Hid (some w1.heap.size ≠ lv.ownBlock) := fun e => by have := (hrow.own.lt _ e.symm).2; omega
      have hs1 := hb1.size
      simp at hs1
      have k1 : ∀ o', (w1.alloc o').cell? ⟨w.heap.size, 1, none⟩ = some (.slice (some ⟨b, o, none⟩) 2 c) := fun o' => (HBK.out.alloc o').cell 1
      have k2 : ∀ o', (w1.alloc o').cell? ⟨b, o + 2, none⟩ = some (.string x.name) := fun o' => by rw [((Below.refl _ _).alloc (Nat.le_refl _) o').cell (p := ⟨b, o + 2, none⟩) (by show b < _; omega), HBX.out.cell (p := ⟨b, o + 2, none⟩) hb]; exact d2
      have k3 : ∀ o', (w1.alloc o').cell? ⟨b, o + 3, none⟩ = some (.slice a2 x.args.length c2) := fun o' => by rw [((Below.refl _ _).alloc (Nat.le_refl _) o').cell (p := ⟨b, o + 3, none⟩) (by show b < _; omega), HBX.out.cell (p := ⟨b, o + 3, none⟩) hb]; exact d3
      have hrow2 : Row w1 (w.heap.size + 2) 24 (fun b => X b ∧ b < w.heap.size) lv (rowL f) xs := hrow.mono (fun b hb => hb.1) (by simp)
      have HROW := hide hrow2
      have HB1 := hide hb1
      clear hrow2
      have hlenr : (rowL f).length ≤ 100000 := by omega
      clear hrow hb1
      go_wp2_with fail
      go_region_law (refine step_append_lies _ rfl _ _ 22 rfl (w.heap.size + 2) 24 i0 _ 2 40 Tryz.underlying22 hi0 hz0 hz1 hz2 rfl (by decide) lv (rowL f).length xs rfl (by exact (((HROW.out.below ((Below.refl _ _).alloc (Nat.le_refl _) _)).below ((Below.refl _ _).alloc (Nat.le_refl _) _)).below (below_drewN (Below.refl _ _) 1)).own) ⟨w1.heap.size + 1, 0, none⟩ 1 1 [.string x.name, .slice a2 x.args.length c2] rfl rfl (cells_new2 _ _ _ _ _) (fun x hx => by simp at hx; rcases hx with rfl | rfl <;> rfl) (by decide) (by unfold maxLen; omega) (by omega) (by simp; omega) _ rfl ?_; intro g cap w3 hown3 hgrow3 hat3 hlt3; have HR3 := hide ((HBR2.out _ _).grown hgrow3 (HROW.out.ne (Nat.lt_succ_self _))); have r0 : w3.cell? ⟨w.heap.size + 1, 0, none⟩ = some (.string ⟨#[]⟩) := HR3.out.cell 0; have r1 : w3.cell? ⟨w.heap.size + 1, 1, none⟩ = some (.slice none 0 0) := HR3.out.cell 1; have rf := HR3.out.frozen; have HH3 := hide ((HBH2.out _).grown hgrow3 HNE.out); have h0 : w3.cell? ⟨w1.heap.size, 0, none⟩ = some (.string (rowH f).name) := HH3.out.cell 0; have h1 : w3.cell? ⟨w1.heap.size, 1, none⟩ = some (.slice ah 0 ch) := HH3.out.cell 1)
      all_goals
        have HO := hide hown3
        have HG := hide hgrow3
        have HA := hide hat3
        clear hown3 hgrow3 hat3
        go_wp2_with fail
        refine bodyPost_ret (v := .tuple #[.agg #[.string (rowH f).name, .slice ah 0 ch], .slice (some ⟨g, 0, none⟩) ((rowL f).length + 1) cap]) (by simp [results, Tryz.results79, go_sem, World.cell?_setCell_same, World.cell?_setCell_other, r0, r1]) rfl ?_
        exact rw_end HROW.out HBX.out (by omega) ⟨a2, c2, rfl, HS2.out.later HBX.out⟩ HO.out HG.out HA.out
end Go.Proofs.YtcdabjekppddjaaGreatDoor
