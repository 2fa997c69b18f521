/- Walks: Fill by such a function. -/
import Derived.Test.YteojdfmdhgnmfaaGreatFl2
import Derived.Laws.EntriesVeiled
namespace Go.Proofs.YteojdfmdhgnmfaaGreat
open Go.RowKit
set_option linter.unusedSimpArgs false
set_option linter.unusedVariables false
set_option maxRecDepth 8000

theorem ffillL_any {E : Ev} {Mt : Nat → Prop} (hE : EvOk E Mt) (F S : Nat) (lk : ByteArray → Option Tm) (t : Tm) (n : Nat) (a : Option Addr) (c : Nat) (w : World) (X Y : Nat → Prop) (f : Bool) (hn : n ≤ 1000000) (hXF : ∀ b, X b → b ≠ F ∧ ¬ Mt b) (hYF : ¬ Y F) (hs : Sl w X a t.args) (hF : Blk w F #[.int .i64 (n : Int), sV S] 167) (hEv : E f Y w)
    (hL : ∀ nm, occL nm [t] → varB nm = true → LkC E Mt S (lk nm) nm) :
    Calls Tryz.prog 99 #[.pointer (some ⟨F, 0, none⟩), .agg #[.string t.name, .slice a t.args.length c]] w fun e w' => FlPost E Mt F (sV S) (gT lk t) n f Y w e w' :=
  ffillL_of hE F S lk t n a c w X Y f hn hXF hYF hs hF hEv (fun hv => hL _ (by obtain ⟨s, l⟩ := t; exact occL_node.2 (Or.inl rfl)) hv)
    (fun w' f' Y' h1 h2 h3 h4 => knotL_any hE F S lk t n _ w' X Y' f' ⟨a, c, rfl, h1⟩ hXF hn h2 h3 h4 (fun nm ho hv => hL nm (by obtain ⟨s, l⟩ := t; exact occL_node.2 (Or.inr (Or.inl ho))) hv))

/-- What Fill gives. -/
def FiPost (E : Ev) (Mt : Nat → Prop) (tgt : Tm) (n : Nat) (f : Bool) (Y : Nat → Prop) (w : World) (e : Ending) (w' : World) : Prop :=
  ∃ (s' : ByteArray) (a' : Option Addr) (l' c' : Nat) (ok : Bool) (f' : Bool) (Y' : Nat → Prop), e = .returned (.tuple #[.agg #[.string s', .slice a' l' c'], .bool ok]) ∧ E f' Y' w' ∧ (∀ b, Y' b → Y b ∨ w.heap.size ≤ b) ∧ (f = true → f' = true) ∧ ExQ Mt w w' ∧
    ((ok = true ∧ ∃ y : Tm, s' = y.name ∧ l' = y.args.length ∧ sizeL [y] ≤ n ∧ Sl w' (fun b => w.heap.size ≤ b) a' y.args ∧ (f' = false → y = tgt)) ∨ (ok = false ∧ s' = ⟨#[]⟩ ∧ a' = none ∧ l' = 0 ∧ c' = 0 ∧ (f' = false → n < sizeL [tgt])))

set_option maxHeartbeats 1000000 in
theorem fillL_any {E : Ev} {Mt : Nat → Prop} (hE : EvOk E Mt) (S : Nat) (lk : ByteArray → Option Tm) (t : Tm) (n : Nat) (a : Option Addr) (c : Nat) (w : World) (X Y : Nat → Prop) (f : Bool) (hn : n ≤ 1000000) (hXM : ∀ b, X b → ¬ Mt b) (hs : Sl w X a t.args) (hEv : E f Y w)
    (hL : ∀ nm, occL nm [t] → varB nm = true → LkC E Mt S (lk nm) nm) :
    Calls Tryz.prog 88 #[.agg #[.string t.name, .slice a t.args.length c], .int .i64 (n : Int), sV S] w fun e w' => FiPost E Mt (gT lk t) n f Y w e w' := by
  have hmf : ∀ (fn : Fn) (first cap : Array Value) (w : World), (Instr.makeFunc fn first cap).run Tryz.prog w = .ok (.func fn first cap) w := fun _ _ _ _ => rfl
  have HS := hide (hs.mono (Y := fun b => X b ∧ b < w.heap.size) fun b h1 h2 => ⟨h1, h2⟩)
  have HE := hide hEv
  have HL := hide hL
  have HXM := hide hXM
  have HYW : Hid (∀ b, Y b → b < w.heap.size) := hE.inY _ _ _ hEv
  have HMT : Hid (∀ b, Mt b → b < w.heap.size) := fun b hb => HYW.out b (hE.mt _ _ _ hEv b hb)
  clear hs hEv hL hXM
  have HSV : Hid (sV S = .func (.func 89) #[.pointer (some ⟨S, 0, none⟩)] #[]) := rfl
  rw [HSV.out]
  go_enter Tryz.func88, Tryz.ntmps88
  go_wp2_with fail
  rw [← HSV.out]
  have HB3 : Hid (Below w.heap.size w (((w.alloc (.cells #[.string t.name, .slice a t.args.length c] 25)).alloc (.cells #[.string ⟨#[]⟩, .slice none 0 0] 25)).alloc (.cells #[.int .i64 (n : Int), sV S] 167))) := ((((Below.refl w.heap.size w).alloc (Nat.le_refl _) _).alloc (by simp) _).alloc (by simp; omega) _)
  have F3 : Hid (Blk (((w.alloc (.cells #[.string t.name, .slice a t.args.length c] 25)).alloc (.cells #[.string ⟨#[]⟩, .slice none 0 0] 25)).alloc (.cells #[.int .i64 (n : Int), sV S] 167)) (w.heap.size + 1 + 1) #[.int .i64 (n : Int), sV S] 167) := by
    have h := Blk.new ((w.alloc (.cells #[.string t.name, .slice a t.args.length c] 25)).alloc (.cells #[.string ⟨#[]⟩, .slice none 0 0] 25)) #[.int .i64 (n : Int), sV S] 167
    unfold Hid
    simpa using h
  have R3 : Hid (Blk (((w.alloc (.cells #[.string t.name, .slice a t.args.length c] 25)).alloc (.cells #[.string ⟨#[]⟩, .slice none 0 0] 25)).alloc (.cells #[.int .i64 (n : Int), sV S] 167)) (w.heap.size + 1) #[.string ⟨#[]⟩, .slice none 0 0] 25) := by
    have h := (Blk.new (w.alloc (.cells #[.string t.name, .slice a t.args.length c] 25)) #[.string ⟨#[]⟩, .slice none 0 0] 25).alloc (.cells #[.int .i64 (n : Int), sV S] 167)
    unfold Hid
    simpa using h
  have z3 : (((w.alloc (.cells #[.string t.name, .slice a t.args.length c] 25)).alloc (.cells #[.string ⟨#[]⟩, .slice none 0 0] 25)).alloc (.cells #[.int .i64 (n : Int), sV S] 167)).heap.size = w.heap.size + 3 := by simp
  generalize (((w.alloc (.cells #[.string t.name, .slice a t.args.length c] 25)).alloc (.cells #[.string ⟨#[]⟩, .slice none 0 0] 25)).alloc (.cells #[.int .i64 (n : Int), sV S] 167)) = w3 at *
  refine (ffillL_any hE (w.heap.size + 1 + 1) S lk t n a c w3 (fun b => X b ∧ b < w.heap.size) Y f hn (fun b hb => ⟨by have := hb.2; omega, HXM.out b hb.1⟩) (fun h => by have := HYW.out _ h; omega) (HS.out.later HB3.out) F3.out (hE.below HE.out HB3.out) HL.out).mono ?_
  rintro e w9 ⟨s', a', l', c', m, f', Y', rfl, hF9, hx9, hE9, hsub9, hff9, hc9⟩
  have HF9 := hide hF9
  have R9 := hide (R3.out.exq hx9 (fun h => by rcases h with h | h; omega; have := HMT.out _ h; omega))
  have hz9 := hx9.size
  have HXW : Hid (ExQ Mt w w9) := (ExQ.ofBelow HB3.out).transN hx9 (fun i hi hl => by rcases hi with h | h; omega; exact h)
  have HE9 := hide hE9
  have HSUB : Hid (∀ b, Y' b → Y b ∨ w.heap.size + 3 ≤ b) := fun b hb => (hsub9 b hb).imp id fun h => by omega
  have HFF := hide hff9
  have HC := hide hc9
  clear hF9 hx9 hE9 hsub9 hff9 hc9
  have r0 : w9.cell? ⟨w.heap.size + 1, 0, none⟩ = some (.string ⟨#[]⟩) := R9.out.cell 0
  have r1 : w9.cell? ⟨w.heap.size + 1, 1, none⟩ = some (.slice none 0 0) := R9.out.cell 1
  have rf := R9.out.frozen
  have hRl : w.heap.size + 1 < w9.heap.size := R9.out.lt
  have HKE : Hid (∀ v0 v1 o, E f' Y' (((w9.setCell ⟨w.heap.size + 1, 0, none⟩ v0).setCell ⟨w.heap.size + 1, 1, none⟩ v1).alloc o)) := fun v0 v1 o => hE.keep _ _ _ _ HE9.out fun b hb => by
    have hne : b ≠ w.heap.size + 1 := fun e => by
      rcases HSUB.out b hb with h | h
      · have := HYW.out b h; omega
      · omega
    have hl := hE.inY _ _ _ HE9.out b hb
    rw [Below.heap_alloc _ _ _ (by simpa [World.setCell] using hl), Below.heap_setCell _ _ _ _ (by simpa using hne), Below.heap_setCell _ _ _ _ (by simpa using hne)]
  have HSUB2 : Hid (∀ b, Y' b → Y b ∨ w.heap.size ≤ b) := fun b hb => (HSUB.out b hb).imp id fun h => by omega
  rcases HC.out with ⟨y, rfl, rfl, rfl, hle, hsl, hgd⟩ | ⟨rfl, hgd⟩
  · have HSL := hide hsl
    have HGD := hide hgd
    clear hsl hgd
    have f0 : ∀ o, (w9.alloc o).cell? ⟨w.heap.size + 1 + 1, 0, none⟩ = some (.int .i64 ((n : Int) - sizeL [y])) := fun o => (HF9.out.alloc o).cell 0
    have hlt : ¬ ((n : Int) - sizeL [y]) < 0 := by omega
    go_wp2_with fail
    refine bodyPost_ret (v := .tuple #[.agg #[.string y.name, .slice a' y.args.length c'], .bool true]) (by simp [results, Tryz.results88, go_sem, World.cell?_setCell_same, World.cell?_setCell_other, r0, r1, hRl, World.cell?_alloc_old]) rfl ?_
    refine ⟨y.name, a', y.args.length, c', true, f', Y', rfl, HKE.out _ _ _, HSUB2.out, HFF.out, ((HXW.out.setNew (by omega) _ _).setNew (by omega) _ _).alloc _, Or.inl ⟨rfl, y, rfl, rfl, hle, ((HSL.out.kept fun b hb => ?_).later ((Below.refl _ _).alloc (Nat.le_refl _) _)).mono fun b hb _ => by omega, HGD.out⟩⟩
    rw [Below.heap_setCell _ _ _ _ (by simp; omega), Below.heap_setCell _ _ _ _ (by simp; omega)]
  · have HGD := hide hgd
    clear hgd
    have f0 : ∀ o, (w9.alloc o).cell? ⟨w.heap.size + 1 + 1, 0, none⟩ = some (.int .i64 (-1)) := fun o => (HF9.out.alloc o).cell 0
    go_wp2_with fail
    refine bodyPost_ret (v := .tuple #[.agg #[.string ⟨#[]⟩, .slice none 0 0], .bool false]) (by simp [results, Tryz.results88, go_sem, World.cell?_setCell_same, World.cell?_setCell_other, r0, r1, hRl, World.cell?_alloc_old]) rfl ?_
    exact ⟨⟨#[]⟩, none, 0, 0, false, f', Y', rfl, HKE.out _ _ _, HSUB2.out, HFF.out, ((HXW.out.setNew (by omega) _ _).setNew (by omega) _ _).alloc _, Or.inr ⟨rfl, rfl, rfl, rfl, rfl, HGD.out⟩⟩
#print axioms fillL_any
end Go.Proofs.YteojdfmdhgnmfaaGreat
