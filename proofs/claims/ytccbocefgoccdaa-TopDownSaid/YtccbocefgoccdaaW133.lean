/- Walks: is a numbered term a variable; the first ones that are unlike. -/
import Derived.Test.YtccbocefgoccdaaW131
import Derived.RegionTactic
import Derived.ChangeAlike
namespace Go.Proofs.Ytccbocefgoccdaa
open Go.RowKit
set_option linter.unusedSimpArgs false
set_option linter.unusedVariables false
set_option maxRecDepth 8000

set_option maxHeartbeats 1000000 in
theorem itemVar_any (S : List Tm) (t : Tm) (v : Value) (w : World) (X : Nat → Prop) (hv : IV w X S v t) :
    Calls Try.prog 72 #[v] w fun e w' => e = .returned (.bool (varB t.name)) ∧ Below w.heap.size w w' := by
  obtain ⟨_, a, c, rfl, hs⟩ := hv
  go_enter Try.func72, Try.ntmps72
  go_wp2_with (go_at_call 50; refine (isVariable_all _ _).mono ?_; rintro e w' ⟨rfl, rfl⟩)
  go_ret
  exact ⟨rfl, (Below.refl _ _).alloc (Nat.le_refl _) _⟩

/-- All alike so far. -/
theorem unl_from : ∀ {a b : List Tm} {k : Nat} (ha : k < a.length) (hb : k < b.length), (∀ j (h1 : j < k), a[j] = b[j]) → a[k] ≠ b[k] → unl a b = some (a[k], b[k])
  | t :: a, u :: b, 0, _, _, _, h => by
    have h' : t ≠ u := h
    rw [unl, if_neg fun e => h' (sameB_iff.1 e)]
    rfl
  | t :: a, u :: b, k + 1, ha, hb, hall, h => by
    have h0 : t = u := hall 0 (by omega)
    subst h0
    rw [unl, if_pos (sameB_iff.2 rfl), unl_from (k := k) (by simpa using ha) (by simpa using hb) (fun j hj => hall (j + 1) (by omega)) (by simpa using h)]
    rfl
theorem unl_all : ∀ {a b : List Tm}, a.length = b.length → (∀ j (h1 : j < a.length) (h2 : j < b.length), a[j] = b[j]) → unl a b = none
  | [], _, _, _ => by simp [unl]
  | t :: a, [], h, _ => by simp at h
  | t :: a, u :: b, h, hall => by
    have h0 : t = u := hall 0 (by simp) (by simp)
    subst h0
    rw [unl, if_pos (sameB_iff.2 rfl)]
    exact unl_all (by simpa using h) fun j h1 h2 => by
      have h3 := hall (j + 1) (by simpa using h1) (by simpa using h2)
      simp only [List.getElem_cons_succ] at h3
      exact h3
theorem cell_alloc {w : World} {b o : Nat} {v : Value} (h : w.cell? ⟨b, o, none⟩ = some v) (ob : Obj) : (w.alloc ob).cell? ⟨b, o, none⟩ = some v := by
  rw [← h]
  exact ((Below.refl w.heap.size w).alloc (Nat.le_refl _) ob).cell (p := ⟨b, o, none⟩) (cell_lt h)
theorem fu_end {S : List Tm} {X : Nat → Prop} {w w5 w' : World} (hB : Below w.heap.size w w5) (hq : ExQ (fun b => b = w.heap.size + 2 ∨ b = w.heap.size + 3) w5 w') : Below w.heap.size w w' ∧ ∀ v x, IV w5 (fun b => X b ∧ b < w.heap.size) S v x → IV w' X S v x := by
  refine ⟨hB.trans (hq.below hB.size fun b hb => by rcases hb with h | h <;> omega), fun v x hx => ?_⟩
  have hz := hB.size
  exact (hx.kept fun b hb => hq.block b (by have := hb.2; omega) (fun h => by have := hb.2; rcases h with h | h <;> omega)).mono fun b hb _ => hb.1
theorem fu_fin1 {S : List Tm} {X : Nat → Prop} {a b x y : Tm} {vx vy : Value} {e : Ending} {w w5 w' : World} (hB : Below w.heap.size w w5) (hq : ExQ (fun b => b = w.heap.size + 2 ∨ b = w.heap.size + 3) w5 w') (hu : unl a.args b.args = some (x, y)) (he : e = .returned (.tuple #[vx, vy, .bool true])) (hx : IV w5 (fun b => X b ∧ b < w.heap.size) S vx x) (hy : IV w5 (fun b => X b ∧ b < w.heap.size) S vy y) :
    Below w.heap.size w w' ∧ ((∃ x y vx vy, unl a.args b.args = some (x, y) ∧ e = .returned (.tuple #[vx, vy, .bool true]) ∧ IV w' X S vx x ∧ IV w' X S vy y) ∨
      (unl a.args b.args = none ∧ e = .returned (.tuple #[.agg #[.string ⟨#[]⟩, .slice none 0 0, .int .i64 0, .int .i64 0], .agg #[.string ⟨#[]⟩, .slice none 0 0, .int .i64 0, .int .i64 0], .bool false]))) :=
  have FE := fu_end (S := S) (X := X) hB hq
  ⟨FE.1, Or.inl ⟨x, y, vx, vy, hu, he, FE.2 _ _ hx, FE.2 _ _ hy⟩⟩
theorem fu_fin2 {S : List Tm} {X : Nat → Prop} {a b : Tm} {e : Ending} {w w5 w' : World} (hB : Below w.heap.size w w5) (hq : ExQ (fun b => b = w.heap.size + 2 ∨ b = w.heap.size + 3) w5 w') (hu : unl a.args b.args = none) (he : e = .returned (.tuple #[.agg #[.string ⟨#[]⟩, .slice none 0 0, .int .i64 0, .int .i64 0], .agg #[.string ⟨#[]⟩, .slice none 0 0, .int .i64 0, .int .i64 0], .bool false])) :
    Below w.heap.size w w' ∧ ((∃ x y vx vy, unl a.args b.args = some (x, y) ∧ e = .returned (.tuple #[vx, vy, .bool true]) ∧ IV w' X S vx x ∧ IV w' X S vy y) ∨
      (unl a.args b.args = none ∧ e = .returned (.tuple #[.agg #[.string ⟨#[]⟩, .slice none 0 0, .int .i64 0, .int .i64 0], .agg #[.string ⟨#[]⟩, .slice none 0 0, .int .i64 0, .int .i64 0], .bool false]))) :=
  have FE := fu_end (S := S) (X := X) hB hq
  ⟨FE.1, Or.inr ⟨hu, he⟩⟩
def FuInv (S : List Tm) (a b : Tm) (aa : Option Addr) (ca : Nat) (ab : Option Addr) (cb : Nat) (w : World) (i : Value) (wr : World) : Prop :=
  ∃ k : Nat, k ≤ a.args.length ∧ i = .int .i64 (k : Int) ∧ (∀ j (h1 : j < k) (h2 : j < a.args.length) (h3 : j < b.args.length), a.args[j] = b.args[j]) ∧ Blk wr w.heap.size #[.string a.name, .slice aa a.args.length ca, .int .i64 (numT a S), .int .i64 (sizeL [a])] 83 ∧
    Blk wr (w.heap.size + 1) #[.string b.name, .slice ab b.args.length cb, .int .i64 (numT b S), .int .i64 (sizeL [b])] 83 ∧ Blk wr (w.heap.size + 2) #[.string ⟨#[]⟩, .slice none 0 0, .int .i64 0, .int .i64 0] 83 ∧ Blk wr (w.heap.size + 3) #[.string ⟨#[]⟩, .slice none 0 0, .int .i64 0, .int .i64 0] 83 ∧ Below w.heap.size w wr
set_option maxHeartbeats 2000000 in
theorem firstUnlike_any (S : List Tm) (a b : Tm) (hl : a.args.length = b.args.length) (va vb : Value) (w : World) (X : Nat → Prop) (ha : IV w X S va a) (hb : IV w X S vb b) :
    Calls Try.prog 76 #[va, vb] w fun e w' => Below w.heap.size w w' ∧ ((∃ x y vx vy, unl a.args b.args = some (x, y) ∧ e = .returned (.tuple #[vx, vy, .bool true]) ∧ IV w' X S vx x ∧ IV w' X S vy y) ∨
      (unl a.args b.args = none ∧ e = .returned (.tuple #[.agg #[.string ⟨#[]⟩, .slice none 0 0, .int .i64 0, .int .i64 0], .agg #[.string ⟨#[]⟩, .slice none 0 0, .int .i64 0, .int .i64 0], .bool false]))) := by
  obtain ⟨_, aa, ca, rfl, hsa⟩ := ha
  obtain ⟨_, ab, cb, rfl, hsb⟩ := hb
  have HSA := hide (hsa.mono (Y := fun b => X b ∧ b < w.heap.size) fun b h1 h2 => ⟨h1, h2⟩)
  have HSB := hide (hsb.mono (Y := fun b => X b ∧ b < w.heap.size) fun b h1 h2 => ⟨h1, h2⟩)
  have hla := hsa.1
  have hlb := hsb.1
  have HL := hide hl
  clear hsa hsb hl
  go_enter Try.func76, Try.ntmps76
  go_wp2_with fail
  have I0 : Hid (FuInv S a b aa ca ab cb w (.int .i64 0) ((((w.alloc (.cells #[.string a.name, .slice aa a.args.length ca, .int .i64 (numT a S), .int .i64 (sizeL [a])] 83)).alloc (.cells #[.string b.name, .slice ab b.args.length cb, .int .i64 (numT b S), .int .i64 (sizeL [b])] 83)).alloc (.cells #[.string ⟨#[]⟩, .slice none 0 0, .int .i64 0, .int .i64 0] 83)).alloc (.cells #[.string ⟨#[]⟩, .slice none 0 0, .int .i64 0, .int .i64 0] 83))) := by
    have k1 := Blk.new w #[.string a.name, .slice aa a.args.length ca, .int .i64 (numT a S), .int .i64 (sizeL [a])] 83
    have b1 := (Below.refl w.heap.size w).alloc (Nat.le_refl _) (.cells #[.string a.name, .slice aa a.args.length ca, .int .i64 (numT a S), .int .i64 (sizeL [a])] 83)
    have e1 : (w.alloc (.cells #[.string a.name, .slice aa a.args.length ca, .int .i64 (numT a S), .int .i64 (sizeL [a])] 83)).heap.size = w.heap.size + 1 := by simp
    generalize w.alloc (.cells #[.string a.name, .slice aa a.args.length ca, .int .i64 (numT a S), .int .i64 (sizeL [a])] 83) = w1 at *
    have k2 := Blk.new w1 #[.string b.name, .slice ab b.args.length cb, .int .i64 (numT b S), .int .i64 (sizeL [b])] 83
    have b2 := b1.alloc b1.size (.cells #[.string b.name, .slice ab b.args.length cb, .int .i64 (numT b S), .int .i64 (sizeL [b])] 83)
    have k1' := k1.alloc (.cells #[.string b.name, .slice ab b.args.length cb, .int .i64 (numT b S), .int .i64 (sizeL [b])] 83)
    have e2 : (w1.alloc (.cells #[.string b.name, .slice ab b.args.length cb, .int .i64 (numT b S), .int .i64 (sizeL [b])] 83)).heap.size = w.heap.size + 2 := by simp [e1]
    generalize w1.alloc (.cells #[.string b.name, .slice ab b.args.length cb, .int .i64 (numT b S), .int .i64 (sizeL [b])] 83) = w2 at *
    have k3 := Blk.new w2 #[.string ⟨#[]⟩, .slice none 0 0, .int .i64 0, .int .i64 0] 83
    have b3 := b2.alloc b2.size (.cells #[.string ⟨#[]⟩, .slice none 0 0, .int .i64 0, .int .i64 0] 83)
    have k2' := k2.alloc (.cells #[.string ⟨#[]⟩, .slice none 0 0, .int .i64 0, .int .i64 0] 83)
    have k1'' := k1'.alloc (.cells #[.string ⟨#[]⟩, .slice none 0 0, .int .i64 0, .int .i64 0] 83)
    have e3 : (w2.alloc (.cells #[.string ⟨#[]⟩, .slice none 0 0, .int .i64 0, .int .i64 0] 83)).heap.size = w.heap.size + 3 := by simp [e2]
    generalize w2.alloc (.cells #[.string ⟨#[]⟩, .slice none 0 0, .int .i64 0, .int .i64 0] 83) = w3 at *
    have k4 := Blk.new w3 #[.string ⟨#[]⟩, .slice none 0 0, .int .i64 0, .int .i64 0] 83
    rw [e1] at k2'
    rw [e2] at k3
    rw [e3] at k4
    exact ⟨0, Nat.zero_le _, rfl, fun j h => by omega, k1''.alloc _, k2'.alloc _, k3.alloc _, k4, b3.alloc b3.size _⟩
  generalize (((w.alloc (.cells #[.string a.name, .slice aa a.args.length ca, .int .i64 (numT a S), .int .i64 (sizeL [a])] 83)).alloc (.cells #[.string b.name, .slice ab b.args.length cb, .int .i64 (numT b S), .int .i64 (sizeL [b])] 83)).alloc (.cells #[.string ⟨#[]⟩, .slice none 0 0, .int .i64 0, .int .i64 0] 83)).alloc (.cells #[.string ⟨#[]⟩, .slice none 0 0, .int .i64 0, .int .i64 0] 83) = w4 at *
  go_loopw [13] (fun i wr => FuInv S a b aa ca ab cb w i wr) (fun i wr => a.args.length - (intOf i).toNat)
  case atStart => exact I0.out
  case round =>
    clear I0
    obtain ⟨k, hk, rfl, hall, h1, h2, h3, h4, hB⟩ := hrel
    have HH1 := hide h1
    have HH2 := hide h2
    have HH3 := hide h3
    have HH4 := hide h4
    have HBB := hide hB
    have HALL := hide hall
    have z1 : wr.heap.size ≥ w.heap.size + 4 := by have := h4.lt; omega
    by_cases hlt : k < a.args.length
    · have hlt2 : k < b.args.length := by have := HL.out; omega
      have hlti : (k : Int) < (a.args.length : Int) := by omega
      have hltj : (k : Int) < (b.args.length : Int) := by omega
      obtain ⟨b1, o1, a1, c1, rfl, d10, d11, d12, d13, hx⟩ := HSA.out.get hB (fun _ _ h => h) k hlt
      obtain ⟨b2, o2, a2, c2, rfl, d20, d21, d22, d23, hy⟩ := HSB.out.get hB (fun _ _ h => h) k hlt2
      have q : ∀ o, (wr.alloc o).cell? ⟨w.heap.size + 1, 1, none⟩ = some (.slice (some ⟨b2, o2, none⟩) b.args.length cb) := fun o => (h2.alloc o).cell 1
      have f20 := fun o => cell_alloc d20 o
      have f21 := fun o => cell_alloc d21 o
      have f22 := fun o => cell_alloc d22 o
      have f23 := fun o => cell_alloc d23 o
      have HX := hide hx
      have HY := hide hy
      clear h1 h2 h3 h4 hB hall hx hy d20 d21 d22 d23
      by_cases he : a.args[k] = b.args[k]
      · have hne : ((numT a.args[k] S : Int) != (numT b.args[k] S : Int)) = false := by rw [he]; simp
        have HE := hide he
        clear he
        go_wp2_with fail
        go_roundw
        case rel =>
          refine ⟨k + 1, by omega, by go_num, fun j h1 h2 h3 => ?_, (HH1.out.alloc _).alloc _, (HH2.out.alloc _).alloc _, (HH3.out.alloc _).alloc _, (HH4.out.alloc _).alloc _, (HBB.out.alloc HBB.out.size _).alloc (by have := HBB.out.size; simp; omega) _⟩
          by_cases hj : j = k
          · subst hj; exact HE.out
          · exact HALL.out j (by omega) h2 h3
        case measure => simp [intOf]; omega
      · have hne : ((numT a.args[k] S : Int) != (numT b.args[k] S : Int)) = true := by
          rw [bne_iff_ne]
          intro e
          exact he (numT_inj HX.out.1 HY.out.1 (by omega))
        have HU := hide (unl_from hlt hlt2 (fun j hj => HALL.out j hj (by omega) (by omega)) he)
        clear he
        go_wp2_with fail
        generalize hxx : a.args[k] = x at *
        generalize hyy : b.args[k] = y at *
        have w0 := (Blk.new wr #[.string x.name, .slice a1 x.args.length c1, .int .i64 (numT x S), .int .i64 (sizeL [x])] 83).alloc (.cells #[.string y.name, .slice a2 y.args.length c2, .int .i64 (numT y S), .int .i64 (sizeL [y])] 83)
        have w9 := Blk.new (wr.alloc (.cells #[.string x.name, .slice a1 x.args.length c1, .int .i64 (numT x S), .int .i64 (sizeL [x])] 83)) #[.string y.name, .slice a2 y.args.length c2, .int .i64 (numT y S), .int .i64 (sizeL [y])] 83
        have e9 : (wr.alloc (.cells #[.string x.name, .slice a1 x.args.length c1, .int .i64 (numT x S), .int .i64 (sizeL [x])] 83)).heap.size = wr.heap.size + 1 := by simp
        rw [e9] at w9
        have wr3 := (HH3.out.alloc (.cells #[.string x.name, .slice a1 x.args.length c1, .int .i64 (numT x S), .int .i64 (sizeL [x])] 83)).alloc (.cells #[.string y.name, .slice a2 y.args.length c2, .int .i64 (numT y S), .int .i64 (sizeL [y])] 83)
        have wr4 := (HH4.out.alloc (.cells #[.string x.name, .slice a1 x.args.length c1, .int .i64 (numT x S), .int .i64 (sizeL [x])] 83)).alloc (.cells #[.string y.name, .slice a2 y.args.length c2, .int .i64 (numT y S), .int .i64 (sizeL [y])] 83)
        have BL := hide ((HBB.out.alloc HBB.out.size (.cells #[.string x.name, .slice a1 x.args.length c1, .int .i64 (numT x S), .int .i64 (sizeL [x])] 83)).alloc (by have := HBB.out.size; simp; omega) (.cells #[.string y.name, .slice a2 y.args.length c2, .int .i64 (numT y S), .int .i64 (sizeL [y])] 83))
        have HX2 := hide ((HX.out.alloc (.cells #[.string x.name, .slice a1 x.args.length c1, .int .i64 (numT x S), .int .i64 (sizeL [x])] 83)).alloc (.cells #[.string y.name, .slice a2 y.args.length c2, .int .i64 (numT y S), .int .i64 (sizeL [y])] 83))
        have HY2 := hide ((HY.out.alloc (.cells #[.string x.name, .slice a1 x.args.length c1, .int .i64 (numT x S), .int .i64 (sizeL [x])] 83)).alloc (.cells #[.string y.name, .slice a2 y.args.length c2, .int .i64 (numT y S), .int .i64 (sizeL [y])] 83))
        generalize ((wr.alloc (.cells #[.string x.name, .slice a1 x.args.length c1, .int .i64 (numT x S), .int .i64 (sizeL [x])] 83)).alloc (.cells #[.string y.name, .slice a2 y.args.length c2, .int .i64 (numT y S), .int .i64 (sizeL [y])] 83)) = w5 at *
        have p0 := w0.cell 0
        have p1 := w0.cell 1
        have p2 := w0.cell 2
        have p3 := w0.cell 3
        have q0 := w9.cell 0
        have q1 := w9.cell 1
        have q2 := w9.cell 2
        have q3 := w9.cell 3
        have r0 := wr3.cell 0
        have r1 := wr3.cell 1
        have r2 := wr3.cell 2
        have r3 := wr3.cell 3
        have rf := wr3.frozen
        have s0 := wr4.cell 0
        have s1 := wr4.cell 1
        have s2 := wr4.cell 2
        have s3 := wr4.cell 3
        have sf := wr4.frozen
        simp only [List.getElem?_toArray, List.getElem?_cons_zero, List.getElem?_cons_succ] at p0 p1 p2 p3 q0 q1 q2 q3 r0 r1 r2 r3 s0 s1 s2 s3
        clear w0 w9 wr3 wr4 f20 f21 f22 f23 q
        go_region
        all_goals
          go_wp2_with fail
          refine bodyPost_ret (v := .tuple #[.agg #[.string x.name, .slice a1 x.args.length c1, .int .i64 (numT x S), .int .i64 (sizeL [x])], .agg #[.string y.name, .slice a2 y.args.length c2, .int .i64 (numT y S), .int .i64 (sizeL [y])], .bool true]) (by simp [results, Try.results76, go_sem, World.cell?_setCell_same, World.cell?_setCell_other, r0, r1, r2, r3, s0, s1, s2, s3]) rfl ?_
          refine fu_fin1 BL.out ?_ HU.out rfl HX2.out HY2.out
          refine ExQ.drew ?_
          iterate 8 refine ExQ.set ?_ (by simp) _ _
          exact ExQ.refl _ _
    · have HN : Hid (unl a.args b.args = none) := unl_all HL.out fun j h1 h2 => HALL.out j (by omega) h1 h2
      have r0 := h3.cell 0
      have r1 := h3.cell 1
      have r2 := h3.cell 2
      have r3 := h3.cell 3
      have rf := h3.frozen
      have s0 := h4.cell 0
      have s1 := h4.cell 1
      have s2 := h4.cell 2
      have s3 := h4.cell 3
      have sf := h4.frozen
      simp only [List.getElem?_toArray, List.getElem?_cons_zero, List.getElem?_cons_succ] at r0 r1 r2 r3 s0 s1 s2 s3
      clear h1 h2 h3 h4 hB hall
      go_wp2_with fail
      refine bodyPost_ret (v := .tuple #[.agg #[.string ⟨#[]⟩, .slice none 0 0, .int .i64 0, .int .i64 0], .agg #[.string ⟨#[]⟩, .slice none 0 0, .int .i64 0, .int .i64 0], .bool false]) (by simp [results, Try.results76, go_sem, World.cell?_setCell_same, World.cell?_setCell_other, r0, r1, r2, r3, s0, s1, s2, s3]) rfl ?_
      refine fu_fin2 HBB.out ?_ HN.out rfl
      iterate 8 refine ExQ.set ?_ (by simp) _ _
      exact ExQ.refl _ _
#print axioms firstUnlike_any
end Go.Proofs.Ytccbocefgoccdaa
