/- Walks: which term is above another one by paths. -/
import Derived.Test.YtccbocefgoccdaaW133
import Derived.Test.YtccbocefgoccdaaMp
namespace Go.Proofs.Ytccbocefgoccdaa
open Go.RowKit
open Go.WideMaps
set_option linter.unusedSimpArgs false
set_option linter.unusedVariables false
set_option maxRecDepth 8000

/-- What stands in the map of answers is right. -/
def AskQ (row : List ByteArray) (S : List Tm) (p : Nat × Nat) (v : Bool) : Prop := ∃ x y, x ∈ S ∧ y ∈ S ∧ p = (numT x S, numT y S) ∧ v = pathB row x y
theorem AskQ.val {row : List ByteArray} {S : List Tm} {a b : Tm} {v : Bool} (h : AskQ row S (numT a S, numT b S) v) (ha : a ∈ S) (hb : b ∈ S) : v = pathB row a b := by
  obtain ⟨x, y, hx, hy, e, hv⟩ := h
  simp only [Prod.mk.injEq] at e
  rw [hv, numT_inj ha hx e.1, numT_inj hb hy e.2]
/-- The two maps. -/
structure PS (row : List ByteArray) (S : List Tm) (rk m : Nat) (w : World) : Prop where
  ranks : MapAt w rk (rkL 0 row)
  asked : MapP w m (AskQ row S)
  ne : rk ≠ m
theorem PS.later {row : List ByteArray} {S : List Tm} {rk m : Nat} {w w' : World} (h : PS row S rk m w) (hb : Below w.heap.size w w') : PS row S rk m w' := ⟨h.ranks.below hb h.ranks.lt, h.asked.below hb h.asked.lt, h.ne⟩
theorem PS.ex {row : List ByteArray} {S : List Tm} {rk m : Nat} {w w' : World} (h : PS row S rk m w) (he : Ex m w w') (ha : MapP w' m (AskQ row S)) : PS row S rk m w' := ⟨h.ranks.kept (he.block rk h.ranks.lt h.ne), ha, h.ne⟩
theorem PS.alloc {row : List ByteArray} {S : List Tm} {rk m : Nat} {w : World} (h : PS row S rk m w) (o : Obj) : PS row S rk m (w.alloc o) := h.later ((Below.refl _ _).alloc (Nat.le_refl _) o)
theorem IV.ex {w w' : World} {X : Nat → Prop} {S : List Tm} {v : Value} {t : Tm} {B : Nat} (h : IV w X S v t) (he : Ex B w w') (hX : ∀ b, X b → b ≠ B) : IV w' X S v t :=
  ((h.mono (Y := fun b => X b ∧ b < w.heap.size) fun b h1 h2 => ⟨h1, h2⟩).kept fun b hb => he.block b hb.2 (hX b hb.1)).mono fun b hb _ => hb.1
theorem ISl.ex {w w' : World} {X : Nat → Prop} {S : List Tm} {a : Option Addr} {l : List Tm} {B : Nat} (h : ISl w X S a l) (he : Ex B w w') (hX : ∀ b, X b → b ≠ B) : ISl w' X S a l :=
  ((h.mono (Y := fun b => X b ∧ b < w.heap.size) fun b h1 h2 => ⟨h1, h2⟩).kept fun b hb => he.block b hb.2 (hX b hb.1)).mono fun b hb _ => hb.1
theorem Ex.ofBel {B : Nat} {w w' : World} (h : Below w.heap.size w w') : Ex B w w' := ⟨h.os, h.tape, h.output, h.size, fun k hk _ => h.block k hk⟩
theorem pairKey : ArrKey Try.prog 105 3 2 := ⟨Try.underlying105, by kernel_rfl, by kernel_rfl, by kernel_rfl⟩
theorem typesPos : ∃ m, Try.prog.types.size = m + 1 := ⟨_, rfl⟩

/-- Terms with at most so many knots together are told apart. -/
def AboveOK (row : List ByteArray) (S : List Tm) (rk m N : Nat) : Prop := ∀ (a b : Tm) (va vb : Value) (w : World) (X : Nat → Prop), sizeL [a] + sizeL [b] ≤ N → (∀ b, X b → b ≠ m) → PS row S rk m w → IV w X S va a → IV w X S vb b →
    Calls Try.prog 35 #[.agg #[.map (some rk), .map (some m)], va, vb] w fun e w' => e = .returned (.bool (pathB row a b)) ∧ MapP w' m (AskQ row S) ∧ Ex m w w'

def LoInv (row : List ByteArray) (S : List Tm) (rk m : Nat) (a b : Tm) (aa : Option Addr) (ca : Nat) (ab : Option Addr) (cb : Nat) (w : World) (i : Value) (wr : World) : Prop :=
  ∃ k : Nat, k ≤ a.args.length ∧ i = .int .i64 (k : Int) ∧ ((a.args.take k).any fun x => sameB x b || pathB row x b) = false ∧ Blk wr w.heap.size #[.map (some rk), .map (some m)] 80 ∧
    Blk wr (w.heap.size + 1) #[.string a.name, .slice aa a.args.length ca, .int .i64 (numT a S), .int .i64 (sizeL [a])] 83 ∧ Blk wr (w.heap.size + 2) #[.string b.name, .slice ab b.args.length cb, .int .i64 (numT b S), .int .i64 (sizeL [b])] 83 ∧ MapP wr m (AskQ row S) ∧ Ex m w wr
theorem any_take {α : Type} {f : α → Bool} {l : List α} {k : Nat} (h : k < l.length) (h0 : (l.take k).any f = false) : (f l[k] = true → l.any f = true) ∧ (f l[k] = false → (l.take (k + 1)).any f = false) := by
  refine ⟨fun h1 => List.any_eq_true.2 ⟨l[k], List.getElem_mem h, h1⟩, fun h1 => ?_⟩
  rw [List.take_succ_eq_append_getElem h, List.any_append, h0]
  simp [h1]
theorem all_take {α : Type} {f : α → Bool} {l : List α} {k : Nat} (h : k < l.length) (h0 : (l.take k).all f = true) : (f l[k] = false → l.all f = false) ∧ (f l[k] = true → (l.take (k + 1)).all f = true) := by
  refine ⟨fun h1 => ?_, fun h1 => ?_⟩
  · rw [List.all_eq_false]
    exact ⟨l[k], List.getElem_mem h, by rw [h1]; simp⟩
  · rw [List.take_succ_eq_append_getElem h, List.all_append, h0]
    simp [h1]
theorem num_eq {S : List Tm} {x b : Tm} (hx : x ∈ S) (hb : b ∈ S) : ((numT x S : Int) == (numT b S : Int)) = sameB x b := by
  by_cases h : x = b
  · subst h
    rw [sameB_iff.2 rfl]
    simp
  · have h1 : sameB x b = false := by
      cases hs : sameB x b with
      | false => rfl
      | true => exact absurd (sameB_iff.1 hs) h
    rw [h1, beq_eq_false_iff_ne]
    exact fun e => h (numT_inj hx hb (by omega))

set_option maxHeartbeats 2000000 in
theorem below_any {row : List ByteArray} {S : List Tm} {rk m N : Nat} (IH : Hid (AboveOK row S rk m N)) (a b : Tm) (va vb : Value) (w : World) (X : Nat → Prop) (hN : sizeL [a] + sizeL [b] ≤ N + 1) (hX : ∀ b, X b → b ≠ m) (hP : PS row S rk m w) (ha : IV w X S va a) (hb : IV w X S vb b) :
    Calls Try.prog 73 #[.agg #[.map (some rk), .map (some m)], va, vb] w fun e w' => e = .returned (.bool (a.args.any fun x => sameB x b || pathB row x b)) ∧ MapP w' m (AskQ row S) ∧ Ex m w w' := by
  have HB := hide hb
  obtain ⟨_, aa, ca, rfl, hsa⟩ := ha
  obtain ⟨hbS, ab, cb, rfl, hsb⟩ := hb
  have HSA := hide hsa
  have hla := hsa.1
  have HP := hide hP
  have hml := hP.asked.lt
  clear hsa hsb hP
  go_enter Try.func73, Try.ntmps73
  go_wp2_with fail
  have I0 : Hid (LoInv row S rk m a b aa ca ab cb w (.int .i64 0) (((w.alloc (.cells #[.map (some rk), .map (some m)] 80)).alloc (.cells #[.string a.name, .slice aa a.args.length ca, .int .i64 (numT a S), .int .i64 (sizeL [a])] 83)).alloc (.cells #[.string b.name, .slice ab b.args.length cb, .int .i64 (numT b S), .int .i64 (sizeL [b])] 83))) := by
    have k1 := Blk.new w #[.map (some rk), .map (some m)] 80
    have e1 : (w.alloc (.cells #[.map (some rk), .map (some m)] 80)).heap.size = w.heap.size + 1 := by simp
    have x1 : Ex m w (w.alloc (.cells #[.map (some rk), .map (some m)] 80)) := (Ex.refl m w).alloc _
    have p1 := HP.out.alloc (.cells #[.map (some rk), .map (some m)] 80)
    generalize (w.alloc (.cells #[.map (some rk), .map (some m)] 80)) = w1 at *
    have k2 := Blk.new w1 #[.string a.name, .slice aa a.args.length ca, .int .i64 (numT a S), .int .i64 (sizeL [a])] 83
    have e2 : (w1.alloc (.cells #[.string a.name, .slice aa a.args.length ca, .int .i64 (numT a S), .int .i64 (sizeL [a])] 83)).heap.size = w.heap.size + 2 := by simp [e1]
    have x2 : Ex m w (w1.alloc (.cells #[.string a.name, .slice aa a.args.length ca, .int .i64 (numT a S), .int .i64 (sizeL [a])] 83)) := x1.alloc _
    have p2 := p1.alloc (.cells #[.string a.name, .slice aa a.args.length ca, .int .i64 (numT a S), .int .i64 (sizeL [a])] 83)
    have k1' := k1.alloc (.cells #[.string a.name, .slice aa a.args.length ca, .int .i64 (numT a S), .int .i64 (sizeL [a])] 83)
    generalize w1.alloc (.cells #[.string a.name, .slice aa a.args.length ca, .int .i64 (numT a S), .int .i64 (sizeL [a])] 83) = w2 at *
    have k3 := Blk.new w2 #[.string b.name, .slice ab b.args.length cb, .int .i64 (numT b S), .int .i64 (sizeL [b])] 83
    rw [e1] at k2
    rw [e2] at k3
    exact ⟨0, Nat.zero_le _, rfl, by simp, k1'.alloc _, k2.alloc _, k3, (p2.alloc _).asked, x2.alloc _⟩
  generalize (((w.alloc (.cells #[.map (some rk), .map (some m)] 80)).alloc (.cells #[.string a.name, .slice aa a.args.length ca, .int .i64 (numT a S), .int .i64 (sizeL [a])] 83)).alloc (.cells #[.string b.name, .slice ab b.args.length cb, .int .i64 (numT b S), .int .i64 (sizeL [b])] 83)) = w3 at *
  go_loopw [12] (fun i wr => LoInv row S rk m a b aa ca ab cb w i wr) (fun i wr => a.args.length - (intOf i).toNat)
  case atStart => exact I0.out
  case round =>
    clear I0
    obtain ⟨k, hk, rfl, hany, h1, h2, h3, hM, hE⟩ := hrel
    have HH1 := hide h1
    have HH2 := hide h2
    have HH3 := hide h3
    have HM := hide hM
    have HE := hide hE
    have HANY := hide hany
    have z1 : w.heap.size + 3 ≤ wr.heap.size := by have := h3.lt; omega
    by_cases hlt : k < a.args.length
    · have hlti : (k : Int) < (a.args.length : Int) := by omega
      obtain ⟨b1, o1, a1, c1, rfl, d10, d11, d12, d13, hx⟩ := (HSA.out.ex hE hX).get (Below.refl _ _) (fun _ _ h => h) k hlt
      have HX := hide hx
      have q0 : ∀ o, (wr.alloc o).cell? ⟨w.heap.size, 0, none⟩ = some (.map (some rk)) := fun o => (h1.alloc o).cell 0
      have q1 : ∀ o, (wr.alloc o).cell? ⟨w.heap.size, 1, none⟩ = some (.map (some m)) := fun o => (h1.alloc o).cell 1
      have r0 : ∀ o, (wr.alloc o).cell? ⟨w.heap.size + 2, 0, none⟩ = some (.string b.name) := fun o => (h3.alloc o).cell 0
      have r1 : ∀ o, (wr.alloc o).cell? ⟨w.heap.size + 2, 1, none⟩ = some (.slice ab b.args.length cb) := fun o => (h3.alloc o).cell 1
      have r2 : ∀ o, (wr.alloc o).cell? ⟨w.heap.size + 2, 2, none⟩ = some (.int .i64 (numT b S)) := fun o => (h3.alloc o).cell 2
      have r3 : ∀ o, (wr.alloc o).cell? ⟨w.heap.size + 2, 3, none⟩ = some (.int .i64 (sizeL [b])) := fun o => (h3.alloc o).cell 3
      have hsx := size_arg (List.getElem_mem hlt)
      have heq := num_eq hx.1 hbS
      clear hx h1 h2 h3 hM hE hany
      cases hs : sameB a.args[k] b with
      | true =>
        rw [hs] at heq
        have HR := hide ((any_take hlt HANY.out).1 (by simp [hs]))
        clear hs
        go_wp2_with fail
        go_ret
        exact ⟨by rw [HR.out]; rfl, HM.out.kept (Below.heap_alloc _ _ _ HM.out.lt), HE.out.alloc _⟩
      | false =>
        rw [hs] at heq
        have HSM := hide hs
        clear hs
        go_wp2_with fail
        have PW : PS row S rk m wr := HP.out.ex HE.out HM.out
        refine (IH.out a.args[k] b _ _ _ X (by omega) hX (PW.alloc _) (by exact HX.out.alloc _) (by exact (HB.out.ex HE.out hX).alloc _)).mono ?_
        rintro e w5 ⟨rfl, hM5, hE5⟩
        have HM5 := hide hM5
        have HE5 := hide (HE.out.trans (((Ex.refl m wr).alloc _).trans hE5))
        have hml2 := HM.out.lt
        have K1 := hide ((HH1.out.alloc _).ex hE5 (by omega))
        have K2 := hide ((HH2.out.alloc _).ex hE5 (by omega))
        have K3 := hide ((HH3.out.alloc _).ex hE5 (by omega))
        clear hM5 hE5 PW
        cases hp : pathB row a.args[k] b with
        | true =>
          have HR := hide ((any_take hlt HANY.out).1 (by simp [hp]))
          clear hp
          go_wp2_with fail
          go_ret
          exact ⟨by rw [HR.out]; rfl, HM5.out, HE5.out⟩
        | false =>
          have HR := hide ((any_take hlt HANY.out).2 (by simp [hp, HSM.out]))
          clear hp
          go_wp2_with fail
          go_roundw
          case rel => exact ⟨k + 1, by omega, by go_num, HR.out, K1.out, K2.out, K3.out, HM5.out, HE5.out⟩
          case measure => simp [intOf]; omega
    · have htk : a.args.take k = a.args := List.take_of_length_le (by omega)
      rw [htk] at hany
      have HR := hide hany
      clear h1 h2 h3 hM hE hany htk
      go_wp2_with fail
      go_ret
      exact ⟨by rw [HR.out]; rfl, HM.out, HE.out⟩
#print axioms below_any
end Go.Proofs.Ytccbocefgoccdaa
