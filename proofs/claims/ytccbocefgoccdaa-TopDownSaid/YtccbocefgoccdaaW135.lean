/- Walks: which term is above another one by paths: all of it. -/
import Derived.Test.YtccbocefgoccdaaW134
import Derived.Test.YtccbocefgoccdaaZTopDownOwn
namespace Go.Proofs.Ytccbocefgoccdaa
open Go.RowKit
open Go.WideMaps
set_option linter.unusedSimpArgs false
set_option linter.unusedVariables false
set_option maxRecDepth 8000

def AlInv (row : List ByteArray) (S : List Tm) (rk m : Nat) (a : Tm) (l : List Tm) (aa : Option Addr) (ca : Nat) (w : World) (i : Value) (wr : World) : Prop :=
  ∃ k : Nat, k ≤ l.length ∧ i = .int .i64 (k : Int) ∧ ((l.take k).all fun y => pathB row a y) = true ∧ Blk wr w.heap.size #[.map (some rk), .map (some m)] 80 ∧
    Blk wr (w.heap.size + 1) #[.string a.name, .slice aa a.args.length ca, .int .i64 (numT a S), .int .i64 (sizeL [a])] 83 ∧ MapP wr m (AskQ row S) ∧ Ex m w wr
set_option maxHeartbeats 2000000 in
theorem allOf_any {row : List ByteArray} {S : List Tm} {rk m N : Nat} (IH : Hid (AboveOK row S rk m N)) (a : Tm) (l : List Tm) (va : Value) (al : Option Addr) (cl : Nat) (w : World) (X : Nat → Prop) (hN : ∀ y ∈ l, sizeL [a] + sizeL [y] ≤ N) (hX : ∀ b, X b → b ≠ m) (hP : PS row S rk m w) (ha : IV w X S va a) (hl : ISl w X S al l) :
    Calls Try.prog 75 #[.agg #[.map (some rk), .map (some m)], va, .slice al l.length cl] w fun e w' => e = .returned (.bool (l.all fun y => pathB row a y)) ∧ MapP w' m (AskQ row S) ∧ Ex m w w' := by
  have HA := hide ha
  obtain ⟨_, aa, ca, rfl, hsa⟩ := ha
  have HSL := hide hl
  have hll := hl.1
  have HP := hide hP
  have hml := hP.asked.lt
  have HN := hide hN
  clear hsa hl hP hN
  go_enter Try.func75, Try.ntmps75
  go_wp2_with fail
  have I0 : Hid (AlInv row S rk m a l aa ca w (.int .i64 0) ((w.alloc (.cells #[.map (some rk), .map (some m)] 80)).alloc (.cells #[.string a.name, .slice aa a.args.length ca, .int .i64 (numT a S), .int .i64 (sizeL [a])] 83))) := by
    have k1 := Blk.new w #[.map (some rk), .map (some m)] 80
    have e1 : (w.alloc (.cells #[.map (some rk), .map (some m)] 80)).heap.size = w.heap.size + 1 := by simp
    have x1 : Ex m w (w.alloc (.cells #[.map (some rk), .map (some m)] 80)) := (Ex.refl m w).alloc _
    have p1 := HP.out.alloc (.cells #[.map (some rk), .map (some m)] 80)
    generalize (w.alloc (.cells #[.map (some rk), .map (some m)] 80)) = w1 at *
    have k2 := Blk.new w1 #[.string a.name, .slice aa a.args.length ca, .int .i64 (numT a S), .int .i64 (sizeL [a])] 83
    rw [e1] at k2
    exact ⟨0, Nat.zero_le _, rfl, by simp, k1.alloc _, k2, (p1.alloc _).asked, x1.alloc _⟩
  generalize ((w.alloc (.cells #[.map (some rk), .map (some m)] 80)).alloc (.cells #[.string a.name, .slice aa a.args.length ca, .int .i64 (numT a S), .int .i64 (sizeL [a])] 83)) = w3 at *
  go_loopw [11] (fun i wr => AlInv row S rk m a l aa ca w i wr) (fun i wr => l.length - (intOf i).toNat)
  case atStart => exact I0.out
  case round =>
    clear I0
    obtain ⟨k, hk, rfl, hall, h1, h2, hM, hE⟩ := hrel
    have HH1 := hide h1
    have HH2 := hide h2
    have HM := hide hM
    have HE := hide hE
    have HALL := hide hall
    have z1 : w.heap.size + 2 ≤ wr.heap.size := by have := h2.lt; omega
    by_cases hlt : k < l.length
    · have hlti : (k : Int) < (l.length : Int) := by omega
      obtain ⟨b1, o1, a1, c1, rfl, d10, d11, d12, d13, hx⟩ := (HSL.out.ex hE hX).get (Below.refl _ _) (fun _ _ h => h) k hlt
      have HX := hide hx
      have q0 : ∀ o, (wr.alloc o).cell? ⟨w.heap.size, 0, none⟩ = some (.map (some rk)) := fun o => (h1.alloc o).cell 0
      have q1 : ∀ o, (wr.alloc o).cell? ⟨w.heap.size, 1, none⟩ = some (.map (some m)) := fun o => (h1.alloc o).cell 1
      have r0 : ∀ o, (wr.alloc o).cell? ⟨w.heap.size + 1, 0, none⟩ = some (.string a.name) := fun o => (h2.alloc o).cell 0
      have r1 : ∀ o, (wr.alloc o).cell? ⟨w.heap.size + 1, 1, none⟩ = some (.slice aa a.args.length ca) := fun o => (h2.alloc o).cell 1
      have r2 : ∀ o, (wr.alloc o).cell? ⟨w.heap.size + 1, 2, none⟩ = some (.int .i64 (numT a S)) := fun o => (h2.alloc o).cell 2
      have r3 : ∀ o, (wr.alloc o).cell? ⟨w.heap.size + 1, 3, none⟩ = some (.int .i64 (sizeL [a])) := fun o => (h2.alloc o).cell 3
      clear hx h1 h2 hM hE hall
      go_wp2_with fail
      have PW : PS row S rk m wr := HP.out.ex HE.out HM.out
      refine (IH.out a l[k] _ _ _ X (HN.out _ (List.getElem_mem hlt)) hX (PW.alloc _) (by exact (HA.out.ex HE.out hX).alloc _) (by exact HX.out.alloc _)).mono ?_
      rintro e w5 ⟨rfl, hM5, hE5⟩
      have HM5 := hide hM5
      have HE5 := hide (HE.out.trans (((Ex.refl m wr).alloc _).trans hE5))
      have hml2 := HM.out.lt
      have K1 := hide ((HH1.out.alloc _).ex hE5 (by omega))
      have K2 := hide ((HH2.out.alloc _).ex hE5 (by omega))
      clear hM5 hE5 PW q0 q1 r0 r1 r2 r3
      cases hp : pathB row a l[k] with
      | false =>
        have HR := hide ((all_take hlt HALL.out).1 hp)
        clear hp
        go_wp2_with fail
        go_ret
        exact ⟨by rw [HR.out]; rfl, HM5.out, HE5.out⟩
      | true =>
        have HR := hide ((all_take hlt HALL.out).2 hp)
        clear hp
        go_wp2_with fail
        go_roundw
        case rel => exact ⟨k + 1, by omega, by go_num, HR.out, K1.out, K2.out, HM5.out, HE5.out⟩
        case measure => simp [intOf]; omega
    · have htk : l.take k = l := List.take_of_length_le (by omega)
      rw [htk] at hall
      have HR := hide hall
      clear h1 h2 hM hE hall htk
      go_wp2_with fail
      go_ret
      exact ⟨by rw [HR.out]; rfl, HM.out, HE.out⟩

/-- The three boxes, and the maps. -/
structure AskW (row : List ByteArray) (S : List Tm) (rk m : Nat) (a b : Tm) (aa : Option Addr) (ca : Nat) (ab : Option Addr) (cb : Nat) (w wr : World) : Prop where
  k1 : Blk wr w.heap.size #[.map (some rk), .map (some m)] 80
  k2 : Blk wr (w.heap.size + 1) #[.string a.name, .slice aa a.args.length ca, .int .i64 (numT a S), .int .i64 (sizeL [a])] 83
  k3 : Blk wr (w.heap.size + 2) #[.string b.name, .slice ab b.args.length cb, .int .i64 (numT b S), .int .i64 (sizeL [b])] 83
  mp : MapP wr m (AskQ row S)
  ex : Ex m w wr
theorem AskW.later {row : List ByteArray} {S : List Tm} {rk m : Nat} {a b : Tm} {aa ab : Option Addr} {ca cb : Nat} {w w1 w2 : World} (h : AskW row S rk m a b aa ca ab cb w w1) (hb : Below w1.heap.size w1 w2) : AskW row S rk m a b aa ca ab cb w w2 :=
  ⟨h.k1.below hb h.k1.lt, h.k2.below hb h.k2.lt, h.k3.below hb h.k3.lt, h.mp.below hb h.mp.lt, h.ex.trans (Ex.ofBel hb)⟩
theorem AskW.step {row : List ByteArray} {S : List Tm} {rk m : Nat} {a b : Tm} {aa ab : Option Addr} {ca cb : Nat} {w w1 w2 : World} (h : AskW row S rk m a b aa ca ab cb w w1) (hm : m < w.heap.size) (hM : MapP w2 m (AskQ row S)) (hE : Ex m w1 w2) : AskW row S rk m a b aa ca ab cb w w2 :=
  ⟨h.k1.ex hE (by omega), h.k2.ex hE (by omega), h.k3.ex hE (by omega), hM, h.ex.trans hE⟩
theorem AskW.start {row : List ByteArray} {S : List Tm} {rk m : Nat} {w : World} (a b : Tm) (aa : Option Addr) (ca : Nat) (ab : Option Addr) (cb : Nat) (hP : PS row S rk m w) : AskW row S rk m a b aa ca ab cb w (((w.alloc (.cells #[.map (some rk), .map (some m)] 80)).alloc (.cells #[.string a.name, .slice aa a.args.length ca, .int .i64 (numT a S), .int .i64 (sizeL [a])] 83)).alloc (.cells #[.string b.name, .slice ab b.args.length cb, .int .i64 (numT b S), .int .i64 (sizeL [b])] 83)) := by
  have k1 := Blk.new w #[.map (some rk), .map (some m)] 80
  have e1 : (w.alloc (.cells #[.map (some rk), .map (some m)] 80)).heap.size = w.heap.size + 1 := by simp
  have x1 : Ex m w (w.alloc (.cells #[.map (some rk), .map (some m)] 80)) := (Ex.refl m w).alloc _
  have p1 := hP.alloc (.cells #[.map (some rk), .map (some m)] 80)
  generalize (w.alloc (.cells #[.map (some rk), .map (some m)] 80)) = w1 at *
  have k2 := Blk.new w1 #[.string a.name, .slice aa a.args.length ca, .int .i64 (numT a S), .int .i64 (sizeL [a])] 83
  have e2 : (w1.alloc (.cells #[.string a.name, .slice aa a.args.length ca, .int .i64 (numT a S), .int .i64 (sizeL [a])] 83)).heap.size = w.heap.size + 2 := by simp [e1]
  have x2 : Ex m w (w1.alloc (.cells #[.string a.name, .slice aa a.args.length ca, .int .i64 (numT a S), .int .i64 (sizeL [a])] 83)) := x1.alloc _
  have p2 := p1.alloc (.cells #[.string a.name, .slice aa a.args.length ca, .int .i64 (numT a S), .int .i64 (sizeL [a])] 83)
  have k1' := k1.alloc (.cells #[.string a.name, .slice aa a.args.length ca, .int .i64 (numT a S), .int .i64 (sizeL [a])] 83)
  generalize w1.alloc (.cells #[.string a.name, .slice aa a.args.length ca, .int .i64 (numT a S), .int .i64 (sizeL [a])] 83) = w2 at *
  have k3 := Blk.new w2 #[.string b.name, .slice ab b.args.length cb, .int .i64 (numT b S), .int .i64 (sizeL [b])] 83
  rw [e1] at k2
  rw [e2] at k3
  exact ⟨k1'.alloc _, k2.alloc _, k3, (p2.alloc _).asked, x2.alloc _⟩

set_option maxHeartbeats 4000000 in
theorem ask_any {row : List ByteArray} {S : List Tm} {rk m N : Nat} (IH : Hid (AboveOK row S rk m N)) (a b : Tm) (va vb : Value) (w : World) (X : Nat → Prop) (hN : sizeL [a] + sizeL [b] ≤ N + 1) (hX : ∀ b, X b → b ≠ m) (hP : PS row S rk m w) (ha : IV w X S va a) (hb : IV w X S vb b) :
    Calls Try.prog 54 #[.agg #[.map (some rk), .map (some m)], va, vb] w fun e w' => e = .returned (.bool (pathB row a b)) ∧ MapP w' m (AskQ row S) ∧ Ex m w w' := by
  have HA := hide ha
  have HB := hide hb
  obtain ⟨_, aa, ca, rfl, hsa⟩ := ha
  obtain ⟨_, ab, cb, rfl, hsb⟩ := hb
  have HSB := hide hsb
  have HP := hide hP
  have hml := hP.asked.lt
  have HPB := hide (pathB_eq row a b)
  clear hsa hsb hP
  have A3 := hide (AskW.start a b aa ca ab cb HP.out)
  go_enter Try.func54, Try.ntmps54
  go_wp2_with fail
  generalize (((w.alloc (.cells #[.map (some rk), .map (some m)] 80)).alloc (.cells #[.string a.name, .slice aa a.args.length ca, .int .i64 (numT a S), .int .i64 (sizeL [a])] 83)).alloc (.cells #[.string b.name, .slice ab b.args.length cb, .int .i64 (numT b S), .int .i64 (sizeL [b])] 83)) = w3 at *
  refine (itemVar_any S a _ _ X (by exact HA.out.ex A3.out.ex hX)).mono ?_
  rintro e w4 ⟨rfl, hb4⟩
  have A4 := hide (A3.out.later hb4)
  clear hb4 A3
  have q0 : w4.cell? ⟨w.heap.size, 0, none⟩ = some (.map (some rk)) := A4.out.k1.cell 0
  have q1 : w4.cell? ⟨w.heap.size, 1, none⟩ = some (.map (some m)) := A4.out.k1.cell 1
  have r0 : w4.cell? ⟨w.heap.size + 1, 0, none⟩ = some (.string a.name) := A4.out.k2.cell 0
  have r1 : w4.cell? ⟨w.heap.size + 1, 1, none⟩ = some (.slice aa a.args.length ca) := A4.out.k2.cell 1
  have r2 : w4.cell? ⟨w.heap.size + 1, 2, none⟩ = some (.int .i64 (numT a S)) := A4.out.k2.cell 2
  have r3 : w4.cell? ⟨w.heap.size + 1, 3, none⟩ = some (.int .i64 (sizeL [a])) := A4.out.k2.cell 3
  have s0 : w4.cell? ⟨w.heap.size + 2, 0, none⟩ = some (.string b.name) := A4.out.k3.cell 0
  have s1 : w4.cell? ⟨w.heap.size + 2, 1, none⟩ = some (.slice ab b.args.length cb) := A4.out.k3.cell 1
  have s2 : w4.cell? ⟨w.heap.size + 2, 2, none⟩ = some (.int .i64 (numT b S)) := A4.out.k3.cell 2
  have s3 : w4.cell? ⟨w.heap.size + 2, 3, none⟩ = some (.int .i64 (sizeL [b])) := A4.out.k3.cell 3
  cases hva : varB a.name with
  | true =>
    have HR : Hid (pathB row a b = false) := by unfold Hid; rw [HPB.out, if_pos hva]
    clear hva
    go_wp2_with fail
    go_ret
    exact ⟨by rw [HR.out]; rfl, A4.out.mp, A4.out.ex⟩
  | false =>
    have HVA := hide hva
    clear hva
    go_wp2_with fail
    refine (below_any IH a b _ _ _ X hN hX (HP.out.ex A4.out.ex A4.out.mp) (by exact HA.out.ex A4.out.ex hX) (by exact HB.out.ex A4.out.ex hX)).mono ?_
    rintro e w5 ⟨rfl, hM5, hE5⟩
    have A5 := hide (A4.out.step hml hM5 hE5)
    clear hM5 hE5 A4
    clear q0 q1 r0 r1 r2 r3 s0 s1 s2 s3
    have q0 : w5.cell? ⟨w.heap.size, 0, none⟩ = some (.map (some rk)) := A5.out.k1.cell 0
    have q1 : w5.cell? ⟨w.heap.size, 1, none⟩ = some (.map (some m)) := A5.out.k1.cell 1
    have r0 : w5.cell? ⟨w.heap.size + 1, 0, none⟩ = some (.string a.name) := A5.out.k2.cell 0
    have r1 : w5.cell? ⟨w.heap.size + 1, 1, none⟩ = some (.slice aa a.args.length ca) := A5.out.k2.cell 1
    have r2 : w5.cell? ⟨w.heap.size + 1, 2, none⟩ = some (.int .i64 (numT a S)) := A5.out.k2.cell 2
    have r3 : w5.cell? ⟨w.heap.size + 1, 3, none⟩ = some (.int .i64 (sizeL [a])) := A5.out.k2.cell 3
    have s0 : w5.cell? ⟨w.heap.size + 2, 0, none⟩ = some (.string b.name) := A5.out.k3.cell 0
    have s1 : w5.cell? ⟨w.heap.size + 2, 1, none⟩ = some (.slice ab b.args.length cb) := A5.out.k3.cell 1
    have s2 : w5.cell? ⟨w.heap.size + 2, 2, none⟩ = some (.int .i64 (numT b S)) := A5.out.k3.cell 2
    have s3 : w5.cell? ⟨w.heap.size + 2, 3, none⟩ = some (.int .i64 (sizeL [b])) := A5.out.k3.cell 3
    cases hany : a.args.any fun x => sameB x b || pathB row x b with
    | true =>
      have HR : Hid (pathB row a b = true) := by unfold Hid; rw [HPB.out, if_neg (by rw [HVA.out]; simp), if_pos hany]
      clear hany
      go_wp2_with fail
      go_ret
      exact ⟨by rw [HR.out]; rfl, A5.out.mp, A5.out.ex⟩
    | false =>
      have HAN := hide hany
      clear hany
      go_wp2_with fail
      refine (itemVar_any S b _ _ X (by exact HB.out.ex A5.out.ex hX)).mono ?_
      rintro e w6 ⟨rfl, hb6⟩
      have A6 := hide (A5.out.later hb6)
      clear hb6 A5
      clear q0 q1 r0 r1 r2 r3 s0 s1 s2 s3
      have q0 : w6.cell? ⟨w.heap.size, 0, none⟩ = some (.map (some rk)) := A6.out.k1.cell 0
      have q1 : w6.cell? ⟨w.heap.size, 1, none⟩ = some (.map (some m)) := A6.out.k1.cell 1
      have r0 : w6.cell? ⟨w.heap.size + 1, 0, none⟩ = some (.string a.name) := A6.out.k2.cell 0
      have r1 : w6.cell? ⟨w.heap.size + 1, 1, none⟩ = some (.slice aa a.args.length ca) := A6.out.k2.cell 1
      have r2 : w6.cell? ⟨w.heap.size + 1, 2, none⟩ = some (.int .i64 (numT a S)) := A6.out.k2.cell 2
      have r3 : w6.cell? ⟨w.heap.size + 1, 3, none⟩ = some (.int .i64 (sizeL [a])) := A6.out.k2.cell 3
      have s0 : w6.cell? ⟨w.heap.size + 2, 0, none⟩ = some (.string b.name) := A6.out.k3.cell 0
      have s1 : w6.cell? ⟨w.heap.size + 2, 1, none⟩ = some (.slice ab b.args.length cb) := A6.out.k3.cell 1
      have s2 : w6.cell? ⟨w.heap.size + 2, 2, none⟩ = some (.int .i64 (numT b S)) := A6.out.k3.cell 2
      have s3 : w6.cell? ⟨w.heap.size + 2, 3, none⟩ = some (.int .i64 (sizeL [b])) := A6.out.k3.cell 3
      cases hvb : varB b.name with
      | true =>
        have HR : Hid (pathB row a b = false) := by unfold Hid; rw [HPB.out, if_neg (by rw [HVA.out]; simp), if_neg (by rw [HAN.out]; simp), if_pos hvb]
        clear hvb
        go_wp2_with fail
        go_ret
        exact ⟨by rw [HR.out]; rfl, A6.out.mp, A6.out.ex⟩
      | false =>
        have HVB := hide hvb
        clear hvb
        go_wp2_with fail
        refine (compareR_any row S a b rk _ _ _ X (HP.out.ex A6.out.ex A6.out.mp).ranks (by exact HA.out.ex A6.out.ex hX) (by exact HB.out.ex A6.out.ex hX)).mono ?_
        rintro e w7 ⟨rfl, hb7⟩
        have A7 := hide (A6.out.later hb7)
        clear hb7 A6
        clear q0 q1 r0 r1 r2 r3 s0 s1 s2 s3
        have q0 : w7.cell? ⟨w.heap.size, 0, none⟩ = some (.map (some rk)) := A7.out.k1.cell 0
        have q1 : w7.cell? ⟨w.heap.size, 1, none⟩ = some (.map (some m)) := A7.out.k1.cell 1
        have r0 : w7.cell? ⟨w.heap.size + 1, 0, none⟩ = some (.string a.name) := A7.out.k2.cell 0
        have r1 : w7.cell? ⟨w.heap.size + 1, 1, none⟩ = some (.slice aa a.args.length ca) := A7.out.k2.cell 1
        have r2 : w7.cell? ⟨w.heap.size + 1, 2, none⟩ = some (.int .i64 (numT a S)) := A7.out.k2.cell 2
        have r3 : w7.cell? ⟨w.heap.size + 1, 3, none⟩ = some (.int .i64 (sizeL [a])) := A7.out.k2.cell 3
        have s0 : w7.cell? ⟨w.heap.size + 2, 0, none⟩ = some (.string b.name) := A7.out.k3.cell 0
        have s1 : w7.cell? ⟨w.heap.size + 2, 1, none⟩ = some (.slice ab b.args.length cb) := A7.out.k3.cell 1
        have s2 : w7.cell? ⟨w.heap.size + 2, 2, none⟩ = some (.int .i64 (numT b S)) := A7.out.k3.cell 2
        have s3 : w7.cell? ⟨w.heap.size + 2, 3, none⟩ = some (.int .i64 (sizeL [b])) := A7.out.k3.cell 3
        have HEAD : Hid (pathB row a b = if gtS row b a = true then false else if (b.args.all fun y => pathB row a y) = false then false else if gtS row a b = true then true else match unl a.args b.args with | none => false | some (x, y) => pathB row x y) := by
          unfold Hid
          rw [HPB.out, if_neg (by rw [HVA.out]; simp), if_neg (by rw [HAN.out]; simp), if_neg (by rw [HVB.out]; simp)]
          cases unl a.args b.args with
          | none => rfl
          | some p => rfl
        clear HPB HVA HAN HVB
        have callAll : ∀ al cl, ISl w7 X S al b.args → Calls Try.prog 75 #[.agg #[.map (some rk), .map (some m)], .agg #[.string a.name, .slice aa a.args.length ca, .int .i64 (numT a S), .int .i64 (sizeL [a])], .slice al b.args.length cl] w7 fun e w' => e = .returned (.bool (b.args.all fun y => pathB row a y)) ∧ MapP w' m (AskQ row S) ∧ Ex m w7 w' := fun al cl hl =>
          allOf_any IH a b.args _ al cl w7 X (fun y hy => by have := size_arg hy; omega) hX (HP.out.ex A7.out.ex A7.out.mp) (by exact HA.out.ex A7.out.ex hX) hl
        have HCA := hide callAll
        clear callAll
        rcases cmpS_cases row a b with ⟨g1, hc⟩ | ⟨g1, hc⟩ | ⟨g1, g2, hc⟩
        · have g2 := gtS_asymm g1
          rw [hc]
          go_wp2_with fail
          refine (HCA.out _ _ (by exact HSB.out.ex A7.out.ex hX)).mono ?_
          rintro e w8 ⟨rfl, hM8, hE8⟩
          have A8 := hide (A7.out.step hml hM8 hE8)
          clear hM8 hE8 A7 HCA
          clear q0 q1 r0 r1 r2 r3 s0 s1 s2 s3
          cases hall : b.args.all fun y => pathB row a y with
          | false =>
            have HR : Hid (pathB row a b = false) := by unfold Hid; rw [HEAD.out, if_neg (by rw [g2]; simp), if_pos hall]
            clear hall
            go_wp2_with fail
            go_ret
            exact ⟨by rw [HR.out]; rfl, A8.out.mp, A8.out.ex⟩
          | true =>
            have HR : Hid (pathB row a b = true) := by unfold Hid; rw [HEAD.out, if_neg (by rw [g2]; simp), if_neg (by rw [hall]; simp), if_pos g1]
            clear hall
            go_wp2_with fail
            go_ret
            exact ⟨by rw [HR.out]; rfl, A8.out.mp, A8.out.ex⟩
        · have HR : Hid (pathB row a b = false) := by unfold Hid; rw [HEAD.out, if_pos g1]
          rw [hc]
          go_wp2_with fail
          go_ret
          exact ⟨by rw [HR.out]; rfl, A7.out.mp, A7.out.ex⟩
        · rw [hc]
          go_wp2_with fail
          refine (HCA.out _ _ (by exact HSB.out.ex A7.out.ex hX)).mono ?_
          rintro e w8 ⟨rfl, hM8, hE8⟩
          have A8 := hide (A7.out.step hml hM8 hE8)
          clear hM8 hE8 A7 HCA
          clear q0 q1 r0 r1 r2 r3 s0 s1 s2 s3
          have q0 : w8.cell? ⟨w.heap.size, 0, none⟩ = some (.map (some rk)) := A8.out.k1.cell 0
          have q1 : w8.cell? ⟨w.heap.size, 1, none⟩ = some (.map (some m)) := A8.out.k1.cell 1
          have r0 : w8.cell? ⟨w.heap.size + 1, 0, none⟩ = some (.string a.name) := A8.out.k2.cell 0
          have r1 : w8.cell? ⟨w.heap.size + 1, 1, none⟩ = some (.slice aa a.args.length ca) := A8.out.k2.cell 1
          have r2 : w8.cell? ⟨w.heap.size + 1, 2, none⟩ = some (.int .i64 (numT a S)) := A8.out.k2.cell 2
          have r3 : w8.cell? ⟨w.heap.size + 1, 3, none⟩ = some (.int .i64 (sizeL [a])) := A8.out.k2.cell 3
          have s0 : w8.cell? ⟨w.heap.size + 2, 0, none⟩ = some (.string b.name) := A8.out.k3.cell 0
          have s1 : w8.cell? ⟨w.heap.size + 2, 1, none⟩ = some (.slice ab b.args.length cb) := A8.out.k3.cell 1
          have s2 : w8.cell? ⟨w.heap.size + 2, 2, none⟩ = some (.int .i64 (numT b S)) := A8.out.k3.cell 2
          have s3 : w8.cell? ⟨w.heap.size + 2, 3, none⟩ = some (.int .i64 (sizeL [b])) := A8.out.k3.cell 3
          cases hall : b.args.all fun y => pathB row a y with
          | false =>
            have HR : Hid (pathB row a b = false) := by unfold Hid; rw [HEAD.out, if_neg (by rw [g2]; simp), if_pos hall]
            clear hall
            go_wp2_with fail
            go_ret
            exact ⟨by rw [HR.out]; rfl, A8.out.mp, A8.out.ex⟩
          | true =>
            have HLAST : Hid (pathB row a b = match unl a.args b.args with | none => false | some (x, y) => pathB row x y) := by unfold Hid; rw [HEAD.out, if_neg (by rw [g2]; simp), if_neg (by rw [hall]; simp), if_neg (by rw [g1]; simp)]
            have HLEN := hide (gtS_same g1 g2).2
            clear hall g1 g2 hc HEAD
            go_wp2_with fail
            refine (firstUnlike_any S a b HLEN.out _ _ _ X (by exact HA.out.ex A8.out.ex hX) (by exact HB.out.ex A8.out.ex hX)).mono ?_
            rintro e w9 ⟨hb9, hcase⟩
            have A9 := hide (A8.out.later hb9)
            clear hb9 A8
            clear q0 q1 r0 r1 r2 r3 s0 s1 s2 s3
            rcases hcase with ⟨x, y, vx, vy, hu, rfl, hvx, hvy⟩ | ⟨hu, rfl⟩
            · have HVX := hide hvx
              have HVY := hide hvy
              obtain ⟨_, ax, cx, rfl, _⟩ := hvx
              obtain ⟨_, ay, cy, rfl, _⟩ := hvy
              obtain ⟨mx, my⟩ := unl_mem hu
              have sx := size_arg mx
              have sy := size_arg my
              have HU := hide hu
              have q0 : ∀ o o', ((w9.alloc o).alloc o').cell? ⟨w.heap.size, 0, none⟩ = some (.map (some rk)) := fun o o' => ((A9.out.k1.alloc o).alloc o').cell 0
              have q1 : ∀ o o', ((w9.alloc o).alloc o').cell? ⟨w.heap.size, 1, none⟩ = some (.map (some m)) := fun o o' => ((A9.out.k1.alloc o).alloc o').cell 1
              clear hu mx my
              go_wp2_with fail
              have P9 : PS row S rk m w9 := HP.out.ex A9.out.ex A9.out.mp
              refine (IH.out x y _ _ _ X (by omega) hX ((P9.alloc _).alloc _) (by exact (HVX.out.alloc _).alloc _) (by exact (HVY.out.alloc _).alloc _)).mono ?_
              rintro e wA ⟨rfl, hMA, hEA⟩
              have HMA := hide hMA
              have HEA := hide (A9.out.ex.trans ((((Ex.refl m w9).alloc _).alloc _).trans hEA))
              have HR : Hid (pathB row a b = pathB row x y) := by unfold Hid; rw [HLAST.out, HU.out]
              clear hMA hEA P9 q0 q1
              go_wp2_with fail
              go_ret
              exact ⟨by rw [HR.out]; rfl, HMA.out, HEA.out⟩
            · have HR : Hid (pathB row a b = false) := by unfold Hid; rw [HLAST.out, hu]
              go_wp2_with fail
              go_ret
              exact ⟨by rw [HR.out]; rfl, (A9.out.mp.kept (Below.heap_alloc _ _ _ A9.out.mp.lt)).kept (Below.heap_alloc _ _ _ (by have := A9.out.mp.lt; simp; omega)), (A9.out.ex.alloc _).alloc _⟩
#print axioms ask_any

set_option maxHeartbeats 4000000 in
theorem above_step {row : List ByteArray} {S : List Tm} {rk m N : Nat} (hS : S.length < 9000000000000000000) (IH : Hid (AboveOK row S rk m N)) (a b : Tm) (va vb : Value) (w : World) (X : Nat → Prop) (hN : sizeL [a] + sizeL [b] ≤ N + 1) (hX : ∀ b, X b → b ≠ m) (hP : PS row S rk m w) (ha : IV w X S va a) (hb : IV w X S vb b) :
    Calls Try.prog 35 #[.agg #[.map (some rk), .map (some m)], va, vb] w fun e w' => e = .returned (.bool (pathB row a b)) ∧ MapP w' m (AskQ row S) ∧ Ex m w w' := by
  have HA := hide ha
  have HB := hide hb
  have haS := ha.1
  have hbS := hb.1
  obtain ⟨_, aa, ca, rfl, hsa⟩ := ha
  obtain ⟨_, ab, cb, rfl, hsb⟩ := hb
  have HP := hide hP
  have hml := hP.asked.lt
  have hok : PrOk (numT a S, numT b S) := ⟨by have := numT_le a S; show numT a S < _; omega, by have := numT_le b S; show numT b S < _; omega⟩
  have HOK := hide hok
  have A3 := hide (AskW.start a b aa ca ab cb HP.out)
  have hz : ∀ w', (zeroValue 107).run Try.prog w' = .ok (.agg #[.bool false]) w' := fun w' => Try.zeroValue107 w'
  have M4 : MapP ((((w.alloc (.cells #[.map (some rk), .map (some m)] 80)).alloc (.cells #[.string a.name, .slice aa a.args.length ca, .int .i64 (numT a S), .int .i64 (sizeL [a])] 83)).alloc (.cells #[.string b.name, .slice ab b.args.length cb, .int .i64 (numT b S), .int .i64 (sizeL [b])] 83)).alloc (.cells #[.int .i64 (numT a S), .int .i64 (numT b S)] 105)) m (AskQ row S) := A3.out.mp.kept (Below.heap_alloc _ _ _ A3.out.mp.lt)
  have hlk := run_lookP (P := Try.prog) pairKey Try.underlying3 typesPos Try.underlying78 (hz _) M4 hok
  clear hsa hsb hP M4 hz hok
  rcases hlk with ⟨v, hQ, hrun⟩ | hrun
  · have HV := hide (hQ.val haS hbS)
    have hrun' : (Instr.lookup 78 (.map (some m)) (.agg #[.int .i64 (numT a S), .int .i64 (numT b S)]) true).run Try.prog ((((w.alloc (.cells #[.map (some rk), .map (some m)] 80)).alloc (.cells #[.string a.name, .slice aa a.args.length ca, .int .i64 (numT a S), .int .i64 (sizeL [a])] 83)).alloc (.cells #[.string b.name, .slice ab b.args.length cb, .int .i64 (numT b S), .int .i64 (sizeL [b])] 83)).alloc (.cells #[.int .i64 (numT a S), .int .i64 (numT b S)] 105)) = .ok (.tuple #[.agg #[.bool v], .bool true]) ((((w.alloc (.cells #[.map (some rk), .map (some m)] 80)).alloc (.cells #[.string a.name, .slice aa a.args.length ca, .int .i64 (numT a S), .int .i64 (sizeL [a])] 83)).alloc (.cells #[.string b.name, .slice ab b.args.length cb, .int .i64 (numT b S), .int .i64 (sizeL [b])] 83)).alloc (.cells #[.int .i64 (numT a S), .int .i64 (numT b S)] 105)) := hrun
    clear hrun hQ
    go_enter Try.func35, Try.ntmps35
    go_wp2_with fail
    go_ret
    refine ⟨by rw [← HV.out]; rfl, ?_, ((A3.out.ex.alloc _).alloc _)⟩
    exact (A3.out.mp.kept (Below.heap_alloc _ _ _ A3.out.mp.lt)).kept (Below.heap_alloc _ _ _ (by have := A3.out.mp.lt; simp at this ⊢; omega))
  · have hrun' : (Instr.lookup 78 (.map (some m)) (.agg #[.int .i64 (numT a S), .int .i64 (numT b S)]) true).run Try.prog ((((w.alloc (.cells #[.map (some rk), .map (some m)] 80)).alloc (.cells #[.string a.name, .slice aa a.args.length ca, .int .i64 (numT a S), .int .i64 (sizeL [a])] 83)).alloc (.cells #[.string b.name, .slice ab b.args.length cb, .int .i64 (numT b S), .int .i64 (sizeL [b])] 83)).alloc (.cells #[.int .i64 (numT a S), .int .i64 (numT b S)] 105)) = .ok (.tuple #[.agg #[.bool false], .bool false]) ((((w.alloc (.cells #[.map (some rk), .map (some m)] 80)).alloc (.cells #[.string a.name, .slice aa a.args.length ca, .int .i64 (numT a S), .int .i64 (sizeL [a])] 83)).alloc (.cells #[.string b.name, .slice ab b.args.length cb, .int .i64 (numT b S), .int .i64 (sizeL [b])] 83)).alloc (.cells #[.int .i64 (numT a S), .int .i64 (numT b S)] 105)) := hrun
    clear hrun
    go_enter Try.func35, Try.ntmps35
    go_wp2_with fail
    have A5 : Hid (AskW row S rk m a b aa ca ab cb w (((((w.alloc (.cells #[.map (some rk), .map (some m)] 80)).alloc (.cells #[.string a.name, .slice aa a.args.length ca, .int .i64 (numT a S), .int .i64 (sizeL [a])] 83)).alloc (.cells #[.string b.name, .slice ab b.args.length cb, .int .i64 (numT b S), .int .i64 (sizeL [b])] 83)).alloc (.cells #[.int .i64 (numT a S), .int .i64 (numT b S)] 105)).alloc (.cells #[.bool false] 107))) := (A3.out.later ((Below.refl _ _).alloc (Nat.le_refl _) _)).later ((Below.refl _ _).alloc (Nat.le_refl _) _)
    have e3 : (((w.alloc (.cells #[.map (some rk), .map (some m)] 80)).alloc (.cells #[.string a.name, .slice aa a.args.length ca, .int .i64 (numT a S), .int .i64 (sizeL [a])] 83)).alloc (.cells #[.string b.name, .slice ab b.args.length cb, .int .i64 (numT b S), .int .i64 (sizeL [b])] 83)).heap.size = w.heap.size + 3 := by simp
    have KB : Hid (Blk (((((w.alloc (.cells #[.map (some rk), .map (some m)] 80)).alloc (.cells #[.string a.name, .slice aa a.args.length ca, .int .i64 (numT a S), .int .i64 (sizeL [a])] 83)).alloc (.cells #[.string b.name, .slice ab b.args.length cb, .int .i64 (numT b S), .int .i64 (sizeL [b])] 83)).alloc (.cells #[.int .i64 (numT a S), .int .i64 (numT b S)] 105)).alloc (.cells #[.bool false] 107)) (w.heap.size + 3) #[.int .i64 (numT a S), .int .i64 (numT b S)] 105) := by
      have h := (Blk.new (((w.alloc (.cells #[.map (some rk), .map (some m)] 80)).alloc (.cells #[.string a.name, .slice aa a.args.length ca, .int .i64 (numT a S), .int .i64 (sizeL [a])] 83)).alloc (.cells #[.string b.name, .slice ab b.args.length cb, .int .i64 (numT b S), .int .i64 (sizeL [b])] 83)) #[.int .i64 (numT a S), .int .i64 (numT b S)] 105).alloc (.cells #[.bool false] 107)
      rw [e3] at h
      exact h
    have KK : Hid (Blk (((((w.alloc (.cells #[.map (some rk), .map (some m)] 80)).alloc (.cells #[.string a.name, .slice aa a.args.length ca, .int .i64 (numT a S), .int .i64 (sizeL [a])] 83)).alloc (.cells #[.string b.name, .slice ab b.args.length cb, .int .i64 (numT b S), .int .i64 (sizeL [b])] 83)).alloc (.cells #[.int .i64 (numT a S), .int .i64 (numT b S)] 105)).alloc (.cells #[.bool false] 107)) (w.heap.size + 4) #[.bool false] 107) := by
      have h := Blk.new ((((w.alloc (.cells #[.map (some rk), .map (some m)] 80)).alloc (.cells #[.string a.name, .slice aa a.args.length ca, .int .i64 (numT a S), .int .i64 (sizeL [a])] 83)).alloc (.cells #[.string b.name, .slice ab b.args.length cb, .int .i64 (numT b S), .int .i64 (sizeL [b])] 83)).alloc (.cells #[.int .i64 (numT a S), .int .i64 (numT b S)] 105)) #[.bool false] 107
      have e4 : ((((w.alloc (.cells #[.map (some rk), .map (some m)] 80)).alloc (.cells #[.string a.name, .slice aa a.args.length ca, .int .i64 (numT a S), .int .i64 (sizeL [a])] 83)).alloc (.cells #[.string b.name, .slice ab b.args.length cb, .int .i64 (numT b S), .int .i64 (sizeL [b])] 83)).alloc (.cells #[.int .i64 (numT a S), .int .i64 (numT b S)] 105)).heap.size = w.heap.size + 4 := by simp
      rw [e4] at h
      exact h
    clear e3 hrun'
    generalize ((((w.alloc (.cells #[.map (some rk), .map (some m)] 80)).alloc (.cells #[.string a.name, .slice aa a.args.length ca, .int .i64 (numT a S), .int .i64 (sizeL [a])] 83)).alloc (.cells #[.string b.name, .slice ab b.args.length cb, .int .i64 (numT b S), .int .i64 (sizeL [b])] 83)).alloc (.cells #[.int .i64 (numT a S), .int .i64 (numT b S)] 105)).alloc (.cells #[.bool false] 107) = w5 at *
    refine (ask_any IH a b _ _ _ X hN hX (HP.out.ex A5.out.ex A5.out.mp) (by exact HA.out.ex A5.out.ex hX) (by exact HB.out.ex A5.out.ex hX)).mono ?_
    rintro e w6 ⟨rfl, hM6, hE6⟩
    have A6 := hide (A5.out.step hml hM6 hE6)
    have KB6 := hide (KB.out.ex hE6 (by omega))
    have KK6 := hide (KK.out.ex hE6 (by omega))
    have M7 : MapP (w6.setCell ⟨w.heap.size + 4, 0, none⟩ (.bool (pathB row a b))) m (AskQ row S) := hM6.kept (Below.heap_setCell _ _ _ _ (by simp; omega))
    obtain ⟨w7, hput, hM7, hz7, ho7, ht7, hu7, hk7⟩ := run_putP (P := Try.prog) pairKey Try.underlying3 typesPos Try.underlying78 M7 HOK.out (v := pathB row a b) ⟨a, b, haS, hbS, rfl, rfl⟩
    have hput' : (Instr.mapUpdate 78 (.map (some m)) (.agg #[.int .i64 (numT a S), .int .i64 (numT b S)]) (.agg #[.bool (pathB row a b)])).run Try.prog (w6.setCell ⟨w.heap.size + 4, 0, none⟩ (.bool (pathB row a b))) = .ok () w7 := hput
    have E7 : Hid (Ex m w w7) := by
      have h1 := A6.out.ex.setNew (b := w.heap.size + 4) (by omega) 0 (.bool (pathB row a b))
      exact ⟨ho7.trans h1.os, ht7.trans h1.tape, hu7.trans h1.output, by rw [hz7]; exact h1.size, fun k hk hn => (hk7 k hn).trans (h1.block k hk hn)⟩
    have HM7 := hide hM7
    have kk7 : w7.cell? ⟨w.heap.size + 4, 0, none⟩ = some (.bool (pathB row a b)) := by
      have h1 := KK6.out.set 0 (.bool (pathB row a b))
      have h2 : Blk w7 (w.heap.size + 4) _ 107 := (hk7 (w.heap.size + 4) (by omega)).trans h1
      exact h2.cell 0
    have kf := KK6.out.frozen 0
    have k60 : w6.cell? ⟨w.heap.size + 4, 0, none⟩ = some (.bool false) := KK6.out.cell 0
    have z0 : ∀ v, (w6.setCell ⟨w.heap.size + 4, 0, none⟩ v).cell? ⟨w.heap.size, 1, none⟩ = some (.map (some m)) := fun v => (A6.out.k1.setOther 0 v (by omega)).cell 1
    have z1 : ∀ v, (w6.setCell ⟨w.heap.size + 4, 0, none⟩ v).cell? ⟨w.heap.size + 3, 0, none⟩ = some (.int .i64 (numT a S)) := fun v => (KB6.out.setOther 0 v (by omega)).cell 0
    have z2 : ∀ v, (w6.setCell ⟨w.heap.size + 4, 0, none⟩ v).cell? ⟨w.heap.size + 3, 1, none⟩ = some (.int .i64 (numT b S)) := fun v => (KB6.out.setOther 0 v (by omega)).cell 1
    clear hM6 hE6 M7 hput hM7 hz7 ho7 ht7 hu7 hk7
    generalize hzz : pathB row a b = z at *
    have HZZ := hide hzz
    clear hzz
    go_wp2_with fail
    go_ret
    exact ⟨by rw [HZZ.out]; rfl, HM7.out, E7.out⟩

/-- The answers that were given are the ones that are kept. -/
theorem above_any (row : List ByteArray) (S : List Tm) (rk m : Nat) (hS : S.length < 9000000000000000000) : ∀ N, AboveOK row S rk m N
  | 0 => fun a b va vb w X hN _ _ _ _ => by have := size_pos a; omega
  | N + 1 => by
    have IH := hide (above_any row S rk m hS N)
    intro a b va vb w X hN hX hP ha hb
    exact above_step hS IH a b va vb w X hN hX hP ha hb
#print axioms above_any
end Go.Proofs.Ytccbocefgoccdaa
