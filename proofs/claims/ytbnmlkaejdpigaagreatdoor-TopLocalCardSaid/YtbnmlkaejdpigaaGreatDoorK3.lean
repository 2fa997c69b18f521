import Derived.Test.YtbnmlkaejdpigaaGreatDoorK2
import Derived.Test.YtbnmlkaejdpigaaGreatDoorZCTopLocalOwn
import Derived.Test.YtbnmlkaejdpigaaGreatDoorZTopLocalOwn
import Derived.Deep.LoopGhost
namespace Go.Proofs.YtbnmlkaejdpigaaGreatDoor
open Go.RowKit
set_option linter.unusedSimpArgs false
set_option linter.unusedVariables false
set_option maxRecDepth 8000
def PX (w : World) (X : Nat → Prop) (b o : Nat) (t : Tm) : Prop := PtT w X b o t ∧ X b
theorem PX.exq {w w' : World} {X Q : Nat → Prop} {b o : Nat} {t : Tm} (h : PX w X b o t) (he : ExQ Q w w') (hX : ∀ b, X b → ¬ Q b) : PX w' X b o t := by
 obtain ⟨⟨a, c, h1, h2, h3, h4⟩, h5⟩ := h
 have e := he.block b h4 (hX b h5)
 exact ⟨⟨a, c, (World.cell?_of_block e).trans h1, (World.cell?_of_block e).trans h2, h3.exq he hX, Nat.lt_of_lt_of_le h4 he.size⟩, h5⟩
theorem PX.sub {w : World} {X : Nat → Prop} {b o : Nat} {t : Tm} (h : PX w X b o t) : ∃ a c, w.cell? ⟨b, o + 1, none⟩ = some (.slice a t.args.length c) ∧ t.args.length ≤ 9223372036854775807 ∧ ∀ k (hk : k < t.args.length), ∃ b' o', a = some ⟨b', o', none⟩ ∧ PX w X b' (o' + k * 2) t.args[k] := by
 obtain ⟨⟨a, c, h1, h2, h3, h4⟩, _⟩ := h
 refine ⟨a, c, h2, h3.1, fun k hk => ?_⟩
 obtain ⟨b', o', a', c', rfl, d0, d1, hx⟩ := h3.get (Below.refl _ _) (fun _ _ h => h) k hk
 obtain ⟨a2, c2, e2, hx⟩ := hx
 cases e2
 have hX : X b' := by
  obtain ⟨_, h1⟩ := h3
  rcases h1 with h1 | ⟨b2, o2, e', h1⟩
  ·rw [h1] at hk; simp at hk
  ·cases e'; exact (lies_get _ _ _ h1 k hk).1
 exact ⟨b', o', rfl, ⟨a', c', d0, d1, hx, cell_lt d0⟩, hX⟩
def ptZ (z : Zp) : ByteArray × Value := (z.nm, .pointer (some ⟨z.b, z.o, none⟩))
def SkS (w : World) (S q : Nat) (X : Nat → Prop) (Z : List Zp) (left : Int) : Prop :=
 Blk w S #[.map (some q), .int .i64 left] 121 ∧ MapAt w q (Z.map ptZ) ∧ (∀ z ∈ Z, PX w X z.b z.o z.t) ∧ ∀ b, X b → b ≠ S ∧ b ≠ q
def SkQ (S q : Nat) : Nat → Prop := fun b => b = S ∨ b = q
theorem SkS.ne {w : World} {S q : Nat} {X : Nat → Prop} {Z : List Zp} {left : Int} (h : SkS w S q X Z left) : S ≠ q := fun e => by
 obtain ⟨es, clk, h1, _⟩ := h.2.1
 have h2 := h.1
 unfold Blk at h2
 rw [e, h1] at h2; cases h2
theorem SkS.X {w : World} {S q : Nat} {X : Nat → Prop} {Z : List Zp} {left : Int} (h : SkS w S q X Z left) : ∀ b, X b → ¬ SkQ S q b := fun b hb hq => by
 rcases hq with e | e
 ·exact (h.2.2.2 b hb).1 e
 ·exact (h.2.2.2 b hb).2 e
theorem SkS.later {w w' : World} {S q : Nat} {X : Nat → Prop} {Z : List Zp} {left : Int} (h : SkS w S q X Z left) (hb : Below w.heap.size w w') : SkS w' S q X Z left :=
 ⟨h.1.below hb h.1.lt, h.2.1.below hb h.2.1.lt, fun z hz => (h.2.2.1 z hz).exq (ExQ.ofBelow (Q := SkQ S q) hb) h.X, h.2.2.2⟩
theorem SkS.spend {w : World} {S q : Nat} {X : Nat → Prop} {Z : List Zp} {left : Int} (h : SkS w S q X Z left) (n : Int) : SkS (w.setCell ⟨S, 1, none⟩ (.int .i64 n)) S q X Z n :=
 ⟨by have := h.1.set 1 (.int .i64 n); simpa using this, h.2.1.kept (Below.heap_setCell _ _ _ _ (by simpa using h.ne.symm)), fun z hz => (h.2.2.1 z hz).exq ((ExQ.refl (SkQ S q) w).set (Or.inl rfl) 1 _) h.X, h.2.2.2⟩
theorem mapGet_ptZ {Z : List Zp} {n : ByteArray} : (mapGet (Z.map ptZ) n = none ∧ ∀ z ∈ Z, z.nm ≠ n) ∨ ∃ z ∈ Z, z.nm = n ∧ mapGet (Z.map ptZ) n = some (.pointer (some ⟨z.b, z.o, none⟩)) := by
 induction Z with
 | nil => exact Or.inl ⟨rfl, by simp⟩
 | cons y r ih =>
  by_cases hn : y.nm = n
  ·exact Or.inr ⟨y, by simp, hn, by simp [mapGet, ptZ, hn]⟩
  ·rcases ih with ⟨h1, h2⟩ | ⟨z, hz, h1, h2⟩
   ·refine Or.inl ⟨by rw [List.map_cons, mapGet, if_neg (by simpa [ptZ] using hn)]; exact h1, fun z hz => ?_⟩
    rcases List.mem_cons.1 hz with rfl | hz
    ·exact hn
    ·exact h2 z hz
   ·exact Or.inr ⟨z, by simp [hz], h1, by rw [List.map_cons, mapGet, if_neg (by simpa [ptZ] using hn)]; exact h2⟩
def LkP (w : World) (S q : Nat) (X : Nat → Prop) (Z : List Zp) (left : Int) (t : Tm) (e : Ending) (w' : World) : Prop :=
 ∃ (b o : Nat) (t' : Tm) (n : Int), e = .returned (.pointer (some ⟨b, o, none⟩)) ∧ SkS w' S q X Z n ∧ PX w' X b o t' ∧ ExQ (SkQ S q) w w' ∧ n ≤ left ∧ (-1 ≤ n ∨ n = left) ∧ errL [t'] = 0 ∧ ∀ s, Clo Z s → onT s t' = onT s t ∧ (0 ≤ n → Free s t')
def LkI (w : World) (S q : Nat) (X : Nat → Prop) (Z : List Zp) (left : Int) (t : Tm) (g : Nat) (tv : Value) (wr : World) : Prop :=
 ∃ (b o : Nat) (t' : Tm) (n : Int), g = (n + 1).toNat ∧ tv = .pointer (some ⟨b, o, none⟩) ∧ SkS wr S q X Z n ∧ PX wr X b o t' ∧ ExQ (SkQ S q) w wr ∧ n ≤ left ∧ (-1 ≤ n ∨ n = left) ∧ errL [t'] = 0 ∧ ∀ s, Clo Z s → onT s t' = onT s t
set_option maxHeartbeats 1000000 in
theorem skLook_any (S q : Nat) (X : Nat → Prop) (Z : List Zp) (hZ : ∀ z ∈ Z, errL [z.t] = 0) (left : Int) (t : Tm) (b o : Nat) (w : World) (hS : SkS w S q X Z left) (hl : -100 ≤ left) (hl2 : left ≤ 100000) (ht : PX w X b o t) (he : errL [t] = 0) :
  Calls Tryz.prog 98 #[.pointer (some ⟨S, 0, none⟩), .pointer (some ⟨b, o, none⟩)] w fun e w' => LkP w S q X Z left t e w' := by
 have HS := hide hS
 have HT := hide ht
 have HE := hide he
 clear hS ht
 go_enter Tryz.func98, Tryz.ntmps98
 go_wp2_with fail
 go_loopg [1] (left + 1).toNat (fun g tv wr => LkI w S q X Z left t g tv wr)
 case atStart => exact ⟨b, o, t, left, rfl, rfl, HS.out, HT.out, ExQ.refl _ _, Int.le_refl _, Or.inr rfl, HE.out, fun _ _ => rfl⟩
 case round =>
  obtain ⟨b1, o1, t1, n, rfl, rfl, hS1, hP1, hE1, hn1, hn2, he1, hc1⟩ := hrel
  have HS1 := hide hS1
  have HP1 := hide hP1
  have HE1 := hide hE1
  have HC1 := hide hc1
  have s1 : wr.cell? ⟨S, 1, none⟩ = some (.int .i64 n) := hS1.1.cell 1
  have s0 := hS1.1.c0
  obtain ⟨⟨a1, c1, p0, p1, hsl, hbl⟩, hXb⟩ := hP1
  clear hS1 hE1 hc1
  by_cases hn0 : 0 ≤ n
  ·cases hvb : varB t1.name with
   | false =>
    have HF : Hid (∀ s, Clo Z s → onT s t1 = onT s t ∧ (0 ≤ n → Free s t1)) := fun s hs => ⟨HC1.out s hs, fun _ => ⟨he1, fun h => by rw [hvb] at h; cases h⟩⟩
    go_wp2_with (go_at_call 36; refine (isVariable_all _ _).mono ?_; rintro e wr ⟨rfl, rfl⟩; rw [hvb])
    refine bodyPost_ret (v := .pointer (some ⟨b1, o1, none⟩)) (by simp [results, Tryz.results98, go_sem]) rfl ?_
    exact ⟨b1, o1, t1, n, rfl, HS1.out, HP1.out, HE1.out, hn1, hn2, he1, HF.out⟩
   | true =>
    have hz : ∀ w', (zeroValue 123).run Tryz.prog w' = .ok (.pointer none) w' := fun w' => Tryz.zeroValue123 w'
    have HS0 := hide (And.intro s0 p0)
    rcases mapGet_ptZ (Z := Z) (n := t1.name) with ⟨hg, hno⟩ | ⟨z, hz1, hzn, hg⟩
    ·have HF : Hid (∀ s, Clo Z s → onT s t1 = onT s t ∧ (0 ≤ n → Free s t1)) := fun s hs => ⟨HC1.out s hs, fun _ => ⟨he1, fun _ => hs.unbound hno⟩⟩
     have hlk : (Instr.lookup 119 (.map (some q)) (.string t1.name) true).run Tryz.prog wr.drew = .ok (.tuple #[.pointer none, .bool false]) wr.drew := by
      rw [run_look (P := Tryz.prog) Tryz.underlying119 Tryz.underlying9 (hz _) (show MapAt wr.drew q (Z.map ptZ) from HS1.out.2.1) t1.name, hg]; rfl
     clear hg hno
     go_wp2_with (go_at_call 36; refine (isVariable_all _ _).mono ?_; rintro e wr ⟨rfl, rfl⟩; rw [hvb])
     go_region_held3 (fun w' => w'.cell? ⟨S, 0, none⟩ = some (.map (some q)) ∧ w'.cell? ⟨b1, o1, none⟩ = some (.string t1.name)) (first | exact HS0.out | go_keep) (fail)
     go_wp2_with fail
     refine bodyPost_ret (v := .pointer (some ⟨b1, o1, none⟩)) (by simp [results, Tryz.results98, go_sem]) rfl ?_
     have hD : Below wr.heap.size wr wr.drew := (Below.refl _ _).drew
     exact ⟨b1, o1, t1, n, rfl, HS1.out.later hD, HP1.out.exq (ExQ.ofBelow (Q := SkQ S q) hD) HS1.out.X, HE1.out.drew, hn1, hn2, he1, HF.out⟩
    ·have HF : Hid (∀ s, Clo Z s → onT s z.t = onT s t) := fun s hs => (hs.stands he1 hvb hz1 hzn).trans (HC1.out s hs)
     have HZ1 := hide hz1
     have hlk : (Instr.lookup 119 (.map (some q)) (.string t1.name) true).run Tryz.prog wr.drew = .ok (.tuple #[.pointer (some ⟨z.b, z.o, none⟩), .bool true]) wr.drew := by
      rw [run_look (P := Tryz.prog) Tryz.underlying119 Tryz.underlying9 (hz _) (show MapAt wr.drew q (Z.map ptZ) from HS1.out.2.1) t1.name, hg]; rfl
     have s1' : wr.drew.cell? ⟨S, 1, none⟩ = some (.int .i64 n) := s1
     have f1' : wr.drew.frozen? ⟨S, 1, none⟩ = false := HS1.out.1.frozen 1
     clear hg hz1 hzn
     go_wp2_with (go_at_call 36; refine (isVariable_all _ _).mono ?_; rintro e wr ⟨rfl, rfl⟩; rw [hvb])
     go_region_held3 (fun w' => w'.cell? ⟨S, 0, none⟩ = some (.map (some q)) ∧ w'.cell? ⟨b1, o1, none⟩ = some (.string t1.name)) (first | exact HS0.out | go_keep) (fail)
     have hwrap : IntKind.i64.wrap (n - 1) = n - 1 := by rw [IntKind.wrap_i64]; omega
     go_wp2_with fail
     have hD : Below wr.heap.size wr wr.drew := (Below.refl _ _).drew
     have hE2 : ExQ (SkQ S q) wr (wr.setCell ⟨S, 1, none⟩ (.int .i64 (n - 1))).drew := ((ExQ.refl (SkQ S q) wr).set (Or.inl rfl) 1 _).drew
     go_roundg ((n - 1) + 1).toNat
     case rel => exact ⟨z.b, z.o, z.t, n - 1, rfl, rfl, (HS1.out.spend (n - 1)).later ((Below.refl _ _).drew), (HS1.out.2.2.1 z HZ1.out).exq hE2 HS1.out.X, HE1.out.trans hE2, by omega, by omega, hZ z HZ1.out, HF.out⟩
     case measure => omega
  ·go_wp2_with fail
   refine bodyPost_ret (v := .pointer (some ⟨b1, o1, none⟩)) (by simp [results, Tryz.results98, go_sem]) rfl ?_
   exact ⟨b1, o1, t1, n, rfl, HS1.out, HP1.out, HE1.out, hn1, hn2, he1, fun s hs => ⟨HC1.out s hs, fun h => absurd h (by omega)⟩⟩
end Go.Proofs.YtbnmlkaejdpigaaGreatDoor
