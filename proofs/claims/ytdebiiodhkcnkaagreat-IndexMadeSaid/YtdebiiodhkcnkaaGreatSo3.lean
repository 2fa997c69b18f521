import Derived.Test.YtdebiiodhkcnkaaGreatZCIndexMadeOwn
import Derived.Test.YtdebiiodhkcnkaaGreatW111
namespace Go.Proofs.YtdebiiodhkcnkaaGreat
open Go.RowKit
set_option linter.unusedSimpArgs false
set_option linter.unusedVariables false
set_option maxRecDepth 8000
def PtC (ta tb : Tm) (s1 : ByteArray) (a1 : Option Addr) (n1 : Nat) (s2 : ByteArray) (a2 : Option Addr) (n2 : Nat) (ok f' : Bool) (Z : Nat → Prop) (w' : World) : Prop :=
 (ok = true ∧ f' = false ∧ s1 = ta.name ∧ n1 = ta.args.length ∧ s2 = tb.name ∧ n2 = tb.args.length ∧ sizeL [ta] ≤ 2000 ∧ sizeL [tb] ≤ 2000 ∧ Sl w' Z a1 ta.args ∧ Sl w' Z a2 tb.args) ∨ (ok = false ∧ (f' = true ∨ 2000 < sizeL [ta] ∨ 2000 < sizeL [tb]))
def PtPost (S q : Nat) (td : Value) (h : List (ByteArray × Tm)) (ta tb : Tm) (X Y : Nat → Prop) (w : World) (e : Ending) (w' : World) : Prop :=
 ∃ (s1 : ByteArray) (a1 : Option Addr) (n1 c1 : Nat) (s2 : ByteArray) (a2 : Option Addr) (n2 c2 : Nat) (ok f' : Bool) (Y' : Nat → Prop), e = .returned (.tuple #[.agg #[.string s1, .slice a1 n1 c1], .agg #[.string s2, .slice a2 n2 c2], .bool ok]) ∧ SolE S q td h f' Y' w' ∧ (∀ b, Y' b → Y b ∨ w.heap.size ≤ b) ∧ ExQ (SolM S q) w w' ∧ PtC ta tb s1 a1 n1 s2 a2 n2 ok f' (fun b => (X b ∧ b < w.heap.size) ∨ w.heap.size ≤ b) w'
theorem drew_heap (w : World) : w.drew.heap = w.heap := rfl
theorem set6 {w : World} {c1 c2 c3 c4 c5 c6 o1 o2 o3 o4 o5 o6 : Nat} {v1 v2 v3 v4 v5 v6 : Value} {b : Nat} (h1 : b ≠ c1) (h2 : b ≠ c2) (h3 : b ≠ c3) (h4 : b ≠ c4) (h5 : b ≠ c5) (h6 : b ≠ c6) :
  ((((((w.setCell ⟨c1, o1, none⟩ v1).setCell ⟨c2, o2, none⟩ v2).setCell ⟨c3, o3, none⟩ v3).setCell ⟨c4, o4, none⟩ v4).setCell ⟨c5, o5, none⟩ v5).setCell ⟨c6, o6, none⟩ v6).drew.heap[b]? = w.heap[b]? := by
 rw [drew_heap]
 rw [Below.heap_setCell _ _ _ _ (by simpa using h6), Below.heap_setCell _ _ _ _ (by simpa using h5), Below.heap_setCell _ _ _ _ (by simpa using h4), Below.heap_setCell _ _ _ _ (by simpa using h3), Below.heap_setCell _ _ _ _ (by simpa using h2), Below.heap_setCell _ _ _ _ (by simpa using h1)]
theorem set6x {Q : Nat → Prop} {a w : World} {c1 c2 c3 c4 c5 c6 o1 o2 o3 o4 o5 o6 : Nat} {v1 v2 v3 v4 v5 v6 : Value} (h : ExQ Q a w) (h1 : a.heap.size ≤ c1) (h2 : a.heap.size ≤ c2) (h3 : a.heap.size ≤ c3) (h4 : a.heap.size ≤ c4) (h5 : a.heap.size ≤ c5) (h6 : a.heap.size ≤ c6) :
  ExQ Q a ((((((w.setCell ⟨c1, o1, none⟩ v1).setCell ⟨c2, o2, none⟩ v2).setCell ⟨c3, o3, none⟩ v3).setCell ⟨c4, o4, none⟩ v4).setCell ⟨c5, o5, none⟩ v5).setCell ⟨c6, o6, none⟩ v6).drew :=
 ((((((h.setNew h1 _ _).setNew h2 _ _).setNew h3 _ _).setNew h4 _ _).setNew h5 _ _).setNew h6 _ _).drew
set_option maxHeartbeats 1000000 in
theorem put_any2 (S q : Nat) (td : Value) (h : List (ByteArray × Tm)) (g : GoodH h) (hN : NamesH h) (p : Pr) (he : errL [p.l] = 0 ∧ errL [p.r] = 0) (j : Nat) (hj : j ≤ h.length) (hid : j = h.length → (onT (sAt h) p.l = p.l ∧ onT (sAt h) p.r = p.r)) (hsz : sizeL [p.l] ≤ 2000 ∧ sizeL [p.r] ≤ 2000) (a1 : Option Addr) (c1 : Nat) (a2 : Option Addr) (c2 : Nat) (w : World) (X Y : Nat → Prop) (hXM : ∀ b, X b → ¬ SolM S q b) (hs1 : Sl w X a1 p.l.args) (hs2 : Sl w X a2 p.r.args) (hEv : SolE S q td h false Y w) :
  Calls Tryz.prog 108 #[.pointer (some ⟨S, 0, none⟩), .agg #[.string p.l.name, .slice a1 p.l.args.length c1, .string p.r.name, .slice a2 p.r.args.length c2, .int .i64 (j : Int)]] w fun e w' => PtPost S q td h (onT (sAt h) p.l) (onT (sAt h) p.r) X Y w e w' := by
 have HS1 := hide hs1
 have HS2 := hide hs2
 have HE := hide hEv
 have HXM := hide hXM
 have HID := hide hid
 have HSZ := hide hsz
 obtain ⟨⟨L, hB, hM, hSt⟩, hYS, hYq, hY, hg⟩ := hEv
 have hSl := hB.lt
 have hml := hM.lt
 have HY := hide hY
 have hln : Hid (L.length = h.length) := hSt.1
 have HMM := hide hM
 have HB := hide hB
 clear hs1 hs2 hXM hid hsz hSt hg hY hM
 have s1 : ∀ o o' o'', (((w.alloc o).alloc o').alloc o'').cell? ⟨S, 1, none⟩ = some (.map (some q)) := fun o o' o'' => (((hB.alloc o).alloc o').alloc o'').cell 1
 have hlen : ∀ o o' o'', Sem.run Tryz.prog (Builtin.len_ #[121] 3 #[.map (some q)]) (((w.alloc o).alloc o').alloc o'').drew = .ok (.int .i64 (h.length : Int)) (((w.alloc o).alloc o').alloc o'').drew := fun o o' o'' => by
  have h1 : MapAt (((w.alloc o).alloc o').alloc o'').drew q L := HMM.out.below (((((Below.refl w.heap.size w).alloc (Nat.le_refl _) o).alloc (by simp) o').alloc (by simp; omega) o'').drew) hml
  rw [run_len Tryz.underlying121 h1, hln.out]
 clear hB
 by_cases hjl : j = h.length
 ·have hje : ((j : Int) == (h.length : Int)) = true := by rw [hjl]; simp
  have HI := hide (HID.out hjl)
  have HJ := hide hjl
  clear hjl
  go_enter Tryz.func108, Tryz.ntmps108
  go_wp2_with fail
  go_region
  go_wp2_with fail
  go_region
  all_goals go_wp2_with fail
  all_goals
   refine bodyPost_ret (v := .tuple #[.agg #[.string p.l.name, .slice a1 p.l.args.length c1], .agg #[.string p.r.name, .slice a2 p.r.args.length c2], .bool true]) (by simp [results, Tryz.results108, go_sem]) rfl ?_
   have hBw : Below w.heap.size w (((w.alloc (.cells #[.string p.l.name, .slice a1 p.l.args.length c1, .string p.r.name, .slice a2 p.r.args.length c2, .int .i64 (j : Int)] 129)).alloc (.cells #[.string p.l.name, .slice a1 p.l.args.length c1] 26)).alloc (.cells #[.string p.r.name, .slice a2 p.r.args.length c2] 26)).drew.drew := (((((Below.refl w.heap.size w).alloc (Nat.le_refl _) _).alloc (by simp) _).alloc (by simp; omega) _).drew).drew
   exact ⟨p.l.name, a1, p.l.args.length, c1, p.r.name, a2, p.r.args.length, c2, true, false, Y, rfl, (solE_ok S q td h).below HE.out hBw, fun b hb => Or.inl hb, ExQ.ofBelow hBw, Or.inl ⟨rfl, rfl, by rw [HI.out.1], by rw [HI.out.1], by rw [HI.out.2], by rw [HI.out.2], by rw [HI.out.1]; exact HSZ.out.1, by rw [HI.out.2]; exact HSZ.out.2, by rw [HI.out.1]; exact (HS1.out.mono (Y := fun b => X b ∧ b < w.heap.size) fun b h1 h2 => ⟨h1, h2⟩).later hBw |>.mono fun b hb _ => Or.inl hb, by rw [HI.out.2]; exact (HS2.out.mono (Y := fun b => X b ∧ b < w.heap.size) fun b h1 h2 => ⟨h1, h2⟩).later hBw |>.mono fun b hb _ => Or.inl hb⟩⟩
 ·have hje : ((j : Int) == (h.length : Int)) = false := beq_eq_false_iff_ne.2 (by omega)
  clear hjl HID
  have HSX1 := hide (HS1.out.mono (Y := fun b => X b ∧ b < w.heap.size) fun b h1 h2 => ⟨h1, h2⟩)
  have HSX2 := hide (HS2.out.mono (Y := fun b => X b ∧ b < w.heap.size) fun b h1 h2 => ⟨h1, h2⟩)
  have HB3 : Hid (Below w.heap.size w (((w.alloc (.cells #[.string p.l.name, .slice a1 p.l.args.length c1, .string p.r.name, .slice a2 p.r.args.length c2, .int .i64 (j : Int)] 129)).alloc (.cells #[.string ⟨#[]⟩, .slice none 0 0] 26)).alloc (.cells #[.string ⟨#[]⟩, .slice none 0 0] 26)).drew) := ((((Below.refl w.heap.size w).alloc (Nat.le_refl _) _).alloc (by simp) _).alloc (by simp; omega) _).drew
  have Q3 : Hid (Blk (((w.alloc (.cells #[.string p.l.name, .slice a1 p.l.args.length c1, .string p.r.name, .slice a2 p.r.args.length c2, .int .i64 (j : Int)] 129)).alloc (.cells #[.string ⟨#[]⟩, .slice none 0 0] 26)).alloc (.cells #[.string ⟨#[]⟩, .slice none 0 0] 26)).drew w.heap.size #[.string p.l.name, .slice a1 p.l.args.length c1, .string p.r.name, .slice a2 p.r.args.length c2, .int .i64 (j : Int)] 129) := ((Blk.new w _ _).alloc _).alloc _
  have A3 : Hid (Blk (((w.alloc (.cells #[.string p.l.name, .slice a1 p.l.args.length c1, .string p.r.name, .slice a2 p.r.args.length c2, .int .i64 (j : Int)] 129)).alloc (.cells #[.string ⟨#[]⟩, .slice none 0 0] 26)).alloc (.cells #[.string ⟨#[]⟩, .slice none 0 0] 26)).drew (w.heap.size + 1) #[.string ⟨#[]⟩, .slice none 0 0] 26) := by
   have h1 := (Blk.new (w.alloc (.cells #[.string p.l.name, .slice a1 p.l.args.length c1, .string p.r.name, .slice a2 p.r.args.length c2, .int .i64 (j : Int)] 129)) #[.string ⟨#[]⟩, .slice none 0 0] 26).alloc (.cells #[.string ⟨#[]⟩, .slice none 0 0] 26)
   rw [World.size_alloc] at h1
   exact h1
  have B3 : Hid (Blk (((w.alloc (.cells #[.string p.l.name, .slice a1 p.l.args.length c1, .string p.r.name, .slice a2 p.r.args.length c2, .int .i64 (j : Int)] 129)).alloc (.cells #[.string ⟨#[]⟩, .slice none 0 0] 26)).alloc (.cells #[.string ⟨#[]⟩, .slice none 0 0] 26)).drew (w.heap.size + 1 + 1) #[.string ⟨#[]⟩, .slice none 0 0] 26) := by
   have h1 := Blk.new ((w.alloc (.cells #[.string p.l.name, .slice a1 p.l.args.length c1, .string p.r.name, .slice a2 p.r.args.length c2, .int .i64 (j : Int)] 129)).alloc (.cells #[.string ⟨#[]⟩, .slice none 0 0] 26)) #[.string ⟨#[]⟩, .slice none 0 0] 26
   rw [World.size_alloc, World.size_alloc] at h1
   exact h1
  have z3 : (((w.alloc (.cells #[.string p.l.name, .slice a1 p.l.args.length c1, .string p.r.name, .slice a2 p.r.args.length c2, .int .i64 (j : Int)] 129)).alloc (.cells #[.string ⟨#[]⟩, .slice none 0 0] 26)).alloc (.cells #[.string ⟨#[]⟩, .slice none 0 0] 26)).drew.heap.size = w.heap.size + 3 := by simp
  go_enter Tryz.func108, Tryz.ntmps108
  go_wp2_with fail
  go_region
  go_wp2_with fail
  generalize (((w.alloc (.cells #[.string p.l.name, .slice a1 p.l.args.length c1, .string p.r.name, .slice a2 p.r.args.length c2, .int .i64 (j : Int)] 129)).alloc (.cells #[.string ⟨#[]⟩, .slice none 0 0] 26)).alloc (.cells #[.string ⟨#[]⟩, .slice none 0 0] 26)).drew = w3 at *
  refine (ufill_any S q td h g hN p.l he.1 a1 c1 w3 _ Y false (fun b hb => HXM.out b hb.1) (HSX1.out.later HB3.out) ((solE_ok S q td h).below HE.out HB3.out)).mono ?_
  rintro e w4 ⟨y, ya, yc, ok, f', Y', rfl, hE4, hsub, hff, hx, hsl, hk1, hk2⟩
  have hmn : ∀ b, SolM S q b → b < w.heap.size := fun b hb => by rcases hb with rfl | rfl; exact hSl; exact hml
  have HX4 : Hid (ExQ (SolM S q) w w4) := (ExQ.ofBelow HB3.out).trans hx
  have Q4 := hide (Q3.out.exq hx (fun h => by have := hmn _ h; omega))
  have A4 := hide (A3.out.exq hx (fun h => by have := hmn _ h; omega))
  have B4 := hide (B3.out.exq hx (fun h => by have := hmn _ h; omega))
  have HZ4 : Hid (w.heap.size + 3 ≤ w4.heap.size) := by have := hx.size; unfold Hid; omega
  have HSUB : Hid (∀ b, Y' b → Y b ∨ w.heap.size + 3 ≤ b) := fun b hb => (hsub b hb).imp id fun h => by omega
  have HE4 := hide hE4
  have HSL4 : Hid (Sl w4 (fun b => w.heap.size + 3 ≤ b ∧ b < w4.heap.size) ya y.args) := hsl.mono fun b hb h2 => ⟨by omega, h2⟩
  have HK1 := hide hk1
  have HK2 := hide hk2
  have HMN := hide hmn
  clear hsub hx hsl hk1 hk2 hE4 hff hmn
  have q2 := Q4.out.c2
  have q3 := Q4.out.c3
  have x0 := A4.out.c0
  have x1 := A4.out.c1
  have xf := A4.out.frozen
  have y0 := B4.out.c0
  have y1 := B4.out.c1
  cases ok with
  | true =>
   obtain ⟨rfl, hyT, hyz⟩ := HK1.out rfl
   have HYT := hide hyT
   have HYZ := hide hyz
   clear hyT hyz HK1 HK2
   have hk5 : ∀ b, b ≠ w.heap.size + 1 → ((w4.setCell ⟨w.heap.size + 1, 0, none⟩ (.string y.name)).setCell ⟨w.heap.size + 1, 1, none⟩ (.slice ya y.args.length yc)).heap[b]? = w4.heap[b]? := fun b hb => by
    rw [Below.heap_setCell _ _ _ _ (by simpa using hb), Below.heap_setCell _ _ _ _ (by simpa using hb)]
   have A5 : Hid (Blk ((w4.setCell ⟨w.heap.size + 1, 0, none⟩ (.string y.name)).setCell ⟨w.heap.size + 1, 1, none⟩ (.slice ya y.args.length yc)) (w.heap.size + 1) #[.string y.name, .slice ya y.args.length yc] 26) := by
    have := (A4.out.set 0 (.string y.name)).set 1 (.slice ya y.args.length yc)
    unfold Hid
    simpa using this
   have B5 := hide ((B4.out.setOther (b' := w.heap.size + 1) 0 (.string y.name) (by omega)).setOther (b' := w.heap.size + 1) 1 (.slice ya y.args.length yc) (by omega))
   have HE5 := hide ((solE_ok S q td h).keep _ _ _ _ HE4.out fun b hb => hk5 b (fun e => by rcases HSUB.out b hb with h1 | h1; have := HY.out b h1; omega; omega))
   have HX5 := hide ((HX4.out.setNew (b := w.heap.size + 1) (by omega) 0 (.string y.name)).setNew (b := w.heap.size + 1) (by omega) 1 (.slice ya y.args.length yc))
   have HSL5 := hide (HSL4.out.kept fun b hb => hk5 b (by omega))
   have HSX5 : Hid (Sl ((w4.setCell ⟨w.heap.size + 1, 0, none⟩ (.string y.name)).setCell ⟨w.heap.size + 1, 1, none⟩ (.slice ya y.args.length yc)) (fun b => X b ∧ b < w.heap.size) a2 p.r.args) := HSX2.out.exq HX5.out (fun b hb => HXM.out b hb.1)
   have hz5 : ((w4.setCell ⟨w.heap.size + 1, 0, none⟩ (.string y.name)).setCell ⟨w.heap.size + 1, 1, none⟩ (.slice ya y.args.length yc)).heap.size = w4.heap.size := by simp [World.setCell]
   go_wp2_with fail
   clear x0 x1 y0 y1 q2 q3 hk5 xf
   generalize ((w4.setCell ⟨w.heap.size + 1, 0, none⟩ (.string y.name)).setCell ⟨w.heap.size + 1, 1, none⟩ (.slice ya y.args.length yc)) = w5 at *
   refine (ufill_any S q td h g hN p.r he.2 a2 c2 w5 _ Y' false (fun b hb => HXM.out b hb.1) HSX5.out HE5.out).mono ?_
   rintro e w6 ⟨y2, ya2, yc2, ok, f', Y2, rfl, hE6, hsub, hff, hx, hsl, hk1, hk2⟩
   have HX6 : Hid (ExQ (SolM S q) w w6) := HX5.out.trans hx
   have A6 := hide (A5.out.exq hx (fun h => by have := HMN.out _ h; omega))
   have B6 := hide (B5.out.exq hx (fun h => by have := HMN.out _ h; omega))
   have HZ6 : Hid (w4.heap.size ≤ w6.heap.size) := by have := hx.size; unfold Hid; omega
   have HSUB6 : Hid (∀ b, Y2 b → Y b ∨ w.heap.size + 3 ≤ b) := fun b hb => by
    rcases hsub b hb with h1 | h1
    ·exact HSUB.out b h1
    ·have := HZ4.out; right; omega
   have HE6 := hide hE6
   have HSL6 : Hid (Sl w6 (fun b => w.heap.size + 3 ≤ b) ya y.args) := (HSL5.out.exq hx (fun b hb h => by have := HMN.out _ h; omega)).mono fun b hb _ => hb.1
   have HSL7 : Hid (Sl w6 (fun b => w.heap.size + 3 ≤ b) ya2 y2.args) := hsl.mono fun b hb h2 => by have := HZ4.out; omega
   have HCC : Hid (∀ W : World, Sl W (fun b => w.heap.size + 3 ≤ b) ya y.args → Sl W (fun b => w.heap.size + 3 ≤ b) ya2 y2.args → PtC (onT (sAt h) p.l) (onT (sAt h) p.r) y.name ya y.args.length y2.name ya2 y2.args.length ok f' (fun b => (X b ∧ b < w.heap.size) ∨ w.heap.size ≤ b) W) := fun W g1 g2 => by
    cases ok with
    | true =>
     obtain ⟨e1, e2, e3⟩ := hk1 rfl
     exact Or.inl ⟨rfl, e1, by rw [HYT.out], by rw [HYT.out], by rw [e2], by rw [e2], by rw [← HYT.out]; exact HYZ.out, by rw [← e2]; exact e3, by rw [← HYT.out]; exact g1.mono fun b hb _ => Or.inr (by omega), by rw [← e2]; exact g2.mono fun b hb _ => Or.inr (by omega)⟩
    | false =>
     rcases hk2 rfl with h1 | h1
     ·exact Or.inr ⟨rfl, Or.inl h1⟩
     ·exact Or.inr ⟨rfl, Or.inr (Or.inr h1)⟩
   clear hsub hx hsl hk1 hk2 hE6 hff
   have x0 := A6.out.c0
   have x1 := A6.out.c1
   have xf := A6.out.frozen
   have y0 := B6.out.c0
   have y1 := B6.out.c1
   have yf := B6.out.frozen
   have hnb : ∀ b, (Y2 b ∨ w.heap.size + 3 ≤ b) → b ≠ w.heap.size + 1 ∧ b ≠ w.heap.size + 1 + 1 := fun b hb => by
    have h1 : Y b ∨ w.heap.size + 3 ≤ b := hb.elim (HSUB6.out b) Or.inr
    rcases h1 with h1 | h1
    ·have := HY.out b h1; omega
    ·omega
   have HNB := hide hnb
   clear hnb
   have FA := hide ((((((A6.out.setOther (b' := w.heap.size + 1 + 1) 0 (.string y2.name) (by omega)).setOther (b' := w.heap.size + 1 + 1) 1 (.slice ya2 y2.args.length yc2) (by omega)).set 0 (.string y.name)).set 1 (.slice ya y.args.length yc)).setOther (b' := w.heap.size + 1 + 1) 0 (.string y2.name) (by omega)).setOther (b' := w.heap.size + 1 + 1) 1 (.slice ya2 y2.args.length yc2) (by omega))
   have FB := hide ((((((B6.out.set 0 (.string y2.name)).set 1 (.slice ya2 y2.args.length yc2)).setOther (b' := w.heap.size + 1) 0 (.string y.name) (by omega)).setOther (b' := w.heap.size + 1) 1 (.slice ya y.args.length yc) (by omega)).set 0 (.string y2.name)).set 1 (.slice ya2 y2.args.length yc2))
   have fa0 := FA.out.cell 0
   have fa1 := FA.out.cell 1
   have fb0 := FB.out.cell 0
   have fb1 := FB.out.cell 1
   simp only [List.setIfInBounds_toArray, List.set_cons_zero, List.set_cons_succ, List.getElem?_toArray, List.getElem?_cons_zero, List.getElem?_cons_succ] at fa0 fa1 fb0 fb1
   go_wp2_with fail
   go_region
   all_goals go_wp2_with fail
   all_goals
    refine bodyPost_ret (v := .tuple #[.agg #[.string y.name, .slice ya y.args.length yc], .agg #[.string y2.name, .slice ya2 y2.args.length yc2], .bool ok]) (by simp [results, Tryz.results108, go_sem, fa0, fa1, fb0, fb1]) rfl ?_
    refine ⟨y.name, ya, y.args.length, yc, y2.name, ya2, y2.args.length, yc2, ok, f', Y2, rfl, (solE_ok S q td h).keep _ _ _ _ HE6.out (fun b hb => set6 (HNB.out b (Or.inl hb)).2 (HNB.out b (Or.inl hb)).2 (HNB.out b (Or.inl hb)).1 (HNB.out b (Or.inl hb)).1 (HNB.out b (Or.inl hb)).2 (HNB.out b (Or.inl hb)).2), fun b hb => (HSUB6.out b hb).imp id fun h => by omega, set6x HX6.out (by omega) (by omega) (by omega) (by omega) (by omega) (by omega), HCC.out _ (HSL6.out.kept fun b hb => set6 (by omega) (by omega) (by omega) (by omega) (by omega) (by omega)) (HSL7.out.kept fun b hb => set6 (by omega) (by omega) (by omega) (by omega) (by omega) (by omega))⟩
  | false =>
   have yf := B4.out.frozen
   have HNB : Hid (∀ b, Y' b → b ≠ w.heap.size + 1 ∧ b ≠ w.heap.size + 1 + 1) := fun b hb => by
    rcases HSUB.out b hb with h1 | h1
    ·have := HY.out b h1; omega
    ·omega
   have HCC : Hid (f' = true ∨ 2000 < sizeL [onT (sAt h) p.l]) := HK2.out rfl
   clear HK1 HK2
   have FA := hide ((((((A4.out.set 0 (.string y.name)).set 1 (.slice ya y.args.length yc)).set 0 (.string y.name)).set 1 (.slice ya y.args.length yc)).setOther (b' := w.heap.size + 1 + 1) 0 (.string ⟨#[]⟩) (by omega)).setOther (b' := w.heap.size + 1 + 1) 1 (.slice none 0 0) (by omega))
   have FB := hide ((((((B4.out.setOther (b' := w.heap.size + 1) 0 (.string y.name) (by omega)).setOther (b' := w.heap.size + 1) 1 (.slice ya y.args.length yc) (by omega)).setOther (b' := w.heap.size + 1) 0 (.string y.name) (by omega)).setOther (b' := w.heap.size + 1) 1 (.slice ya y.args.length yc) (by omega)).set 0 (.string ⟨#[]⟩)).set 1 (.slice none 0 0))
   have fa0 := FA.out.cell 0
   have fa1 := FA.out.cell 1
   have fb0 := FB.out.cell 0
   have fb1 := FB.out.cell 1
   simp only [List.setIfInBounds_toArray, List.set_cons_zero, List.set_cons_succ, List.getElem?_toArray, List.getElem?_cons_zero, List.getElem?_cons_succ] at fa0 fa1 fb0 fb1
   go_wp2_with fail
   go_region
   all_goals go_wp2_with fail
   all_goals
    refine bodyPost_ret (v := .tuple #[.agg #[.string y.name, .slice ya y.args.length yc], .agg #[.string ⟨#[]⟩, .slice none 0 0], .bool false]) (by simp only [results, Tryz.results108]; simp [go_sem, fa0, fa1, fb0, fb1]) rfl ?_
    refine ⟨y.name, ya, y.args.length, yc, ⟨#[]⟩, none, 0, 0, false, f', Y', rfl, (solE_ok S q td h).keep _ _ _ _ HE4.out (fun b hb => set6 (HNB.out b hb).1 (HNB.out b hb).1 (HNB.out b hb).1 (HNB.out b hb).1 (HNB.out b hb).2 (HNB.out b hb).2), fun b hb => (HSUB.out b hb).imp id fun h => by omega, set6x HX4.out (by omega) (by omega) (by omega) (by omega) (by omega) (by omega), Or.inr ⟨rfl, ?_⟩⟩
    rcases HCC.out with h1 | h1
    ·exact Or.inl h1
    ·exact Or.inr (Or.inl h1)
theorem stood_snoc {h : List (ByteArray × Tm)} {p : ByteArray × Tm} {i j : Nat} (hi : i < h.length) (hi2 : i < (h ++ [p]).length) (hj : j ≤ h.length) : stood (h ++ [p]) i j hi2 = stood h i j hi := by
 unfold stood
 rw [List.take_append_of_le_length hj, List.getElem_append_left hi]
theorem stood_new {h : List (ByteArray × Tm)} {x : ByteArray} {t : Tm} (g : GoodH h) (m : MayAdd (sAt h) x t) (hi : h.length < (h ++ [(x, t)]).length) : stood (h ++ [(x, t)]) h.length (h.length + 1) hi = t := by
 have g2 := g.snoc m
 have h1 := forT_at g2 hi
 have e1 : (h ++ [(x, t)])[h.length].1 = x := by simp
 rw [e1] at h1
 have h2 : (h ++ [(x, t)]).length = h.length + 1 := by simp
 unfold stood
 rw [e1, show (h ++ [(x, t)]).take (h.length + 1) = h ++ [(x, t)] from List.take_of_length_le (by omega), sAt_snoc, add_val g.all.1 m.2.1 x]
 have h3 : forT (sAt h) x = none := by
  cases hf : forT (sAt h) x with
  | none => rfl
  | some u =>
   obtain ⟨d, hd, e, _⟩ := forT_mem hf
   exact absurd e (m.2.1 d hd)
 rw [onT_leaf (sAt h), h3]
 show onT [⟨x, t⟩] ⟨x, []⟩ = t
 exact onT_some (by simp [forT])
theorem StMap.snoc {w : World} {Z : Nat → Prop} {h : List (ByteArray × Tm)} (g : GoodH h) {L : List (ByteArray × Value)} (e : StMap w Z h L) {x : ByteArray} {t : Tm} (m : MayAdd (sAt h) x t) {a : Option Addr} {c : Nat} (hs : Sl w Z a t.args) : StMap w Z (h ++ [(x, t)]) (L ++ [(x, .agg #[.string t.name, .slice a t.args.length c, .int .i64 (h.length : Int)])]) := by
 have hl := e.1
 refine ⟨by simp [hl], fun i hi hli => ?_⟩
 by_cases hlt : i < h.length
 ·have hlL : i < L.length := by omega
  rw [List.getElem_append_left hlt, List.getElem_append_left hlL]
  obtain ⟨e1, j, a1, c1, e2, e3, e4⟩ := e.2 i hlt hlL
  have hmx : max j (i + 1) ≤ h.length := Nat.max_le.2 ⟨e2, hlt⟩
  refine ⟨e1, j, a1, c1, by simp; omega, ?_, ?_⟩
  ·rw [stood_snoc hlt hi hmx]; exact e3
  ·rw [stood_snoc hlt hi hmx]; exact e4
 ·have hi2 : i = h.length := by simp at hi; omega
  subst hi2
  have e1 : (h ++ [(x, t)])[h.length] = (x, t) := by simp
  have e2 : (L ++ [(x, Value.agg #[.string t.name, .slice a t.args.length c, .int .i64 (h.length : Int)])])[h.length] = (x, .agg #[.string t.name, .slice a t.args.length c, .int .i64 (h.length : Int)]) := by simp [← hl]
  rw [e1, e2]
  have hst := stood_new g m hi
  refine ⟨rfl, h.length, a, c, by simp, ?_, ?_⟩
  ·rw [Nat.max_eq_right (by omega), hst]
  ·rw [Nat.max_eq_right (by omega), hst]; exact hs
def BdPost (S q : Nat) (td : Value) (h : List (ByteArray × Tm)) (nm : ByteArray) (t : Tm) (X Y : Nat → Prop) (w : World) (e : Ending) (w' : World) : Prop :=
 ExQ (SolM S q) w w' ∧ ((t.name = nm ∧ e = .returned (.int .i64 0) ∧ SolE S q td h false Y w') ∨ (t.name ≠ nm ∧ occB nm [t] = true ∧ e = .returned (.int .i64 6) ∧ SolE S q td h false Y w') ∨
  (t.name ≠ nm ∧ occB nm [t] = false ∧ e = .returned (.int .i64 0) ∧ SolE S q td (h ++ [(nm, t)]) false (fun b => Y b ∨ (X b ∧ b < w.heap.size)) w'))
set_option maxHeartbeats 1000000 in
theorem bind_any2 (S q : Nat) (td : Value) (h : List (ByteArray × Tm)) (g : GoodH h) (nm : ByteArray) (t : Tm) (hmay : t.name ≠ nm → occB nm [t] = false → MayAdd (sAt h) nm t) (a : Option Addr) (c : Nat) (w : World) (X Y : Nat → Prop) (hXM : ∀ b, X b → ¬ SolM S q b) (hs : Sl w X a t.args) (hEv : SolE S q td h false Y w) :
  Calls Tryz.prog 109 #[.pointer (some ⟨S, 0, none⟩), .string nm, .agg #[.string t.name, .slice a t.args.length c]] w fun e w' => BdPost S q td h nm t X Y w e w' := by
 have HE := hide hEv
 have HS := hide hs
 have HXM := hide hXM
 have HMAY := hide hmay
 obtain ⟨⟨L, hB, hM, hSt⟩, hYS, hYq, hY, hg⟩ := hEv
 have hSl := hB.lt
 have hml := hM.lt
 have HY := hide hY
 have hln : Hid (L.length = h.length) := hSt.1
 have HSTM := hide hSt
 have HMM := hide hM
 have HB := hide hB
 clear hs hXM hSt hg hY hM hmay
 by_cases hn : t.name = nm
 ·have hn2 := bytes_yes hn
  have HN := hide hn
  clear hn
  go_enter Tryz.func109, Tryz.ntmps109
  go_wp2_with fail
  go_ret
  exact ⟨(ExQ.refl _ _).alloc _, Or.inl ⟨HN.out, rfl, (solE_ok S q td h).below HE.out ((Below.refl _ _).alloc (Nat.le_refl _) _)⟩⟩
 ·have hn2 := bytes_no hn
  have HN := hide hn
  clear hn
  have hB1 : Below w.heap.size w (w.alloc (.cells #[.string t.name, .slice a t.args.length c] 26)) := (Below.refl _ _).alloc (Nat.le_refl _) _
  have HB1 := hide hB1
  have T1 := hide (Blk.new w #[.string t.name, .slice a t.args.length c] 26)
  have hz1 : (w.alloc (.cells #[.string t.name, .slice a t.args.length c] 26)).heap.size = w.heap.size + 1 := by simp
  clear hB1
  go_enter Tryz.func109, Tryz.ntmps109
  go_wp2_with fail
  generalize (w.alloc (.cells #[.string t.name, .slice a t.args.length c] 26)) = w1 at *
  refine (holds_any nm t _ w1 X ⟨a, c, rfl, HS.out.later HB1.out⟩).mono ?_
  rintro e w2 ⟨rfl, hb2⟩
  have HB2 := hide (HB1.out.trans (hb2.mono HB1.out.size))
  have T2 := hide (T1.out.below hb2 (by omega))
  have HZ2 : Hid (w.heap.size + 1 ≤ w2.heap.size) := by have := hb2.size; unfold Hid; omega
  clear hb2
  cases ho : occB nm [t] with
  | true =>
   go_wp2_with fail
   go_ret
   exact ⟨ExQ.ofBelow HB2.out, Or.inr (Or.inl ⟨HN.out, ho, rfl, (solE_ok S q td h).below HE.out HB2.out⟩)⟩
  | false =>
   have HO := hide ho
   have hmayadd := HMAY.out HN.out ho
   have HMA := hide hmayadd
   have B2 := hide (HB.out.below HB2.out hSl)
   have s1 : w2.cell? ⟨S, 1, none⟩ = some (.map (some q)) := B2.out.cell 1
   have t0 := T2.out.c0
   have t1 := T2.out.c1
   have hM2 : MapAt w2.drew q L := HMM.out.below (HB2.out.drew) hml
   have hlen : Sem.run Tryz.prog (Builtin.len_ #[121] 3 #[.map (some q)]) w2.drew = .ok (.int .i64 (h.length : Int)) w2.drew := by
    rw [run_len Tryz.underlying121 hM2, hln.out]
   have hfree : mapGet L nm = none := HSTM.out.none fun i hi e => by
    obtain ⟨d, hd, e1⟩ := (g.bound h.length (Nat.le_refl _) h[i].1).2 ⟨i, hi, hi, rfl⟩
    rw [List.take_length] at hd
    exact hmayadd.2.1 d hd (e1.trans e)
   obtain ⟨w5, hrun, hM5, hz5, ho5, ht5, hu5, hk5⟩ := run_put (P := Tryz.prog) Tryz.underlying121 Tryz.underlying9 hM2 nm (.agg #[.string t.name, .slice a t.args.length c, .int .i64 (h.length : Int)]) hfree
   have HX5 : Hid (ExQ (SolM S q) w w5) := by
    have h1 : ExQ (SolM S q) w w2.drew := ExQ.ofBelow HB2.out.drew
    exact ⟨ho5.trans h1.os, ht5.trans h1.tape, hu5.trans h1.output, by rw [hz5]; exact h1.size, fun b hb hn => (hk5 b (fun e => hn (Or.inr e))).trans (h1.block b hb hn)⟩
   have HE5 : Hid (SolE S q td (h ++ [(nm, t)]) false (fun b => Y b ∨ (X b ∧ b < w.heap.size)) w5) := by
    have hSq : S ≠ q := fun e => by
     obtain ⟨es, clk, h1, _⟩ := HMM.out
     have h2 := HB.out
     subst e
     unfold Blk at h2
     rw [h1] at h2; cases h2
    have keep : ∀ (Z : Nat → Prop) a l, (∀ b, Z b → ((Y b ∨ (X b ∧ b < w.heap.size)) ∧ b ≠ S ∧ b ≠ q) ∧ b < w.heap.size) → Sl w Z a l → Sl w5 (fun b => (Y b ∨ (X b ∧ b < w.heap.size)) ∧ b ≠ S ∧ b ≠ q) a l := fun Z a l hZ hsl => (hsl.kept fun b hb => (hk5 b (hZ b hb).1.2.2).trans (HB2.out.drew.block b (hZ b hb).2)).mono fun b hb _ => (hZ b hb).1
    refine ⟨⟨_, ?_, hM5, ?_⟩, Or.inl hYS, Or.inl hYq, fun b hb => ?_, fun hf => by cases hf⟩
    ·have h1 := B2.out
     unfold Blk at *
     rw [hk5 S hSq]
     exact h1
    ·exact StMap.snoc g (HSTM.out.imp fun a l hsl => keep _ a l (fun b hb => ⟨⟨Or.inl hb.1, hb.2⟩, HY.out b hb.1⟩) hsl) HMA.out (keep (fun b => X b ∧ b < w.heap.size) a t.args (fun b hb => ⟨⟨Or.inr hb, fun e => HXM.out b hb.1 (Or.inl e), fun e => HXM.out b hb.1 (Or.inr e)⟩, hb.2⟩) (HS.out.mono fun b h1 h2 => ⟨h1, h2⟩))
    ·rw [hz5]
     show b < w2.heap.size
     have hb2 : b < w.heap.size := by
      rcases hb with hb | hb
      ·exact HY.out b hb
      ·exact hb.2
     have := HZ2.out
     omega
   clear hM5 hz5 ho5 ht5 hu5 hk5 hM2 hfree hmayadd ho
   go_wp2_with fail
   go_region
   all_goals go_wp2_with fail
   all_goals go_ret
   all_goals exact ⟨HX5.out, Or.inr (Or.inr ⟨HN.out, HO.out, rfl, HE5.out⟩)⟩
end Go.Proofs.YtdebiiodhkcnkaaGreat
