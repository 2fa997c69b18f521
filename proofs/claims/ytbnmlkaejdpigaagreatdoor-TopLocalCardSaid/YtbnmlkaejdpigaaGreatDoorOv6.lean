import Derived.Test.YtbnmlkaejdpigaaGreatDoorZTopLocalOwn
import Derived.Test.YtbnmlkaejdpigaaGreatDoorOv5
import Derived.Laws.EntriesVeiled
namespace Go.Proofs.YtbnmlkaejdpigaaGreatDoor
open Go.RowKit
set_option linter.unusedSimpArgs false
set_option linter.unusedVariables false
set_option maxRecDepth 8000
theorem ix_pair0 (v0 v1 v2 v3 v4 v5 v6 v7 : Value) (w : World) : Sem.run Tryz.prog (Instr.index 54 (.agg #[v0, v1, v2, v3, v4, v5, v6, v7]) (.int .i64 0)) w = .ok (.agg #[v0, v1, v2, v3]) w := by kernel_rfl
theorem ix_pair1 (v0 v1 v2 v3 v4 v5 v6 v7 : Value) (w : World) : Sem.run Tryz.prog (Instr.index 54 (.agg #[v0, v1, v2, v3, v4, v5, v6, v7]) (.int .i64 1)) w = .ok (.agg #[v4, v5, v6, v7]) w := by kernel_rfl
structure ApS (w : World) (P R B r Bn : Nat) (cs : Array Value) (ns : List ByteArray) (wr : World) : Prop where
 pb : Blk wr P cs 54
 rb : Blk wr R #[.string ⟨#[]⟩, .slice none 0 0, .string ⟨#[]⟩, .slice none 0 0, .string ⟨#[]⟩, .slice none 0 0, .string ⟨#[]⟩, .slice none 0 0] 54
 nm : NmAt wr B r ns
 bn : Blk wr Bn #[.func (.func 68) #[] #[.pointer (some ⟨B, 0, none⟩)]] 79
 bl : Below w.heap.size w wr
 sz : w.heap.size + 2 ≤ r ∧ w.heap.size + 2 ≤ B ∧ w.heap.size + 2 ≤ Bn ∧ Bn ≠ r
theorem ApS.later {w wr w' : World} {P R B r Bn : Nat} {cs : Array Value} {ns : List ByteArray} (h : ApS w P R B r Bn cs ns wr) (hb : Below wr.heap.size wr w') : ApS w P R B r Bn cs ns w' :=
 ⟨h.pb.below hb h.pb.lt, h.rb.below hb h.rb.lt, h.nm.later hb, h.bn.below hb h.bn.lt, h.bl.trans (hb.mono h.bl.size), h.sz⟩
def ApI (w : World) (P R B r Bn : Nat) (oa nb : Pr) (a1 a2 a3 a4 : Option Addr) (c1 c2 c3 c4 : Nat) (o : Value) (wr : World) : Prop :=
 (o = .int .i64 0 ∧ ApS w P R B r Bn #[.string oa.l.name, .slice a1 oa.l.args.length c1, .string oa.r.name, .slice a2 oa.r.args.length c2, .string nb.l.name, .slice a3 nb.l.args.length c3, .string nb.r.name, .slice a4 nb.r.args.length c4] [] wr) ∨
 (o = .int .i64 1 ∧ ∃ x b1 d1 b2 d2 ns, (x, ns) = rnP (kyI 0) [] oa ∧ ApS w P R B r Bn #[.string x.l.name, .slice b1 x.l.args.length d1, .string x.r.name, .slice b2 x.r.args.length d2, .string nb.l.name, .slice a3 nb.l.args.length c3, .string nb.r.name, .slice a4 nb.r.args.length c4] ns wr ∧ Sl wr (fun b => w.heap.size + 2 ≤ b ∧ b ≠ r) b1 x.l.args ∧ Sl wr (fun b => w.heap.size + 2 ≤ b ∧ b ≠ r) b2 x.r.args) ∨
 (o = .int .i64 2 ∧ ∃ x y b1 d1 b2 d2 b3 d3 b4 d4 ns, (x, y) = apR oa nb ∧ ApS w P R B r Bn #[.string x.l.name, .slice b1 x.l.args.length d1, .string x.r.name, .slice b2 x.r.args.length d2, .string y.l.name, .slice b3 y.l.args.length d3, .string y.r.name, .slice b4 y.r.args.length d4] ns wr ∧ Sl wr (fun b => w.heap.size + 2 ≤ b ∧ b ≠ r) b1 x.l.args ∧ Sl wr (fun b => w.heap.size + 2 ≤ b ∧ b ≠ r) b2 x.r.args ∧ Sl wr (fun b => w.heap.size + 2 ≤ b ∧ b ≠ r) b3 y.l.args ∧ Sl wr (fun b => w.heap.size + 2 ≤ b ∧ b ≠ r) b4 y.r.args)
def ApP (oa nb : Pr) (w : World) (e : Ending) (w' : World) : Prop :=
 Below w.heap.size w w' ∧ ∃ x y b1 d1 b2 d2 b3 d3 b4 d4, (x, y) = apR oa nb ∧ e = .returned (.agg #[.string x.l.name, .slice b1 x.l.args.length d1, .string x.r.name, .slice b2 x.r.args.length d2, .string y.l.name, .slice b3 y.l.args.length d3, .string y.r.name, .slice b4 y.r.args.length d4]) ∧ Sl w' (fun b => w.heap.size ≤ b) b1 x.l.args ∧ Sl w' (fun b => w.heap.size ≤ b) b2 x.r.args ∧ Sl w' (fun b => w.heap.size ≤ b) b3 y.l.args ∧ Sl w' (fun b => w.heap.size ≤ b) b4 y.r.args
set_option maxHeartbeats 4000000 in
theorem apart_any (BT : Nat) (oa nb : Pr) (a1 a2 a3 a4 : Option Addr) (c1 c2 c3 c4 : Nat) (w : World) (X : Nat → Prop) (hs1 : Sl w X a1 oa.l.args) (hs2 : Sl w X a2 oa.r.args) (hs3 : Sl w X a3 nb.l.args) (hs4 : Sl w X a4 nb.r.args) (ho : mayE oa.l = 0 ∧ mayE oa.r = 0) (hn : mayE nb.l = 0 ∧ mayE nb.r = 0) (hT : Tb BT w) (hBw : BT ≤ w.heap.size) :
  Calls Tryz.prog 19 #[.agg #[.string oa.l.name, .slice a1 oa.l.args.length c1, .string oa.r.name, .slice a2 oa.r.args.length c2, .string nb.l.name, .slice a3 nb.l.args.length c3, .string nb.r.name, .slice a4 nb.r.args.length c4]] w fun e w' => ApP oa nb w e w' := by
 have HS1 := hide (hs1.mono (Y := fun b => b < w.heap.size) fun b h1 h2 => h2)
 have HS2 := hide (hs2.mono (Y := fun b => b < w.heap.size) fun b h1 h2 => h2)
 have HS3 := hide (hs3.mono (Y := fun b => b < w.heap.size) fun b h1 h2 => h2)
 have HS4 := hide (hs4.mono (Y := fun b => b < w.heap.size) fun b h1 h2 => h2)
 have HT := hide hT
 have HO := hide ho
 have HNB := hide hn
 clear hs1 hs2 hs3 hs4 hT ho hn
 have hmf : ∀ (fn : Fn) (first cap : Array Value) (w : World), (Instr.makeFunc fn first cap).run Tryz.prog w = .ok (.func fn first cap) w := fun _ _ _ _ => rfl
 go_enter Tryz.func19, Tryz.ntmps19
 go_wp2_with fail
 have hB2 : Below w.heap.size w ((w.alloc (.cells #[.string oa.l.name, .slice a1 oa.l.args.length c1, .string oa.r.name, .slice a2 oa.r.args.length c2, .string nb.l.name, .slice a3 nb.l.args.length c3, .string nb.r.name, .slice a4 nb.r.args.length c4] 54)).alloc (.cells #[.string ⟨#[]⟩, .slice none 0 0, .string ⟨#[]⟩, .slice none 0 0, .string ⟨#[]⟩, .slice none 0 0, .string ⟨#[]⟩, .slice none 0 0] 54)) := ((Below.refl _ _).alloc (Nat.le_refl _) _).alloc (by simp) _
 have hP2 : Blk ((w.alloc (.cells #[.string oa.l.name, .slice a1 oa.l.args.length c1, .string oa.r.name, .slice a2 oa.r.args.length c2, .string nb.l.name, .slice a3 nb.l.args.length c3, .string nb.r.name, .slice a4 nb.r.args.length c4] 54)).alloc (.cells #[.string ⟨#[]⟩, .slice none 0 0, .string ⟨#[]⟩, .slice none 0 0, .string ⟨#[]⟩, .slice none 0 0, .string ⟨#[]⟩, .slice none 0 0] 54)) w.heap.size #[.string oa.l.name, .slice a1 oa.l.args.length c1, .string oa.r.name, .slice a2 oa.r.args.length c2, .string nb.l.name, .slice a3 nb.l.args.length c3, .string nb.r.name, .slice a4 nb.r.args.length c4] 54 := (Blk.new w _ _).alloc _
 have hR2 : Blk ((w.alloc (.cells #[.string oa.l.name, .slice a1 oa.l.args.length c1, .string oa.r.name, .slice a2 oa.r.args.length c2, .string nb.l.name, .slice a3 nb.l.args.length c3, .string nb.r.name, .slice a4 nb.r.args.length c4] 54)).alloc (.cells #[.string ⟨#[]⟩, .slice none 0 0, .string ⟨#[]⟩, .slice none 0 0, .string ⟨#[]⟩, .slice none 0 0, .string ⟨#[]⟩, .slice none 0 0] 54)) (w.heap.size + 1) #[.string ⟨#[]⟩, .slice none 0 0, .string ⟨#[]⟩, .slice none 0 0, .string ⟨#[]⟩, .slice none 0 0, .string ⟨#[]⟩, .slice none 0 0] 54 := by
  have h := Blk.new (w.alloc (.cells #[.string oa.l.name, .slice a1 oa.l.args.length c1, .string oa.r.name, .slice a2 oa.r.args.length c2, .string nb.l.name, .slice a3 nb.l.args.length c3, .string nb.r.name, .slice a4 nb.r.args.length c4] 54)) #[.string ⟨#[]⟩, .slice none 0 0, .string ⟨#[]⟩, .slice none 0 0, .string ⟨#[]⟩, .slice none 0 0, .string ⟨#[]⟩, .slice none 0 0] 54
  rw [World.size_alloc] at h
  exact h
 have hz2 : ((w.alloc (.cells #[.string oa.l.name, .slice a1 oa.l.args.length c1, .string oa.r.name, .slice a2 oa.r.args.length c2, .string nb.l.name, .slice a3 nb.l.args.length c3, .string nb.r.name, .slice a4 nb.r.args.length c4] 54)).alloc (.cells #[.string ⟨#[]⟩, .slice none 0 0, .string ⟨#[]⟩, .slice none 0 0, .string ⟨#[]⟩, .slice none 0 0, .string ⟨#[]⟩, .slice none 0 0] 54)).heap.size = w.heap.size + 2 := by simp
 generalize (w.alloc (.cells #[.string oa.l.name, .slice a1 oa.l.args.length c1, .string oa.r.name, .slice a2 oa.r.args.length c2, .string nb.l.name, .slice a3 nb.l.args.length c3, .string nb.r.name, .slice a4 nb.r.args.length c4] 54)).alloc (.cells #[.string ⟨#[]⟩, .slice none 0 0, .string ⟨#[]⟩, .slice none 0 0, .string ⟨#[]⟩, .slice none 0 0, .string ⟨#[]⟩, .slice none 0 0] 54) = W at *
 obtain ⟨R, hR⟩ : ∃ R, R = w.heap.size + 1 := ⟨_, rfl⟩
 obtain ⟨P, hP⟩ : ∃ P, P = w.heap.size := ⟨_, rfl⟩
 rw [← hR] at hR2 ⊢
 rw [← hP] at hP2 ⊢
 have HRP : Hid (R = w.heap.size + 1 ∧ P = w.heap.size) := ⟨hR, hP⟩
 clear hR hP
 refine (newNamer_any _).mono ?_
 rintro e w3 ⟨B, r, rfl, hn3, hr3, hB3, hb3⟩
 have HA0 : Hid (ApS w P R B r w3.heap.size #[.string oa.l.name, .slice a1 oa.l.args.length c1, .string oa.r.name, .slice a2 oa.r.args.length c2, .string nb.l.name, .slice a3 nb.l.args.length c3, .string nb.r.name, .slice a4 nb.r.args.length c4] [] (w3.alloc (.cells #[.func (.func 68) #[] #[.pointer (some ⟨B, 0, none⟩)]] 79))) := by
  have hbn : Below w3.heap.size w3 (w3.alloc (.cells #[.func (.func 68) #[] #[.pointer (some ⟨B, 0, none⟩)]] 79)) := (Below.refl _ _).alloc (Nat.le_refl _) _
  have hbb := hb3.trans (hbn.mono hb3.size)
  have hrl := hn3.map.lt
  have hsz := hb3.size
  exact ⟨hP2.below hbb hP2.lt, hR2.below hbb hR2.lt, hn3.later hbn, Blk.new w3 _ _, hB2.trans (hbb.mono hB2.size), by omega⟩
 clear hn3 hr3 hB3 hb3 hB2 hP2 hR2 hz2
 have HP0 := hide HA0.out.pb
 have p0 : (w3.alloc (.cells #[.func (.func 68) #[] #[.pointer (some ⟨B, 0, none⟩)]] 79)).cell? ⟨P, 0, none⟩ = some (.string oa.l.name) := HP0.out.cell 0
 have p1 : (w3.alloc (.cells #[.func (.func 68) #[] #[.pointer (some ⟨B, 0, none⟩)]] 79)).cell? ⟨P, 1, none⟩ = some (.slice a1 oa.l.args.length c1) := HP0.out.cell 1
 have p2 : (w3.alloc (.cells #[.func (.func 68) #[] #[.pointer (some ⟨B, 0, none⟩)]] 79)).cell? ⟨P, 2, none⟩ = some (.string oa.r.name) := HP0.out.cell 2
 have p3 : (w3.alloc (.cells #[.func (.func 68) #[] #[.pointer (some ⟨B, 0, none⟩)]] 79)).cell? ⟨P, 3, none⟩ = some (.slice a2 oa.r.args.length c2) := HP0.out.cell 3
 have p4 : (w3.alloc (.cells #[.func (.func 68) #[] #[.pointer (some ⟨B, 0, none⟩)]] 79)).cell? ⟨P, 4, none⟩ = some (.string nb.l.name) := HP0.out.cell 4
 have p5 : (w3.alloc (.cells #[.func (.func 68) #[] #[.pointer (some ⟨B, 0, none⟩)]] 79)).cell? ⟨P, 5, none⟩ = some (.slice a3 nb.l.args.length c3) := HP0.out.cell 5
 have p6 : (w3.alloc (.cells #[.func (.func 68) #[] #[.pointer (some ⟨B, 0, none⟩)]] 79)).cell? ⟨P, 6, none⟩ = some (.string nb.r.name) := HP0.out.cell 6
 have p7 : (w3.alloc (.cells #[.func (.func 68) #[] #[.pointer (some ⟨B, 0, none⟩)]] 79)).cell? ⟨P, 7, none⟩ = some (.slice a4 nb.r.args.length c4) := HP0.out.cell 7
 go_wp2_with fail
 generalize (w3.alloc (.cells #[.func (.func 68) #[] #[.pointer (some ⟨B, 0, none⟩)]] 79)) = w4 at *
 clear p0 p1 p2 p3 p4 p5 p6 p7
 generalize w3.heap.size = Bn at *
 have hix0 := ix_pair0
 have hix1 := ix_pair1
 go_loopw [9] (fun o wr => ApI w P R B r Bn oa nb a1 a2 a3 a4 c1 c2 c3 c4 o wr) (fun o wr => 2 - (intOf o).toNat)
 case atStart => exact Or.inl ⟨rfl, HA0.out⟩
 case round =>
  rcases hrel with ⟨rfl, hS⟩ | ⟨rfl, x, b1, d1, b2, d2, ns, hx, hS, hx1, hx2⟩ | ⟨rfl, x, y, b1, d1, b2, d2, b3, d3, b4, d4, ns, hx, hS, hx1, hx2, hx3, hx4⟩
  ·go_wp2_with fail
   have hb2 : Below wr.heap.size wr ((wr.alloc (.cells #[.int .i64 0] 3)).alloc (.cells #[.string oa.l.name, .slice a1 oa.l.args.length c1, .string oa.r.name, .slice a2 oa.r.args.length c2] 34)) := ((Below.refl _ _).alloc (Nat.le_refl _) _).alloc (by simp) _
   have hI2 : Blk ((wr.alloc (.cells #[.int .i64 0] 3)).alloc (.cells #[.string oa.l.name, .slice a1 oa.l.args.length c1, .string oa.r.name, .slice a2 oa.r.args.length c2] 34)) wr.heap.size #[.int .i64 0] 3 := (Blk.new wr _ _).alloc _
   have hQ2 : Blk ((wr.alloc (.cells #[.int .i64 0] 3)).alloc (.cells #[.string oa.l.name, .slice a1 oa.l.args.length c1, .string oa.r.name, .slice a2 oa.r.args.length c2] 34)) (wr.heap.size + 1) #[.string oa.l.name, .slice a1 oa.l.args.length c1, .string oa.r.name, .slice a2 oa.r.args.length c2] 34 := by
    have h := Blk.new (wr.alloc (.cells #[.int .i64 0] 3)) #[.string oa.l.name, .slice a1 oa.l.args.length c1, .string oa.r.name, .slice a2 oa.r.args.length c2] 34
    rw [World.size_alloc] at h
    exact h
   have hz2 : ((wr.alloc (.cells #[.int .i64 0] 3)).alloc (.cells #[.string oa.l.name, .slice a1 oa.l.args.length c1, .string oa.r.name, .slice a2 oa.r.args.length c2] 34)).heap.size = wr.heap.size + 2 := by simp
   have hS2 := hS.later hb2
   have hwz := hS.bl.size
   have hPl := hS.pb.lt
   have hrl := hS.nm.map.lt
   have hRl := hS.rb.lt
   have hNl := hS.bn.lt
   generalize (wr.alloc (.cells #[.int .i64 0] 3)).alloc (.cells #[.string oa.l.name, .slice a1 oa.l.args.length c1, .string oa.r.name, .slice a2 oa.r.args.length c2] 34) = W2 at *
   obtain ⟨Bi, hBi⟩ : ∃ Bi, Bi = wr.heap.size := ⟨_, rfl⟩
   obtain ⟨Bp, hBp⟩ : ∃ Bp, Bp = wr.heap.size + 1 := ⟨_, rfl⟩
   rw [← hBp] at hQ2 ⊢
   rw [← hBi] at hI2 ⊢
   have HSZ : Hid (Bi = wr.heap.size ∧ Bp = wr.heap.size + 1 ∧ w.heap.size ≤ wr.heap.size ∧ r < wr.heap.size ∧ R < wr.heap.size ∧ P < wr.heap.size ∧ Bn < wr.heap.size) := by unfold Hid; omega
   have HZD : Hid (W2.drew.heap.size = wr.heap.size + 2) := hz2
   have hd2 : Below W2.heap.size W2 W2.drew := (Below.refl _ W2).drew
   have HSD := hide (hS2.later hd2)
   have HI : Hid (Blk W2.drew Bi #[.int .i64 0] 3) := hI2.drewN 1
   have HQ : Hid (Blk W2.drew Bp #[.string oa.l.name, .slice a1 oa.l.args.length c1, .string oa.r.name, .slice a2 oa.r.args.length c2] 34) := hQ2.drewN 1
   clear hS hS2 hb2 hI2 hQ2 hz2 hd2 hwz hPl hrl hRl hNl hBi hBp 
   refine wp_region_held_drew (S := fun w' => Blk w' Bi #[.int .i64 0] 3 ∧ Blk w' Bp #[.string oa.l.name, .slice a1 oa.l.args.length c1, .string oa.r.name, .slice a2 oa.r.args.length c2] 34) (by kernel_rfl) ⟨HI.out, HQ.out⟩ (fun hHeld => ?_)
   generalize W2.drew = wd at *
   refine tkq (v := ?_) 0 rfl ?_ ?_
   rotate_left
   ·intro w' hSw
    have c0 := hSw.1.cell 0
    go_simp <;> with_reducible rfl
   try simp only [Act.put, sq]
   refine tkq (v := ?_) 1 rfl ?_ ?_
   rotate_left
   ·intro w' hSw
    have c0 := hSw.2.cell 0
    have c1 := hSw.2.cell 1
    have c2 := hSw.2.cell 2
    have c3 := hSw.2.cell 3
    go_simp <;> with_reducible rfl
   try simp only [Act.put, sq]
   refine tkq (v := ?_) 2 rfl ?_ ?_
   rotate_left
   ·intro w' hSw
    go_simp <;> with_reducible rfl
   try simp only [Act.put, sq]
   refine rdq 3 rfl fun K hK => ?_
   go_simp
   go_at_call 44
   refine (renamedO_any BT B r Bn Bi 0 (by have := HSD.out.sz; omega) (by decide) HSD.out.sz.2.2.2 (by have := HSZ.out; omega) oa a1 a2 c1 c2 [] _ (fun b => b < w.heap.size) (HS1.out.later HSD.out.bl) (HS2.out.later HSD.out.bl) (fun b hb => by have := HSD.out.sz; omega) HSD.out.nm ⟨HSD.out.bn, HI.out⟩ (HT.out.on (HSD.out.bl.mono hBw)) (by have h1 := may200 HO.out.1; have h2 := may200 HO.out.2; simp only [List.length_nil]; omega) (err_mayD HO.out.1) (err_mayD HO.out.2)).mono ?_
   rintro e w6 ⟨e1, f1, e2, f2, rfl, hs6, ht6, hn6, hx6⟩
   have hI6 := HI.out.exq hx6 (by have := HSZ.out; omega)
   have hQ6 := HQ.out.exq hx6 (by have := HSZ.out; omega)
   have hP6 := HSD.out.pb.exq hx6 (by have h1 := HSD.out.sz; have h2 := HRP.out; omega)
   have hR6 := HSD.out.rb.exq hx6 (by have h1 := HSD.out.sz; have h2 := HRP.out; omega)
   have hN6 := HSD.out.bn.exq hx6 HSD.out.sz.2.2.2
   have hB6 : Below w.heap.size w w6 := HSD.out.bl.trans (hx6.below (HSD.out.bl.size) (fun b hb => by have := HSD.out.sz; omega))
   have hA6 : Sl w6 (fun b => w.heap.size + 2 ≤ b ∧ b ≠ r) e1 (rnP (kyI 0) [] oa).1.l.args := hs6.mono fun b hb _ => by have h1 := HZD.out; have h2 := HSZ.out; have h3 := HSD.out.sz; omega
   have hC6 : Sl w6 (fun b => w.heap.size + 2 ≤ b ∧ b ≠ r) e2 (rnP (kyI 0) [] oa).1.r.args := ht6.mono fun b hb _ => by have h1 := HZD.out; have h2 := HSZ.out; have h3 := HSD.out.sz; omega
   have HXX := hide (And.intro hI6 hQ6)
   have HP6 := hide hP6
   have HR6 := hide hR6
   have HN6 := hide hN6
   have HB6 := hide hB6
   have HA6 := hide hA6
   have HC6 := hide hC6
   have HM6 := hide hn6
   have HG := hide HSD.out.sz
   clear hs6 ht6 hn6 hx6 hI6 hQ6 hP6 hR6 hN6 hB6 hA6 hC6 
   obtain ⟨z, nz, hz⟩ : ∃ z nz, (z, nz) = rnP (kyI 0) [] oa := ⟨_, _, rfl⟩
   rw [← hz] at HA6 HC6 HM6 ⊢
   have HZ := hide hz
   clear hz
   simp only at HA6 HC6 HM6 ⊢
   go_simp
   refine hK.out _ _ (by exact HXX.out) (fun hHeld => ?_)
   clear hK K
   try simp only [Act.put, sq]
   refine tkq (v := ?_) 4 rfl ?_ ?_
   rotate_left
   ·intro w' hSw
    go_simp <;> with_reducible rfl
   try simp only [Act.put, sq]
   have q0 := HP6.out.cell 0
   have q1 := HP6.out.cell 1
   have q2 := HP6.out.cell 2
   have q3 := HP6.out.cell 3
   have q4 := HP6.out.cell 4
   have q5 := HP6.out.cell 5
   have q6 := HP6.out.cell 6
   have q7 := HP6.out.cell 7
   have qf := HP6.out.frozen
   have ql : P < w6.heap.size := HP6.out.lt
   refine rdq 5 rfl fun K hK => ?_
   go_simp
   refine hK.out _ _ (by exact ⟨(((HXX.out.1.setOther _ _ (by have h1 := HSZ.out; have h2 := HRP.out; omega)).setOther _ _ (by have h1 := HSZ.out; have h2 := HRP.out; omega)).setOther _ _ (by have h1 := HSZ.out; have h2 := HRP.out; omega)).setOther _ _ (by have h1 := HSZ.out; have h2 := HRP.out; omega), (((HXX.out.2.setOther _ _ (by have h1 := HSZ.out; have h2 := HRP.out; omega)).setOther _ _ (by have h1 := HSZ.out; have h2 := HRP.out; omega)).setOther _ _ (by have h1 := HSZ.out; have h2 := HRP.out; omega)).setOther _ _ (by have h1 := HSZ.out; have h2 := HRP.out; omega)⟩) (fun hHeld => ?_)
   clear hK K
   try simp only [Act.put, sq]
   refine wpAnyH_done (by kernel_rfl) ?_ _
   clear q0 q1 q2 q3 q4 q5 q6 q7
   go_wp2_with fail
   go_roundw
   case rel =>
    have g1 := HG.out
    have g2 := HRP.out
    have g3 := HSZ.out
    have hap : ApS w P R B r Bn #[.string z.l.name, .slice e1 z.l.args.length f1, .string z.r.name, .slice e2 z.r.args.length f2, .string nb.l.name, .slice a3 nb.l.args.length c3, .string nb.r.name, .slice a4 nb.r.args.length c4] nz ((((w6.setCell ⟨P, 0, none⟩ (.string z.l.name)).setCell ⟨P, 1, none⟩ (.slice e1 z.l.args.length f1)).setCell ⟨P, 2, none⟩ (.string z.r.name)).setCell ⟨P, 3, none⟩ (.slice e2 z.r.args.length f2)) :=
     ⟨(((HP6.out.set 0 _).set 1 _).set 2 _).set 3 _, (((HR6.out.setOther _ _ (by omega)).setOther _ _ (by omega)).setOther _ _ (by omega)).setOther _ _ (by omega), nm_set (nm_set (nm_set (nm_set HM6.out (by omega) (by omega)) (by omega) (by omega)) (by omega) (by omega)) (by omega) (by omega), (((HN6.out.setOther _ _ (by omega)).setOther _ _ (by omega)).setOther _ _ (by omega)).setOther _ _ (by omega), (((HB6.out.setCell (p := ⟨P, 0, none⟩) (by simp; omega) _).setCell (p := ⟨P, 1, none⟩) (by simp; omega) _).setCell (p := ⟨P, 2, none⟩) (by simp; omega) _).setCell (p := ⟨P, 3, none⟩) (by simp; omega) _, HG.out⟩
    have kp : ∀ {a : Option Addr} {l : List Tm}, Sl w6 (fun b => w.heap.size + 2 ≤ b ∧ b ≠ r) a l → Sl ((((w6.setCell ⟨P, 0, none⟩ (.string z.l.name)).setCell ⟨P, 1, none⟩ (.slice e1 z.l.args.length f1)).setCell ⟨P, 2, none⟩ (.string z.r.name)).setCell ⟨P, 3, none⟩ (.slice e2 z.r.args.length f2)) (fun b => w.heap.size + 2 ≤ b ∧ b ≠ r) a l := fun h => h.kept fun b hb => by
     have hne : b ≠ P := by omega
     rw [Below.heap_setCell _ _ _ _ (by simpa using hne), Below.heap_setCell _ _ _ _ (by simpa using hne), Below.heap_setCell _ _ _ _ (by simpa using hne), Below.heap_setCell _ _ _ _ (by simpa using hne)]
    exact Or.inr (Or.inl ⟨rfl, z, e1, f1, e2, f2, nz, HZ.out, hap, kp HA6.out, kp HC6.out⟩)
   case measure => simp [intOf]
  ·have HX0 := hide hx
   clear hx
   go_wp2_with fail
   have hb2 : Below wr.heap.size wr ((wr.alloc (.cells #[.int .i64 1] 3)).alloc (.cells #[.string nb.l.name, .slice a3 nb.l.args.length c3, .string nb.r.name, .slice a4 nb.r.args.length c4] 34)) := ((Below.refl _ _).alloc (Nat.le_refl _) _).alloc (by simp) _
   have hI2 : Blk ((wr.alloc (.cells #[.int .i64 1] 3)).alloc (.cells #[.string nb.l.name, .slice a3 nb.l.args.length c3, .string nb.r.name, .slice a4 nb.r.args.length c4] 34)) wr.heap.size #[.int .i64 1] 3 := (Blk.new wr _ _).alloc _
   have hQ2 : Blk ((wr.alloc (.cells #[.int .i64 1] 3)).alloc (.cells #[.string nb.l.name, .slice a3 nb.l.args.length c3, .string nb.r.name, .slice a4 nb.r.args.length c4] 34)) (wr.heap.size + 1) #[.string nb.l.name, .slice a3 nb.l.args.length c3, .string nb.r.name, .slice a4 nb.r.args.length c4] 34 := by
    have h := Blk.new (wr.alloc (.cells #[.int .i64 1] 3)) #[.string nb.l.name, .slice a3 nb.l.args.length c3, .string nb.r.name, .slice a4 nb.r.args.length c4] 34
    rw [World.size_alloc] at h
    exact h
   have hz2 : ((wr.alloc (.cells #[.int .i64 1] 3)).alloc (.cells #[.string nb.l.name, .slice a3 nb.l.args.length c3, .string nb.r.name, .slice a4 nb.r.args.length c4] 34)).heap.size = wr.heap.size + 2 := by simp
   have hS2 := hS.later hb2
   have hx12 := hx1.later hb2
   have hx22 := hx2.later hb2
   have hwz := hS.bl.size
   have hPl := hS.pb.lt
   have hrl := hS.nm.map.lt
   have hRl := hS.rb.lt
   have hNl := hS.bn.lt
   generalize (wr.alloc (.cells #[.int .i64 1] 3)).alloc (.cells #[.string nb.l.name, .slice a3 nb.l.args.length c3, .string nb.r.name, .slice a4 nb.r.args.length c4] 34) = W2 at *
   obtain ⟨Bi, hBi⟩ : ∃ Bi, Bi = wr.heap.size := ⟨_, rfl⟩
   obtain ⟨Bp, hBp⟩ : ∃ Bp, Bp = wr.heap.size + 1 := ⟨_, rfl⟩
   rw [← hBp] at hQ2 ⊢
   rw [← hBi] at hI2 ⊢
   have HSZ : Hid (Bi = wr.heap.size ∧ Bp = wr.heap.size + 1 ∧ w.heap.size ≤ wr.heap.size ∧ r < wr.heap.size ∧ R < wr.heap.size ∧ P < wr.heap.size ∧ Bn < wr.heap.size) := by unfold Hid; omega
   have HZD : Hid (W2.drew.heap.size = wr.heap.size + 2) := hz2
   have hd2 : Below W2.heap.size W2 W2.drew := (Below.refl _ W2).drew
   have HSD := hide (hS2.later hd2)
   have hx1D := hide (hx12.later hd2)
   have hx2D := hide (hx22.later hd2)
   have HI : Hid (Blk W2.drew Bi #[.int .i64 1] 3) := hI2.drewN 1
   have HQ : Hid (Blk W2.drew Bp #[.string nb.l.name, .slice a3 nb.l.args.length c3, .string nb.r.name, .slice a4 nb.r.args.length c4] 34) := hQ2.drewN 1
   clear hS hS2 hb2 hI2 hQ2 hz2 hd2 hwz hPl hrl hRl hNl hBi hBp hx1 hx12 hx2 hx22
   refine wp_region_held_drew (S := fun w' => Blk w' Bi #[.int .i64 1] 3 ∧ Blk w' Bp #[.string nb.l.name, .slice a3 nb.l.args.length c3, .string nb.r.name, .slice a4 nb.r.args.length c4] 34) (by kernel_rfl) ⟨HI.out, HQ.out⟩ (fun hHeld => ?_)
   generalize W2.drew = wd at *
   refine tkq (v := ?_) 0 rfl ?_ ?_
   rotate_left
   ·intro w' hSw
    have c0 := hSw.1.cell 0
    go_simp <;> with_reducible rfl
   try simp only [Act.put, sq]
   refine tkq (v := ?_) 1 rfl ?_ ?_
   rotate_left
   ·intro w' hSw
    have c0 := hSw.2.cell 0
    have c1 := hSw.2.cell 1
    have c2 := hSw.2.cell 2
    have c3 := hSw.2.cell 3
    go_simp <;> with_reducible rfl
   try simp only [Act.put, sq]
   refine tkq (v := ?_) 2 rfl ?_ ?_
   rotate_left
   ·intro w' hSw
    go_simp <;> with_reducible rfl
   try simp only [Act.put, sq]
   refine rdq 3 rfl fun K hK => ?_
   go_simp
   go_at_call 44
   refine (renamedO_any BT B r Bn Bi 1 (by have := HSD.out.sz; omega) (by decide) HSD.out.sz.2.2.2 (by have := HSZ.out; omega) nb a3 a4 c3 c4 ns _ (fun b => b < w.heap.size) (HS3.out.later HSD.out.bl) (HS4.out.later HSD.out.bl) (fun b hb => by have := HSD.out.sz; omega) HSD.out.nm ⟨HSD.out.bn, HI.out⟩ (HT.out.on (HSD.out.bl.mono hBw)) (by have h1 := may200 HNB.out.1; have h2 := may200 HNB.out.2; have h3 := may200 HO.out.1; have h4 := may200 HO.out.2; have h5 := rnP_names (kyI 0) oa []; rw [← HX0.out] at h5; simp only [List.length_nil] at h5; omega) (err_mayD HNB.out.1) (err_mayD HNB.out.2)).mono ?_
   rintro e w6 ⟨e1, f1, e2, f2, rfl, hs6, ht6, hn6, hx6⟩
   have hI6 := HI.out.exq hx6 (by have := HSZ.out; omega)
   have hQ6 := HQ.out.exq hx6 (by have := HSZ.out; omega)
   have hP6 := HSD.out.pb.exq hx6 (by have h1 := HSD.out.sz; have h2 := HRP.out; omega)
   have hR6 := HSD.out.rb.exq hx6 (by have h1 := HSD.out.sz; have h2 := HRP.out; omega)
   have hN6 := HSD.out.bn.exq hx6 HSD.out.sz.2.2.2
   have hB6 : Below w.heap.size w w6 := HSD.out.bl.trans (hx6.below (HSD.out.bl.size) (fun b hb => by have := HSD.out.sz; omega))
   have hA6 : Sl w6 (fun b => w.heap.size + 2 ≤ b ∧ b ≠ r) e1 (rnP (kyI 1) ns nb).1.l.args := hs6.mono fun b hb _ => by have h1 := HZD.out; have h2 := HSZ.out; have h3 := HSD.out.sz; omega
   have hC6 : Sl w6 (fun b => w.heap.size + 2 ≤ b ∧ b ≠ r) e2 (rnP (kyI 1) ns nb).1.r.args := ht6.mono fun b hb _ => by have h1 := HZD.out; have h2 := HSZ.out; have h3 := HSD.out.sz; omega
   have hx16 := hx1D.out.exq hx6 (fun b hb => hb.2)
   have hx26 := hx2D.out.exq hx6 (fun b hb => hb.2)
   have HXX := hide (And.intro hI6 hQ6)
   have HP6 := hide hP6
   have HR6 := hide hR6
   have HN6 := hide hN6
   have HB6 := hide hB6
   have HA6 := hide hA6
   have HC6 := hide hC6
   have HM6 := hide hn6
   have HG := hide HSD.out.sz
   have hx1H := hide hx16
   have hx2H := hide hx26
   clear hs6 ht6 hn6 hx6 hI6 hQ6 hP6 hR6 hN6 hB6 hA6 hC6 hx16 hx26
   obtain ⟨z, nz, hz⟩ : ∃ z nz, (z, nz) = rnP (kyI 1) ns nb := ⟨_, _, rfl⟩
   rw [← hz] at HA6 HC6 HM6 ⊢
   have HZ := hide hz
   clear hz
   simp only at HA6 HC6 HM6 ⊢
   go_simp
   refine hK.out _ _ (by exact HXX.out) (fun hHeld => ?_)
   clear hK K
   try simp only [Act.put, sq]
   refine tkq (v := ?_) 4 rfl ?_ ?_
   rotate_left
   ·intro w' hSw
    go_simp <;> with_reducible rfl
   try simp only [Act.put, sq]
   have q0 := HP6.out.cell 0
   have q1 := HP6.out.cell 1
   have q2 := HP6.out.cell 2
   have q3 := HP6.out.cell 3
   have q4 := HP6.out.cell 4
   have q5 := HP6.out.cell 5
   have q6 := HP6.out.cell 6
   have q7 := HP6.out.cell 7
   have qf := HP6.out.frozen
   have ql : P < w6.heap.size := HP6.out.lt
   refine rdq 5 rfl fun K hK => ?_
   go_simp
   refine hK.out _ _ (by exact ⟨(((HXX.out.1.setOther _ _ (by have h1 := HSZ.out; have h2 := HRP.out; omega)).setOther _ _ (by have h1 := HSZ.out; have h2 := HRP.out; omega)).setOther _ _ (by have h1 := HSZ.out; have h2 := HRP.out; omega)).setOther _ _ (by have h1 := HSZ.out; have h2 := HRP.out; omega), (((HXX.out.2.setOther _ _ (by have h1 := HSZ.out; have h2 := HRP.out; omega)).setOther _ _ (by have h1 := HSZ.out; have h2 := HRP.out; omega)).setOther _ _ (by have h1 := HSZ.out; have h2 := HRP.out; omega)).setOther _ _ (by have h1 := HSZ.out; have h2 := HRP.out; omega)⟩) (fun hHeld => ?_)
   clear hK K
   try simp only [Act.put, sq]
   refine wpAnyH_done (by kernel_rfl) ?_ _
   clear q0 q1 q2 q3 q4 q5 q6 q7
   go_wp2_with fail
   go_roundw
   case rel =>
    have g1 := HG.out
    have g2 := HRP.out
    have g3 := HSZ.out
    have hap : ApS w P R B r Bn #[.string x.l.name, .slice b1 x.l.args.length d1, .string x.r.name, .slice b2 x.r.args.length d2, .string z.l.name, .slice e1 z.l.args.length f1, .string z.r.name, .slice e2 z.r.args.length f2] nz ((((w6.setCell ⟨P, 4, none⟩ (.string z.l.name)).setCell ⟨P, 5, none⟩ (.slice e1 z.l.args.length f1)).setCell ⟨P, 6, none⟩ (.string z.r.name)).setCell ⟨P, 7, none⟩ (.slice e2 z.r.args.length f2)) :=
     ⟨(((HP6.out.set 4 _).set 5 _).set 6 _).set 7 _, (((HR6.out.setOther _ _ (by omega)).setOther _ _ (by omega)).setOther _ _ (by omega)).setOther _ _ (by omega), nm_set (nm_set (nm_set (nm_set HM6.out (by omega) (by omega)) (by omega) (by omega)) (by omega) (by omega)) (by omega) (by omega), (((HN6.out.setOther _ _ (by omega)).setOther _ _ (by omega)).setOther _ _ (by omega)).setOther _ _ (by omega), (((HB6.out.setCell (p := ⟨P, 4, none⟩) (by simp; omega) _).setCell (p := ⟨P, 5, none⟩) (by simp; omega) _).setCell (p := ⟨P, 6, none⟩) (by simp; omega) _).setCell (p := ⟨P, 7, none⟩) (by simp; omega) _, HG.out⟩
    have kp : ∀ {a : Option Addr} {l : List Tm}, Sl w6 (fun b => w.heap.size + 2 ≤ b ∧ b ≠ r) a l → Sl ((((w6.setCell ⟨P, 4, none⟩ (.string z.l.name)).setCell ⟨P, 5, none⟩ (.slice e1 z.l.args.length f1)).setCell ⟨P, 6, none⟩ (.string z.r.name)).setCell ⟨P, 7, none⟩ (.slice e2 z.r.args.length f2)) (fun b => w.heap.size + 2 ≤ b ∧ b ≠ r) a l := fun h => h.kept fun b hb => by
     have hne : b ≠ P := by omega
     rw [Below.heap_setCell _ _ _ _ (by simpa using hne), Below.heap_setCell _ _ _ _ (by simpa using hne), Below.heap_setCell _ _ _ _ (by simpa using hne), Below.heap_setCell _ _ _ _ (by simpa using hne)]
    exact Or.inr (Or.inr ⟨rfl, x, z, b1, d1, b2, d2, e1, f1, e2, f2, nz, by unfold apR; rw [← HX0.out]; simp only; rw [← HZ.out], hap, kp hx1H.out, kp hx2H.out, kp HA6.out, kp HC6.out⟩)
   case measure => simp [intOf]
  ·have HX0 := hide hx
   have HS9 := hide hS
   have H1 := hide hx1
   have H2 := hide hx2
   have H3 := hide hx3
   have H4 := hide hx4
   have q0 := hS.pb.cell 0
   have q1 := hS.pb.cell 1
   have q2 := hS.pb.cell 2
   have q3 := hS.pb.cell 3
   have q4 := hS.pb.cell 4
   have q5 := hS.pb.cell 5
   have q6 := hS.pb.cell 6
   have q7 := hS.pb.cell 7
   have s0 := hS.rb.cell 0
   have s1 := hS.rb.cell 1
   have s2 := hS.rb.cell 2
   have s3 := hS.rb.cell 3
   have s4 := hS.rb.cell 4
   have s5 := hS.rb.cell 5
   have s6 := hS.rb.cell 6
   have s7 := hS.rb.cell 7
   have sf := hS.rb.frozen
   have sl : R < wr.heap.size := hS.rb.lt
   clear hS hx hx1 hx2 hx3 hx4
   go_wp2_with fail
   refine bodyPost_ret (v := .agg #[.string x.l.name, .slice b1 x.l.args.length d1, .string x.r.name, .slice b2 x.r.args.length d2, .string y.l.name, .slice b3 y.l.args.length d3, .string y.r.name, .slice b4 y.r.args.length d4]) (by simp [results, Tryz.results19, go_sem, World.cell?_setCell_same, World.cell?_setCell_other, s0, s1, s2, s3, s4, s5, s6, s7, sl]) rfl ?_
   have g1 := HS9.out.sz
   have g2 := HRP.out
   have kp : ∀ {a : Option Addr} {l : List Tm}, Sl wr (fun b => w.heap.size + 2 ≤ b ∧ b ≠ r) a l → Sl ((((((((wr.setCell ⟨R, 0, none⟩ (.string x.l.name)).setCell ⟨R, 1, none⟩ (.slice b1 x.l.args.length d1)).setCell ⟨R, 2, none⟩ (.string x.r.name)).setCell ⟨R, 3, none⟩ (.slice b2 x.r.args.length d2)).setCell ⟨R, 4, none⟩ (.string y.l.name)).setCell ⟨R, 5, none⟩ (.slice b3 y.l.args.length d3)).setCell ⟨R, 6, none⟩ (.string y.r.name)).setCell ⟨R, 7, none⟩ (.slice b4 y.r.args.length d4)) (fun b => w.heap.size ≤ b) a l := fun h => (h.kept fun b hb => by
    have hne : b ≠ R := by omega
    rw [Below.heap_setCell _ _ _ _ (by simpa using hne), Below.heap_setCell _ _ _ _ (by simpa using hne), Below.heap_setCell _ _ _ _ (by simpa using hne), Below.heap_setCell _ _ _ _ (by simpa using hne), Below.heap_setCell _ _ _ _ (by simpa using hne), Below.heap_setCell _ _ _ _ (by simpa using hne), Below.heap_setCell _ _ _ _ (by simpa using hne), Below.heap_setCell _ _ _ _ (by simpa using hne)]).mono fun b hb _ => by omega
   exact ⟨((((((((HS9.out.bl.setCell (p := ⟨R, 0, none⟩) (by simp; omega) _).setCell (p := ⟨R, 1, none⟩) (by simp; omega) _).setCell (p := ⟨R, 2, none⟩) (by simp; omega) _).setCell (p := ⟨R, 3, none⟩) (by simp; omega) _).setCell (p := ⟨R, 4, none⟩) (by simp; omega) _).setCell (p := ⟨R, 5, none⟩) (by simp; omega) _).setCell (p := ⟨R, 6, none⟩) (by simp; omega) _).setCell (p := ⟨R, 7, none⟩) (by simp; omega) _), x, y, b1, d1, b2, d2, b3, d3, b4, d4, HX0.out, rfl, kp H1.out, kp H2.out, kp H3.out, kp H4.out⟩
end Go.Proofs.YtbnmlkaejdpigaaGreatDoor
