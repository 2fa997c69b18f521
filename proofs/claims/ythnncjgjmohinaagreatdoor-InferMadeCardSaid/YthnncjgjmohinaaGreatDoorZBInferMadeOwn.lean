/- Several texts in one. -/
import Derived.Test.YthnncjgjmohinaaGreatDoorZInferMadeOwn
import Derived.Laws.EntriesVeiled
import Derived.Deep.RegionHeld3
import Derived.Sort.Grow
import Derived.Maps.RangeRun
import Derived.Laws.IdiomStrings
import Derived.Deep.RegionHeld
import Derived.Lib.Builder
import Derived.Lib.AppendStr
import Derived.Deep.AppendSrc
import Derived.Test.YthnncjgjmohinaaGreatDoorShelf
import Derived.Deep.DeepCutAuto
import Derived.Laws.OwnMore
import Derived.Lib.AppendIntMem
import Derived.Ground.SlgnProg
import Derived.Shelf.SlicesE.Clone
namespace Go.Proofs.YthnncjgjmohinaaGreatDoor
open Go.RowKit
set_option linter.unusedSimpArgs false
set_option linter.unusedVariables false
set_option maxRecDepth 8000
def fN (ls : List Bd) (s : ByteArray) (bs : List Tm) : Tm := if varB s = true then (match forT ls s with | some x => x | none => ⟨s, bs⟩) else ⟨s, bs⟩
def fL (ls : List Bd) : List Tm → List Tm
 | [] => []
 | ⟨s, a⟩ :: r => fN ls s (fL ls a) :: fL ls r
def fT (ls : List Bd) (t : Tm) : Tm := fN ls t.name (fL ls t.args)
def Env (w : World) (B r : Nat) (X : Nat → Prop) (ls : List Bd) (L : List (ByteArray × Value)) : Prop := Blk w B #[.map (some r)] 106 ∧ MapAt w r L ∧ PairsL w X ls L
theorem Env.ex {w w' : World} {B r F : Nat} {X : Nat → Prop} {ls : List Bd} {L : List (ByteArray × Value)} (h : Env w B r X ls L) (he : Ex F w w') (hB : B ≠ F) (hr : r ≠ F) (hX : ∀ b, X b → b ≠ F) : Env w' B r X ls L :=
 ⟨h.1.ex he hB, h.2.1.kept (he.block r h.2.1.lt hr), h.2.2.imp fun a l hs => hs.ex he hX⟩
theorem Env.later {w w' : World} {B r : Nat} {X : Nat → Prop} {ls : List Bd} {L : List (ByteArray × Value)} (h : Env w B r X ls L) (hb : Below w.heap.size w w') : Env w' B r X ls L :=
 ⟨h.1.below hb h.1.lt, h.2.1.below hb h.2.1.lt, h.2.2.imp fun a l hs => hs.later hb⟩
theorem way1 {w0 w1 : World} (h : Below w0.drew.heap.size w0.drew w1) : Below w0.heap.size w0 w1 := ((Below.refl w0.heap.size w0).drew).trans h
theorem way2 {w0 w1 : World} {o : Obj} (h : Below (w0.alloc o).drew.heap.size (w0.alloc o).drew w1) : Below w0.heap.size w0 w1 := (((Below.refl w0.heap.size w0).alloc (Nat.le_refl _) o).drew).trans (h.mono (by simp))
theorem way2b {w0 w1 : World} {cs : Array Value} {T : Nat} (h : Below (w0.alloc (.cells cs T)).drew.heap.size (w0.alloc (.cells cs T)).drew w1) : Blk w1 w0.heap.size cs T := ((Blk.new w0 cs T).drewN 1).below h (by simp)
theorem ff_end {w W w9 : World} {F : Nat} {sv : Value} {t : Tm} {n : Nat} {s' : ByteArray} {a' : Option Addr} {l' c' : Nat} {m : Int} {v0 v1 : Value} (hF : F < w.heap.size) (hW : w.heap.size + 2 ≤ W.heap.size) (h1 : Blk w9 F #[.int .i64 m, sv] 122) (hx : Ex F w w9) (hy : sizeL [t] ≤ n → m = (n : Int) - sizeL [t] ∧ s' = t.name ∧ l' = t.args.length ∧ Sl w9 (fun b => W.heap.size ≤ b) a' t.args) (hn : n < sizeL [t] → m = -1) :
  CpPost w F sv t n (.returned (.agg #[.string s', .slice a' l' c'])) ((w9.setCell ⟨w.heap.size + 1, 0, none⟩ v0).setCell ⟨w.heap.size + 1, 1, none⟩ v1) := by
 refine ⟨s', a', l', c', m, rfl, (h1.setOther _ _ (by omega)).setOther _ _ (by omega), (hx.setNew (by omega) _ _).setNew (by omega) _ _, fun h => ?_, hn⟩
 obtain ⟨e1, e2, e3, e4⟩ := hy h
 refine ⟨e1, e2, e3, (e4.kept fun b hb => ?_).mono fun b hb _ => by omega⟩
 rw [Below.heap_setCell _ _ _ _ (by simp; omega), Below.heap_setCell _ _ _ _ (by simp; omega)]
theorem Ex.ofBelow {B : Nat} {w w' : World} (h : Below w.heap.size w w') : Ex B w w' := ⟨h.os, h.tape, h.output, h.size, fun k hk _ => h.block k hk⟩
theorem two_keep {w : World} {F T b : Nat} {u v x : Value} {i j k : Nat} (h : w.cell? ⟨F, i, none⟩ = some u ∧ w.cell? ⟨T, j, none⟩ = some v) (h1 : b ≠ F) (h2 : b ≠ T) : (w.setCell ⟨b, k, none⟩ x).cell? ⟨F, i, none⟩ = some u ∧ (w.setCell ⟨b, k, none⟩ x).cell? ⟨T, j, none⟩ = some v :=
 ⟨(World.cell?_setCell_other _ _ _ _ (fun e => h1 (by injection e))).trans h.1, (World.cell?_setCell_other _ _ _ _ (fun e => h2 (by injection e))).trans h.2⟩
set_option maxHeartbeats 1000000 in
theorem ffill_of (F B r : Nat) (ls : List Bd) (L : List (ByteArray × Value)) (t : Tm) (n : Nat) (a : Option Addr) (c : Nat) (w : World) (X : Nat → Prop) (hn : n ≤ 1000000) (hXF : ∀ b, X b → b ≠ F) (hBF : B ≠ F) (hrF : r ≠ F) (hs : Sl w X a t.args) (hF : Blk w F #[.int .i64 (n : Int), .func (.func 81) #[] #[.pointer (some ⟨B, 0, none⟩)]] 122) (hE : Env w B r X ls L)
  (h : ∀ w', Sl w' X a t.args → Blk w' F #[.int .i64 (n : Int), .func (.func 81) #[] #[.pointer (some ⟨B, 0, none⟩)]] 122 → Env w' B r X ls L → Calls Tryz.prog 95 #[.pointer (some ⟨F, 0, none⟩), .agg #[.string t.name, .slice a t.args.length c], .func (.func 80) #[.pointer (some ⟨F, 0, none⟩)] #[]] w' fun e w'' => CpPost w' F (.func (.func 81) #[] #[.pointer (some ⟨B, 0, none⟩)]) ⟨t.name, fL ls t.args⟩ n e w'') :
  Calls Tryz.prog 80 #[.pointer (some ⟨F, 0, none⟩), .agg #[.string t.name, .slice a t.args.length c]] w fun e w' => CpPost w F (.func (.func 81) #[] #[.pointer (some ⟨B, 0, none⟩)]) (fT ls t) n e w' := by
 have hmf : ∀ (fn : Fn) (first cap : Array Value) (w : World), (Instr.makeFunc fn first cap).run Tryz.prog w = .ok (.func fn first cap) w := fun _ _ _ _ => rfl
 have H := hide h
 have HS := hide hs
 have HF := hide hF
 have HE := hide hE
 have hFl : F < w.heap.size := hF.lt
 clear h hs hF hE
 have HB0 := hide (((Below.refl w.heap.size w).alloc (Nat.le_refl _) (.cells #[.string t.name, .slice a t.args.length c] 48)).alloc (by simp) (.cells #[.string ⟨#[]⟩, .slice none 0 0] 48))
 have f1 : ∀ o o', ((w.alloc o).alloc o').cell? ⟨F, 1, none⟩ = some (.func (.func 81) #[] #[.pointer (some ⟨B, 0, none⟩)]) := fun o o' => ((HF.out.alloc o).alloc o').cell 1
 cases hv : varB t.name with
 | false =>
  have HV := hide hv
  have HT : Hid (fT ls t = ⟨t.name, fL ls t.args⟩) := by unfold Hid fT fN; rw [hv]; rfl
  clear hv
  go_enter Tryz.func80, Tryz.ntmps80
  go_wp2_with (go_at_call 82; refine (isVariable_all _ _).mono ?_; rintro e w' ⟨rfl, rfl⟩; rw [HV.out])
  have RW : Hid (Blk ((w.alloc (.cells #[.string t.name, .slice a t.args.length c] 48)).alloc (.cells #[.string ⟨#[]⟩, .slice none 0 0] 48)) (w.heap.size + 1) #[.string ⟨#[]⟩, .slice none 0 0] 48) := by
   have h := Blk.new (w.alloc (.cells #[.string t.name, .slice a t.args.length c] 48)) #[.string ⟨#[]⟩, .slice none 0 0] 48
   unfold Hid
   simpa using h
  have EXW := hide (((Ex.refl F w).alloc (.cells #[.string t.name, .slice a t.args.length c] 48)).alloc (.cells #[.string ⟨#[]⟩, .slice none 0 0] 48))
  have hW2 : Hid (w.heap.size + 2 ≤ ((w.alloc (.cells #[.string t.name, .slice a t.args.length c] 48)).alloc (.cells #[.string ⟨#[]⟩, .slice none 0 0] 48)).heap.size) := by unfold Hid; simp
  refine (H.out _ (HS.out.later HB0.out) (by exact (HF.out.alloc _).alloc _) (HE.out.later HB0.out)).mono ?_
  rintro e w9 ⟨s', a', l', c', m, rfl, hF1, hx1, hy1, hn1⟩
  have R9 := hide (RW.out.ex hx1 (by omega))
  have HX9 := hide (EXW.out.trans hx1)
  have HF9 := hide hF1
  have HY := hide hy1
  have HN := hide hn1
  have HSZ := hide (EXW.out.size)
  clear hF1 hx1 hy1 hn1
  have r0 := R9.out.c0
  have r1 := R9.out.c1
  have rf := R9.out.frozen
  go_wp2_with fail
  refine bodyPost_ret (v := .agg #[.string s', .slice a' l' c']) (by simp [results, Tryz.results80, go_sem, World.cell?_setCell_same, World.cell?_setCell_other, r0, r1]) rfl ?_
  rw [HT.out]
  exact ff_end (by omega) hW2.out HF9.out HX9.out HY.out HN.out
 | true =>
  have HV := hide hv
  clear hv
  have RW : Hid (Blk ((w.alloc (.cells #[.string t.name, .slice a t.args.length c] 48)).alloc (.cells #[.string ⟨#[]⟩, .slice none 0 0] 48)) (w.heap.size + 1) #[.string ⟨#[]⟩, .slice none 0 0] 48) := by
   have h := Blk.new (w.alloc (.cells #[.string t.name, .slice a t.args.length c] 48)) #[.string ⟨#[]⟩, .slice none 0 0] 48
   unfold Hid
   simpa using h
  have EXW := hide (((Ex.refl F w).alloc (.cells #[.string t.name, .slice a t.args.length c] 48)).alloc (.cells #[.string ⟨#[]⟩, .slice none 0 0] 48))
  have hW2 : Hid (w.heap.size + 2 ≤ ((w.alloc (.cells #[.string t.name, .slice a t.args.length c] 48)).alloc (.cells #[.string ⟨#[]⟩, .slice none 0 0] 48)).heap.size) := by unfold Hid; simp
  have E0 := hide (HE.out.later HB0.out)
  have F0 := hide ((HF.out.alloc (.cells #[.string t.name, .slice a t.args.length c] 48)).alloc (.cells #[.string ⟨#[]⟩, .slice none 0 0] 48))
  have S0 := hide (HS.out.later HB0.out)
  have T0 := hide ((Blk.new w #[.string t.name, .slice a t.args.length c] 48).alloc (.cells #[.string ⟨#[]⟩, .slice none 0 0] 48))
  have g1 := F0.out.cell 1
  have g0 := T0.out.cell 0
  simp only [List.getElem?_toArray, List.getElem?_cons_succ, List.getElem?_cons_zero] at g1 g0
  cases hf : forT ls t.name with
  | some x =>
   have HT : Hid (fT ls t = x) := by unfold Hid fT fN; rw [HV.out, hf]; rfl
   have LKA : Hid (∀ w', Below ((w.alloc (.cells #[.string t.name, .slice a t.args.length c] 48)).alloc (.cells #[.string ⟨#[]⟩, .slice none 0 0] 48)).heap.size ((w.alloc (.cells #[.string t.name, .slice a t.args.length c] 48)).alloc (.cells #[.string ⟨#[]⟩, .slice none 0 0] 48)) w' → Calls Tryz.prog 81 #[.string t.name, .pointer (some ⟨B, 0, none⟩)] w' fun e w'' => ∃ ax cx, e = .returned (.tuple #[.agg #[.string x.name, .slice ax x.args.length cx], .bool true]) ∧ Below w'.heap.size w' w'' ∧ Sl w'' (fun b => X b ∧ b < w.heap.size) ax x.args) := fun w' hb => by
    have E1 : Env w B r (fun b => X b ∧ b < w.heap.size) ls L := ⟨HE.out.1, HE.out.2.1, HE.out.2.2.imp fun a l hs => hs.mono fun b h1 h2 => ⟨h1, h2⟩⟩
    obtain ⟨h1, h2, h3⟩ := (E1.later HB0.out).later hb
    refine (look1_any ls t.name B r L w' _ h1 h2 h3).mono fun e w'' hp => ?_
    obtain ⟨hb2, hc⟩ := hp
    rcases hc with ⟨y, ay, cy, hy, he, hsy⟩ | ⟨hy, _⟩
    ·rw [hf] at hy; cases hy; exact ⟨ay, cy, he, hb2, hsy.later hb2⟩
    ·rw [hf] at hy; cases hy
   have HKP : Hid (∀ w', Below ((w.alloc (.cells #[.string t.name, .slice a t.args.length c] 48)).alloc (.cells #[.string ⟨#[]⟩, .slice none 0 0] 48)).heap.size ((w.alloc (.cells #[.string t.name, .slice a t.args.length c] 48)).alloc (.cells #[.string ⟨#[]⟩, .slice none 0 0] 48)) w' → w'.cell? ⟨F, 1, none⟩ = some (.func (.func 81) #[] #[.pointer (some ⟨B, 0, none⟩)]) ∧ w'.cell? ⟨w.heap.size, 0, none⟩ = some (.string t.name)) := fun w' hb => ⟨(F0.out.below hb F0.out.lt).cell 1, (T0.out.below hb T0.out.lt).cell 0⟩
   have nF : ((w.alloc (.cells #[.string t.name, .slice a t.args.length c] 48)).alloc (.cells #[.string ⟨#[]⟩, .slice none 0 0] 48)).heap.size ≠ F := by have := hW2.out; omega
   have nT : ((w.alloc (.cells #[.string t.name, .slice a t.args.length c] 48)).alloc (.cells #[.string ⟨#[]⟩, .slice none 0 0] 48)).heap.size ≠ w.heap.size := by have := hW2.out; omega
   clear hf f1
   go_enter Tryz.func80, Tryz.ntmps80
   go_wp2_with (go_at_call 82; refine (isVariable_all _ _).mono ?_; rintro e w' ⟨rfl, rfl⟩; rw [HV.out])
   generalize ((w.alloc (.cells #[.string t.name, .slice a t.args.length c] 48)).alloc (.cells #[.string ⟨#[]⟩, .slice none 0 0] 48)) = w0 at *
   go_region_held3 (fun w' => w'.cell? ⟨F, 1, none⟩ = some (.func (.func 81) #[] #[.pointer (some ⟨B, 0, none⟩)]) ∧ w'.cell? ⟨w.heap.size, 0, none⟩ = some (.string t.name)) (first | exact hS | exact ⟨g1, g0⟩ | exact two_keep hS nF nT | exact two_keep (two_keep hS nF nT) nF nT | go_keep)
    ((go_at_call 81; refine (LKA.out _ (by first | exact (Below.refl _ _).drew | exact ((Below.refl _ _).alloc (Nat.le_refl _) _).drew)).mono ?_; rintro e w1 ⟨ax, cx, rfl, hb1, hsx⟩; have HSX := hide hsx; clear hsx; (first | (have hB0 := way1 hb1; have hS := HKP.out _ hB0) | (have hB0 := way2 hb1; have xb := hide (way2b hb1); have x0 := xb.out.cell 0; have x1 := xb.out.cell 1; have xf := xb.out.frozen; have hS := HKP.out _ hB0))))
   ·generalize hz : (w1.alloc (Obj.cells #[Value.string x.name, Value.slice ax x.args.length cx] 48)) = wz at *
    have hbz : Below w0.heap.size w0 wz := by rw [← hz]; exact hB0.alloc hB0.size _
    have HSZ : Hid (Sl wz (fun b => X b ∧ b < w.heap.size) ax x.args) := by rw [← hz]; exact HSX.out.later ((Below.refl _ _).alloc (Nat.le_refl _) _)
    have q0 : wz.cell? ⟨w1.heap.size, 0, none⟩ = some (.string x.name) := by rw [← hz]; exact (Blk.new w1 _ _).cell 0
    have q1 : wz.cell? ⟨w1.heap.size, 1, none⟩ = some (.slice ax x.args.length cx) := by rw [← hz]; exact (Blk.new w1 _ _).cell 1
    have hwz : Hid (w.heap.size + 2 ≤ wz.heap.size) := Nat.le_trans hW2.out hbz.size
    have HBZ := hide hbz
    clear hbz hz
    go_wp2_with fail
    refine (knotC_any F _ x n _ wz (fun b => X b ∧ b < w.heap.size) ⟨ax, cx, rfl, HSZ.out⟩ (fun b hb => hXF b hb.1) hn (F0.out.below HBZ.out F0.out.lt)).mono ?_
    rintro e w9 ⟨s', a', l', c', m, rfl, hF1, hx1, hy1, hn1⟩
    have R9 := hide ((RW.out.below HBZ.out RW.out.lt).ex hx1 (by omega))
    have HX9 := hide ((EXW.out.trans (Ex.ofBelow HBZ.out)).trans hx1)
    have HF9 := hide hF1
    have HY := hide hy1
    have HN := hide hn1
    clear hF1 hx1 hy1 hn1
    have r0 := R9.out.c0
    have r1 := R9.out.c1
    have rf := R9.out.frozen
    go_wp2_with fail
    refine bodyPost_ret (v := .agg #[.string s', .slice a' l' c']) (by simp [results, Tryz.results80, go_sem, World.cell?_setCell_same, World.cell?_setCell_other, r0, r1]) rfl ?_
    rw [HT.out]
    exact ff_end (by omega) hwz.out HF9.out HX9.out HY.out HN.out
   ·generalize hz : ((w1.setCell { block := w0.heap.size, off := 0 } (Value.string x.name)).setCell { block := w0.heap.size, off := 1 } (Value.slice ax x.args.length cx)) = wz at *
    have hbz : Below w0.heap.size w0 wz := by rw [← hz]; exact (hB0.setCell (Nat.le_refl _) _).setCell (Nat.le_refl _) _
    have HSZ : Hid (Sl wz (fun b => X b ∧ b < w.heap.size) ax x.args) := by
     rw [← hz]
     refine HSX.out.kept fun b hb => ?_
     have hb2 := hb.2
     have hb3 := hW2.out
     rw [Below.heap_setCell _ _ _ _ (by simp; omega), Below.heap_setCell _ _ _ _ (by simp; omega)]
    have q0 : wz.cell? ⟨w0.heap.size, 0, none⟩ = some (.string x.name) := by rw [← hz]; simp [World.cell?_setCell_same, World.cell?_setCell_other, x0, x1]
    have q1 : wz.cell? ⟨w0.heap.size, 1, none⟩ = some (.slice ax x.args.length cx) := by rw [← hz]; simp [World.cell?_setCell_same, World.cell?_setCell_other, x0, x1]
    have hwz : Hid (w.heap.size + 2 ≤ wz.heap.size) := Nat.le_trans hW2.out hbz.size
    have HBZ := hide hbz
    clear hbz hz
    go_wp2_with fail
    refine (knotC_any F _ x n _ wz (fun b => X b ∧ b < w.heap.size) ⟨ax, cx, rfl, HSZ.out⟩ (fun b hb => hXF b hb.1) hn (F0.out.below HBZ.out F0.out.lt)).mono ?_
    rintro e w9 ⟨s', a', l', c', m, rfl, hF1, hx1, hy1, hn1⟩
    have R9 := hide ((RW.out.below HBZ.out RW.out.lt).ex hx1 (by omega))
    have HX9 := hide ((EXW.out.trans (Ex.ofBelow HBZ.out)).trans hx1)
    have HF9 := hide hF1
    have HY := hide hy1
    have HN := hide hn1
    clear hF1 hx1 hy1 hn1
    have r0 := R9.out.c0
    have r1 := R9.out.c1
    have rf := R9.out.frozen
    go_wp2_with fail
    refine bodyPost_ret (v := .agg #[.string s', .slice a' l' c']) (by simp [results, Tryz.results80, go_sem, World.cell?_setCell_same, World.cell?_setCell_other, r0, r1]) rfl ?_
    rw [HT.out]
    exact ff_end (by omega) hwz.out HF9.out HX9.out HY.out HN.out
  | none =>
   have HT : Hid (fT ls t = ⟨t.name, fL ls t.args⟩) := by unfold Hid fT fN; rw [HV.out, hf]; rfl
   have LKA : Hid (∀ w', Below ((w.alloc (.cells #[.string t.name, .slice a t.args.length c] 48)).alloc (.cells #[.string ⟨#[]⟩, .slice none 0 0] 48)).heap.size ((w.alloc (.cells #[.string t.name, .slice a t.args.length c] 48)).alloc (.cells #[.string ⟨#[]⟩, .slice none 0 0] 48)) w' → Calls Tryz.prog 81 #[.string t.name, .pointer (some ⟨B, 0, none⟩)] w' fun e w'' => e = .returned (.tuple #[.agg #[.string ⟨#[]⟩, .slice none 0 0], .bool false]) ∧ Below w'.heap.size w' w'') := fun w' hb => by
    obtain ⟨h1, h2, h3⟩ := E0.out.later hb
    refine (look1_any ls t.name B r L w' X h1 h2 h3).mono fun e w'' hp => ?_
    obtain ⟨hb2, hc⟩ := hp
    rcases hc with ⟨x, _, _, hx, _⟩ | ⟨_, he⟩
    ·rw [hf] at hx; cases hx
    ·exact ⟨he, hb2⟩
   have HKP : Hid (∀ w', Below ((w.alloc (.cells #[.string t.name, .slice a t.args.length c] 48)).alloc (.cells #[.string ⟨#[]⟩, .slice none 0 0] 48)).heap.size ((w.alloc (.cells #[.string t.name, .slice a t.args.length c] 48)).alloc (.cells #[.string ⟨#[]⟩, .slice none 0 0] 48)) w' → w'.cell? ⟨F, 1, none⟩ = some (.func (.func 81) #[] #[.pointer (some ⟨B, 0, none⟩)]) ∧ w'.cell? ⟨w.heap.size, 0, none⟩ = some (.string t.name)) := fun w' hb => ⟨(F0.out.below hb F0.out.lt).cell 1, (T0.out.below hb T0.out.lt).cell 0⟩
   have nF : ((w.alloc (.cells #[.string t.name, .slice a t.args.length c] 48)).alloc (.cells #[.string ⟨#[]⟩, .slice none 0 0] 48)).heap.size ≠ F := by have := hW2.out; omega
   have nT : ((w.alloc (.cells #[.string t.name, .slice a t.args.length c] 48)).alloc (.cells #[.string ⟨#[]⟩, .slice none 0 0] 48)).heap.size ≠ w.heap.size := by have := hW2.out; omega
   clear hf f1
   go_enter Tryz.func80, Tryz.ntmps80
   go_wp2_with (go_at_call 82; refine (isVariable_all _ _).mono ?_; rintro e w' ⟨rfl, rfl⟩; rw [HV.out])
   generalize ((w.alloc (.cells #[.string t.name, .slice a t.args.length c] 48)).alloc (.cells #[.string ⟨#[]⟩, .slice none 0 0] 48)) = w0 at *
   go_region_held3 (fun w' => w'.cell? ⟨F, 1, none⟩ = some (.func (.func 81) #[] #[.pointer (some ⟨B, 0, none⟩)]) ∧ w'.cell? ⟨w.heap.size, 0, none⟩ = some (.string t.name)) (first | exact hS | exact ⟨g1, g0⟩ | exact two_keep hS nF nT | exact two_keep (two_keep hS nF nT) nF nT | go_keep)
    ((go_at_call 81; refine (LKA.out _ (by first | exact (Below.refl _ _).drew | exact ((Below.refl _ _).alloc (Nat.le_refl _) _).drew)).mono ?_; rintro e w1 ⟨rfl, hb1⟩; (first | (have hB0 := way1 hb1; have hS := HKP.out _ hB0) | (have hB0 := way2 hb1; have xb := hide (way2b hb1); have x0 := xb.out.cell 0; have x1 := xb.out.cell 1; have xf := xb.out.frozen; have hS := HKP.out _ hB0))))
   ·generalize hz : (w1.alloc (Obj.cells #[Value.string { data := #[] }, Value.slice none 0 0] 48)) = wz at *
    have hbz : Below w0.heap.size w0 wz := by rw [← hz]; exact hB0.alloc hB0.size _
    have t0 : wz.cell? ⟨w.heap.size, 0, none⟩ = some (.string t.name) := (T0.out.below hbz T0.out.lt).cell 0
    have t1 : wz.cell? ⟨w.heap.size, 1, none⟩ = some (.slice a t.args.length c) := (T0.out.below hbz T0.out.lt).cell 1
    have hwz : Hid (w.heap.size + 2 ≤ wz.heap.size) := Nat.le_trans hW2.out hbz.size
    have HBZ := hide hbz
    clear hbz
    go_wp2_with fail
    refine (H.out _ (S0.out.later HBZ.out) (F0.out.below HBZ.out F0.out.lt) (E0.out.later HBZ.out)).mono ?_
    rintro e w9 ⟨s', a', l', c', m, rfl, hF1, hx1, hy1, hn1⟩
    have R9 := hide ((RW.out.below HBZ.out RW.out.lt).ex hx1 (by omega))
    have HX9 := hide ((EXW.out.trans (Ex.ofBelow HBZ.out)).trans hx1)
    have HF9 := hide hF1
    have HY := hide hy1
    have HN := hide hn1
    clear hF1 hx1 hy1 hn1
    have r0 := R9.out.c0
    have r1 := R9.out.c1
    have rf := R9.out.frozen
    go_wp2_with fail
    refine bodyPost_ret (v := .agg #[.string s', .slice a' l' c']) (by simp [results, Tryz.results80, go_sem, World.cell?_setCell_same, World.cell?_setCell_other, r0, r1]) rfl ?_
    rw [HT.out]
    exact ff_end (by omega) hwz.out HF9.out HX9.out HY.out HN.out
   ·generalize hz : ((w1.setCell { block := w0.heap.size, off := 0 } (Value.string { data := #[] })).setCell { block := w0.heap.size, off := 1 } (Value.slice none 0 0)) = wz at *
    have hbz : Below w0.heap.size w0 wz := by rw [← hz]; exact (hB0.setCell (Nat.le_refl _) _).setCell (Nat.le_refl _) _
    have t0 : wz.cell? ⟨w.heap.size, 0, none⟩ = some (.string t.name) := (T0.out.below hbz T0.out.lt).cell 0
    have t1 : wz.cell? ⟨w.heap.size, 1, none⟩ = some (.slice a t.args.length c) := (T0.out.below hbz T0.out.lt).cell 1
    have hwz : Hid (w.heap.size + 2 ≤ wz.heap.size) := Nat.le_trans hW2.out hbz.size
    have HBZ := hide hbz
    clear hbz
    go_wp2_with fail
    refine (H.out _ (S0.out.later HBZ.out) (F0.out.below HBZ.out F0.out.lt) (E0.out.later HBZ.out)).mono ?_
    rintro e w9 ⟨s', a', l', c', m, rfl, hF1, hx1, hy1, hn1⟩
    have R9 := hide ((RW.out.below HBZ.out RW.out.lt).ex hx1 (by omega))
    have HX9 := hide ((EXW.out.trans (Ex.ofBelow HBZ.out)).trans hx1)
    have HF9 := hide hF1
    have HY := hide hy1
    have HN := hide hn1
    clear hF1 hx1 hy1 hn1
    have r0 := R9.out.c0
    have r1 := R9.out.c1
    have rf := R9.out.frozen
    go_wp2_with fail
    refine bodyPost_ret (v := .agg #[.string s', .slice a' l' c']) (by simp [results, Tryz.results80, go_sem, World.cell?_setCell_same, World.cell?_setCell_other, r0, r1]) rfl ?_
    rw [HT.out]
    exact ff_end (by omega) hwz.out HF9.out HX9.out HY.out HN.out
theorem fL_map (ls : List Bd) : ∀ l : List Tm, fL ls l = l.map (fT ls)
 | [] => by simp [fL]
 | ⟨s, a⟩ :: r => by rw [fL, fL_map ls r]; rfl
set_option maxHeartbeats 1000000 in
theorem knotF_any (F B r : Nat) (ls : List Bd) (L : List (ByteArray × Value)) (hBF : B ≠ F) (hrF : r ≠ F) (t : Tm) : ∀ (n : Nat) (v : Value) (w : World) (X : Nat → Prop), TV w X v t → (∀ b, X b → b ≠ F) → n ≤ 1000000 → Blk w F #[.int .i64 (n : Int), .func (.func 81) #[] #[.pointer (some ⟨B, 0, none⟩)]] 122 → Env w B r X ls L →
  Calls Tryz.prog 95 #[.pointer (some ⟨F, 0, none⟩), v, .func (.func 80) #[.pointer (some ⟨F, 0, none⟩)] #[]] w fun e w' => CpPost w F (.func (.func 81) #[] #[.pointer (some ⟨B, 0, none⟩)]) ⟨t.name, fL ls t.args⟩ n e w' := by
 induction t using Tm.ind with
 | h s l ih =>
  intro n v w X hv hXF hn hF hE
  obtain ⟨a, c, rfl, hs⟩ := hv
  dsimp only
  generalize hsv : Value.func (.func 81) #[] #[.pointer (some ⟨B, 0, none⟩)] = sv at *
  obtain ⟨M, hM⟩ : ∃ M, fL ls l = M := ⟨_, rfl⟩
  rw [hM]
  have hML : M.length = l.length := by rw [← hM, fL_map]; simp
  have HMK : Hid (∀ k (h : k < M.length) (h' : k < l.length), M[k] = fT ls l[k]) := fun k h h' => by subst hM; simp [fL_map]
  have HE := hide hE
  clear hE hM
  have IH := hide ih
  clear ih
  obtain ⟨i0, hi0, hz0, hz1, hz2⟩ := info_parts Tryz.infoTerm
  have f0 : ∀ o, (w.alloc o).cell? ⟨F, 0, none⟩ = some (.int .i64 (n : Int)) := fun o => (hF.alloc o).cell 0
  have ff : ∀ o, (w.alloc o).frozen? ⟨F, 0, none⟩ = false := fun o => (hF.alloc o).frozen 0
  have hFl : F < w.heap.size := hF.lt
  go_enter Tryz.func95, Tryz.ntmps95
  go_wp2_with fail
  have E3 : Hid (KnSet w F (w.heap.size + 1 + 1) s (.slice none 0 0) #[.int .i64 ((n : Int) - 1), sv] ((((w.setCell ⟨F, 0, none⟩ (.int .i64 ((n : Int) - 1))).alloc (.cells #[.string s, .slice a l.length c] 48)).alloc (.cells #[.string ⟨#[]⟩, .slice none 0 0] 48)).alloc (.cells #[.string s, .slice none 0 0] 48))) := by
   refine ⟨((((Ex.refl F w).set 0 _).alloc _).alloc _).alloc _, ?_, ?_, (((hF.set 0 _).alloc _).alloc _).alloc _, by simp [World.setCell]⟩
   ·have h := (Blk.new ((w.setCell ⟨F, 0, none⟩ (.int .i64 ((n : Int) - 1))).alloc (.cells #[.string s, .slice a l.length c] 48)) #[.string ⟨#[]⟩, .slice none 0 0] 48).alloc (.cells #[.string s, .slice none 0 0] 48)
    simpa [World.setCell] using h
   ·have h := Blk.new (((w.setCell ⟨F, 0, none⟩ (.int .i64 ((n : Int) - 1))).alloc (.cells #[.string s, .slice a l.length c] 48)).alloc (.cells #[.string ⟨#[]⟩, .slice none 0 0] 48)) #[.string s, .slice none 0 0] 48
    simpa [World.setCell] using h
  generalize ((((w.setCell ⟨F, 0, none⟩ (.int .i64 ((n : Int) - 1))).alloc (.cells #[.string s, .slice a l.length c] 48)).alloc (.cells #[.string ⟨#[]⟩, .slice none 0 0] 48)).alloc (.cells #[.string s, .slice none 0 0] 48)) = w3 at *
  generalize hOe : w.heap.size + 1 + 1 = O at *
  have hO : w.heap.size + 2 ≤ O := by omega
  clear hOe
  clear f0 ff
  have HS := hide hs
  have hl := hs.1
  have HXF := hide hXF
  have hz : sizeL [(⟨s, M⟩ : Tm)] = 1 + sizeL M := by simp [sizeL]
  clear hs hXF
  go_loopw [23] (fun i wr => KnInv w F O s sv M n i wr) (fun i wr => l.length - (intOf i).toNat)
  case atStart =>
   refine ⟨0, .slice none 0 0, Nat.zero_le _, rfl, ?_⟩
   by_cases hn0 : n = 0
   ·subst hn0
    exact Or.inr ⟨by omega, E3.out, none, 0, 0, rfl⟩
   ·refine Or.inl ⟨n - 1, [], by simp [sizeL]; omega, ?_, Row.start _ _ _ _⟩
    rw [show ((n - 1 : Nat) : Int) = (n : Int) - 1 by omega]
    exact E3.out
  case round =>
   obtain ⟨k, u, hk, rfl, hcase⟩ := hrel
   rcases hcase with ⟨m, xs, hm, hset, hrow⟩ | ⟨hbig, hset, a9, l9, c9, rfl⟩
   ·have XS := hide hset
    have XW := hide hrow
    have HMM := hide hm
    clear hset hrow
    by_cases hlt : k < l.length
    ·obtain ⟨b, o, a', c', rfl, d0, d1, hx⟩ := (HS.out.ex XS.out.1 HXF.out).get (Below.refl _ _) (fun _ _ h => h) k hlt
     obtain ⟨av, cv, ev, hsx⟩ := hx
     simp at ev
     obtain ⟨rfl, rfl⟩ := ev
     have hltM : k < M.length := by omega
     obtain ⟨y, hy⟩ : ∃ y, fT ls l[k] = y := ⟨_, rfl⟩
     have hMy : Hid (M[k] = y) := by unfold Hid; rw [HMK.out k hltM hlt, hy]
     have hmn : m ≤ 1000000 := by omega
     have HOF : Hid (O ≠ F) := by unfold Hid; omega
     have HFO1 : Hid (F < O + 1) := by unfold Hid; omega
     have hlen := sizeL_len M
     have hsk : (M.take k).length = k := by simp; omega
     have hkn : k ≤ 1000000 := by have h1 := sizeL_len (M.take k); rw [hsk] at h1; omega
     have HL1 : Hid ((M.take k).length + 1 ≤ maxLen ∧ ((M.take k).length + 1) * 40 ≤ 140737488355328) := by unfold Hid; rw [hsk]; exact ⟨by unfold maxLen; omega, by omega⟩
     clear hsk
     have IHQ : Hid (Calls Tryz.prog 80 #[.pointer (some ⟨F, 0, none⟩), .agg #[.string l[k].name, .slice a' l[k].args.length c']] (wr.alloc (.cells #[.string l[k].name, .slice a' l[k].args.length c'] 48)).drew fun e w'' => CpPost (wr.alloc (.cells #[.string l[k].name, .slice a' l[k].args.length c'] 48)).drew F sv y m e w'') := by
      have hEr : Env (wr.alloc (.cells #[.string l[k].name, .slice a' l[k].args.length c'] 48)).drew B r X ls L := ((HE.out.ex XS.out.1 hBF hrF HXF.out).later ((Below.refl _ _).alloc (Nat.le_refl _) _)).later ((Below.refl _ _).drew)
      have hFr : Blk (wr.alloc (.cells #[.string l[k].name, .slice a' l[k].args.length c'] 48)).drew F #[.int .i64 (m : Int), sv] 122 := (XS.out.2.2.2.1.alloc _).drewN 1
      have hSr : Sl (wr.alloc (.cells #[.string l[k].name, .slice a' l[k].args.length c'] 48)).drew X a' l[k].args := (hsx.later ((Below.refl _ _).alloc (Nat.le_refl _) _)).later ((Below.refl _ _).drew)
      have IH2 := IH.out l[k] (List.getElem_mem hlt) m
      rw [← hy]
      clear HMM XS XW
      subst hsv
      exact ffill_of F B r ls L l[k] m a' c' _ X hmn HXF.out hBF hrF hSr hFr hEr (fun w' h1 h2 h3 => IH2 _ w' X ⟨a', c', rfl, h1⟩ HXF.out hmn h2 h3)
     have f0 : ∀ o, (wr.alloc o).cell? ⟨F, 0, none⟩ = some (.int .i64 (m : Int)) := fun o => (XS.out.2.2.2.1.alloc o).cell 0
     have o1 : ∀ o, (wr.alloc o).cell? ⟨O, 1, none⟩ = some u := fun o => (XS.out.2.2.1.alloc o).cell 1
     have hm0 : ¬ (m : Int) < 0 := by omega
     by_cases hle : sizeL [y] ≤ m
     ·have IHG : Hid (Calls Tryz.prog 80 #[.pointer (some ⟨F, 0, none⟩), .agg #[.string l[k].name, .slice a' l[k].args.length c']] (wr.alloc (.cells #[.string l[k].name, .slice a' l[k].args.length c'] 48)).drew fun e w'' => ∃ a1 c1, e = .returned (.agg #[.string y.name, .slice a1 y.args.length c1]) ∧ Blk w'' F #[.int .i64 ((m : Int) - sizeL [y]), sv] 122 ∧ Ex F wr w'' ∧ Sl w'' (fun b => wr.heap.size ≤ b) a1 y.args) := IHQ.out.mono fun e w'' hp => by
       obtain ⟨s1, a1, l1, c1, m1, h1, h2, h3, h4, _⟩ := hp
       obtain ⟨rfl, rfl, rfl, h5⟩ := h4 hle
       exact ⟨a1, c1, h1, h2, (((Ex.refl F wr).alloc _).drew).trans h3, h5.mono fun b hb _ => by simp at hb; omega⟩
      clear IHQ
      go_wp2_with fail
      go_region_law (first
       | (go_simp; go_at_call 80; refine IHG.out.mono ?_; rintro e w1 ⟨a1, c1, rfl, hF1, he1, hs1⟩; have hc3 : ∀ o, (w1.alloc o).cell? ⟨O, 1, none⟩ = some u := fun o => ((Blk.ex XS.out.2.2.1 he1 HOF.out).alloc o).cell 1; have hc4 : w1.cell? ⟨O, 1, none⟩ = some u := (Blk.ex XS.out.2.2.1 he1 HOF.out).cell 1)
       | (refine step_append_lies _ rfl _ _ 46 rfl (O + 1) 48 i0 _ 2 40 Tryz.underlying46 hi0 hz0 hz1 hz2 rfl (by decide) u (M.take k).length xs rfl (by exact (Row.ex (B := F) XW.out he1 HFO1.out (fun h => h)).own.alloc _) ⟨w1.heap.size, 0, none⟩ 1 1 [.string y.name, .slice a1 y.args.length c1] rfl rfl (cell_two_new _ _ _ _) (fun x hx => by simp at hx; rcases hx with rfl | rfl <;> rfl) (by decide) HL1.out.1 HL1.out.2 (by have := he1.size; have := XS.out.2.2.2.2; simp; omega) _ rfl ?_; intro g cap w3 hown3 hgrow3 hat3 hlt3; have hB3 := hide (((Blk.ex XS.out.2.2.1 he1 HOF.out).alloc _).grown hgrow3 (XW.out.ne (Nat.lt_succ_self _))); have hc5 : w3.cell? ⟨O, 1, none⟩ = some u := hB3.out.cell 1; have hf5 := hB3.out.frozen 1))
      all_goals
       have HK := hide (kn_set (v := .slice (some ⟨g, 0, none⟩) ((M.take k).length + 1) cap) hFl hO XS.out (fun j hj => (XW.out.own.lt j hj).1) he1 hF1 hgrow3)
       have HRW := hide (kn_row (by omega) XS.out.2.2.2.2 XW.out he1 ⟨a1, c1, rfl, hs1⟩ hown3 hgrow3 hat3)
       clear hown3 hgrow3 hat3 hc3 hc4 hc5 hf5 hB3 hF1 he1 hs1 hlt3
       go_wp2_with fail
       go_roundw
       case rel =>
        have hkl : (M.take k).length = k := by simp; omega
        have h1 := HK.out
        have h2 := HRW.out
        have hmm := HMM.out
        simp only [hkl] at h1 h2
        have hmk : min k l.length = k := by omega
        simp only [hmk]
        refine ⟨k + 1, .slice (some ⟨g, 0, none⟩) (k + 1) cap, by omega, by go_num, Or.inl ⟨m - sizeL [y], xs ++ [.string y.name, .slice a1 y.args.length c1], by rw [sizeL_take M k hltM, hMy.out]; omega, ?_, ?_⟩⟩
        ·rw [show ((m - sizeL [y] : Nat) : Int) = (m : Int) - sizeL [y] by omega]
         exact h1
        ·rw [List.take_succ_eq_append_getElem hltM, hMy.out]
         exact h2
       case measure => simp [intOf]; omega
     ·have IHG : Hid (Calls Tryz.prog 80 #[.pointer (some ⟨F, 0, none⟩), .agg #[.string l[k].name, .slice a' l[k].args.length c']] (wr.alloc (.cells #[.string l[k].name, .slice a' l[k].args.length c'] 48)).drew fun e w'' => ∃ s1 a1 l1 c1, e = .returned (.agg #[.string s1, .slice a1 l1 c1]) ∧ Blk w'' F #[.int .i64 (-1), sv] 122 ∧ Ex F wr w'') := IHQ.out.mono fun e w'' hp => by
       obtain ⟨s1, a1, l1, c1, m1, h1, h2, h3, _, h4⟩ := hp
       obtain rfl := h4 (by omega)
       exact ⟨s1, a1, l1, c1, h1, h2, (((Ex.refl F wr).alloc _).drew).trans h3⟩
      clear IHQ
      go_wp2_with fail
      go_region_law (first
       | (go_simp; go_at_call 80; refine IHG.out.mono ?_; rintro e w1 ⟨s1, a1, l1, c1, rfl, hF1, he1⟩; have hc3 : ∀ o, (w1.alloc o).cell? ⟨O, 1, none⟩ = some u := fun o => ((Blk.ex XS.out.2.2.1 he1 HOF.out).alloc o).cell 1; have hc4 : w1.cell? ⟨O, 1, none⟩ = some u := (Blk.ex XS.out.2.2.1 he1 HOF.out).cell 1)
       | (refine step_append_lies _ rfl _ _ 46 rfl (O + 1) 48 i0 _ 2 40 Tryz.underlying46 hi0 hz0 hz1 hz2 rfl (by decide) u (M.take k).length xs rfl (by exact (Row.ex (B := F) XW.out he1 HFO1.out (fun h => h)).own.alloc _) ⟨w1.heap.size, 0, none⟩ 1 1 [.string s1, .slice a1 l1 c1] rfl rfl (cell_two_new _ _ _ _) (fun x hx => by simp at hx; rcases hx with rfl | rfl <;> rfl) (by decide) HL1.out.1 HL1.out.2 (by have := he1.size; have := XS.out.2.2.2.2; simp; omega) _ rfl ?_; intro g cap w3 hown3 hgrow3 hat3 hlt3; have hB3 := hide (((Blk.ex XS.out.2.2.1 he1 HOF.out).alloc _).grown hgrow3 (XW.out.ne (Nat.lt_succ_self _))); have hc5 : w3.cell? ⟨O, 1, none⟩ = some u := hB3.out.cell 1; have hf5 := hB3.out.frozen 1))
      all_goals
       have HK := hide (kn_set (v := .slice (some ⟨g, 0, none⟩) ((M.take k).length + 1) cap) hFl hO XS.out (fun j hj => (XW.out.own.lt j hj).1) he1 hF1 hgrow3)
       clear hown3 hgrow3 hat3 hc3 hc4 hc5 hf5 hB3 hF1 he1 hlt3
       go_wp2_with fail
       go_roundw
       case rel =>
        have hkl : (M.take k).length = k := by simp; omega
        have h0 := HK.out
        have hmm := HMM.out
        simp only [hkl] at h0
        have hmk : min k l.length = k := by omega
        simp only [hmk]
        refine ⟨k + 1, .slice (some ⟨g, 0, none⟩) (k + 1) cap, by omega, by go_num, Or.inr ⟨?_, h0, _, _, _, rfl⟩⟩
        have h1 := sizeL_take M k hltM
        rw [hMy.out] at h1
        have h2 := sizeL_take_le M (k + 1)
        omega
       case measure => simp [intOf]; omega
    ·have htk : M.take k = M := List.take_of_length_le (by omega)
     rw [htk] at XW HMM
     obtain ⟨a9, c9, hu9, hsl9⟩ := XW.out.sl
     subst hu9
     have S9 := hide hsl9
     clear hsl9
     have r0 := XS.out.2.1.c0
     have r1 := XS.out.2.1.c1
     have rf := XS.out.2.1.frozen
     have o0 := XS.out.2.2.1.c0
     have o1 := XS.out.2.2.1.c1
     go_wp2_with fail
     refine bodyPost_ret (v := .agg #[.string s, .slice a9 M.length c9]) (by simp [results, Tryz.results95, go_sem, World.cell?_setCell_same, World.cell?_setCell_other, r0, r1, hML]) rfl ?_
     have hmm := HMM.out
     refine ⟨s, a9, M.length, c9, m, rfl, (XS.out.2.2.2.1.setOther _ _ (by omega)).setOther _ _ (by omega), (XS.out.1.setNew (by omega) _ _).setNew (by omega) _ _, fun h => ⟨by rw [hz]; omega, rfl, rfl, (S9.out.kept fun b hb => ?_).mono fun b hb _ => ?_⟩, fun h => by omega⟩
     ·have hb' : O + 1 ≤ b := hb.elim False.elim id
      rw [Below.heap_setCell _ _ _ _ (by simp; omega), Below.heap_setCell _ _ _ _ (by simp; omega)]
     ·have hb' : O + 1 ≤ b := hb.elim False.elim id
      omega
   ·have XS := hide hset
    clear hset
    have f0 : ∀ o, (wr.alloc o).cell? ⟨F, 0, none⟩ = some (.int .i64 (-1)) := fun o => (XS.out.2.2.2.1.alloc o).cell 0
    by_cases hlt : k < l.length
    ·obtain ⟨b, o, a', c', rfl, d0, d1, hx⟩ := (HS.out.ex XS.out.1 HXF.out).get (Below.refl _ _) (fun _ _ h => h) k hlt
     clear hx
     have o0 : ∀ o, (wr.alloc o).cell? ⟨O, 0, none⟩ = some (.string s) := fun o => (XS.out.2.2.1.alloc o).cell 0
     have o1 : ∀ o, (wr.alloc o).cell? ⟨O, 1, none⟩ = some (.slice a9 l9 c9) := fun o => (XS.out.2.2.1.alloc o).cell 1
     have r0 := XS.out.2.1.c0
     have r1 := XS.out.2.1.c1
     have rf := XS.out.2.1.frozen
     have hRl : w.heap.size + 1 < wr.heap.size := XS.out.2.1.lt
     go_wp2_with fail
     refine bodyPost_ret (v := .agg #[.string s, .slice a9 l9 c9]) (by simp [results, Tryz.results95, go_sem, World.cell?_setCell_same, World.cell?_setCell_other, r0, r1, hRl, World.cell?_alloc_old]) rfl ?_
     exact ⟨s, a9, l9, c9, -1, rfl, ((XS.out.2.2.2.1.setOther _ _ (by omega)).setOther _ _ (by omega)).alloc _, ((XS.out.1.setNew (by omega) _ _).setNew (by omega) _ _).alloc _, fun h => by omega, fun _ => rfl⟩
    ·have r0 := XS.out.2.1.c0
     have r1 := XS.out.2.1.c1
     have rf := XS.out.2.1.frozen
     have o0 := XS.out.2.2.1.c0
     have o1 := XS.out.2.2.1.c1
     go_wp2_with fail
     refine bodyPost_ret (v := .agg #[.string s, .slice a9 l9 c9]) (by simp [results, Tryz.results95, go_sem, World.cell?_setCell_same, World.cell?_setCell_other, r0, r1]) rfl ?_
     exact ⟨s, a9, l9, c9, -1, rfl, (XS.out.2.2.2.1.setOther _ _ (by omega)).setOther _ _ (by omega), (XS.out.1.setNew (by omega) _ _).setNew (by omega) _ _, fun h => by omega, fun _ => rfl⟩
theorem ffill_any (F B r : Nat) (ls : List Bd) (L : List (ByteArray × Value)) (t : Tm) (n : Nat) (a : Option Addr) (c : Nat) (w : World) (X : Nat → Prop) (hn : n ≤ 1000000) (hXF : ∀ b, X b → b ≠ F) (hBF : B ≠ F) (hrF : r ≠ F) (hs : Sl w X a t.args) (hF : Blk w F #[.int .i64 (n : Int), .func (.func 81) #[] #[.pointer (some ⟨B, 0, none⟩)]] 122) (hE : Env w B r X ls L) :
  Calls Tryz.prog 80 #[.pointer (some ⟨F, 0, none⟩), .agg #[.string t.name, .slice a t.args.length c]] w fun e w' => CpPost w F (.func (.func 81) #[] #[.pointer (some ⟨B, 0, none⟩)]) (fT ls t) n e w' :=
 ffill_of F B r ls L t n a c w X hn hXF hBF hrF hs hF hE (fun w' h1 h2 h3 => knotF_any F B r ls L hBF hrF t n _ w' X ⟨a, c, rfl, h1⟩ hXF hn h2 h3)
set_option maxHeartbeats 1000000 in
theorem fill_any (B r : Nat) (ls : List Bd) (L : List (ByteArray × Value)) (t : Tm) (n : Nat) (a : Option Addr) (c : Nat) (w : World) (X : Nat → Prop) (hn : n ≤ 1000000) (hs : Sl w X a t.args) (hE : Env w B r X ls L) :
  Calls Tryz.prog 64 #[.agg #[.string t.name, .slice a t.args.length c], .int .i64 (n : Int), .func (.func 81) #[] #[.pointer (some ⟨B, 0, none⟩)]] w fun e w' => Below w.heap.size w w' ∧
   ((sizeL [fT ls t] ≤ n ∧ ∃ a' c', e = .returned (.tuple #[.agg #[.string (fT ls t).name, .slice a' (fT ls t).args.length c'], .bool true]) ∧ Sl w' (fun b => w.heap.size ≤ b) a' (fT ls t).args) ∨ (n < sizeL [fT ls t] ∧ e = .returned (.tuple #[.agg #[.string ⟨#[]⟩, .slice none 0 0], .bool false]))) := by
 have hmf : ∀ (fn : Fn) (first cap : Array Value) (w : World), (Instr.makeFunc fn first cap).run Tryz.prog w = .ok (.func fn first cap) w := fun _ _ _ _ => rfl
 have HS := hide (hs.mono (Y := fun b => X b ∧ b < w.heap.size) fun b h1 h2 => ⟨h1, h2⟩)
 have HE : Hid (Env w B r (fun b => X b ∧ b < w.heap.size) ls L) := ⟨hE.1, hE.2.1, hE.2.2.imp fun a l hs => hs.mono fun b h1 h2 => ⟨h1, h2⟩⟩
 have hBl : B < w.heap.size := hE.1.lt
 have hrl : r < w.heap.size := hE.2.1.lt
 clear hs hE
 go_enter Tryz.func64, Tryz.ntmps64
 go_wp2_with fail
 have HB3 : Hid (Below w.heap.size w (((w.alloc (.cells #[.string t.name, .slice a t.args.length c] 48)).alloc (.cells #[.string ⟨#[]⟩, .slice none 0 0] 48)).alloc (.cells #[.int .i64 (n : Int), .func (.func 81) #[] #[.pointer (some ⟨B, 0, none⟩)]] 122))) := ((((Below.refl w.heap.size w).alloc (Nat.le_refl _) _).alloc (by simp) _).alloc (by simp; omega) _)
 have F3 : Hid (Blk (((w.alloc (.cells #[.string t.name, .slice a t.args.length c] 48)).alloc (.cells #[.string ⟨#[]⟩, .slice none 0 0] 48)).alloc (.cells #[.int .i64 (n : Int), .func (.func 81) #[] #[.pointer (some ⟨B, 0, none⟩)]] 122)) (w.heap.size + 1 + 1) #[.int .i64 (n : Int), .func (.func 81) #[] #[.pointer (some ⟨B, 0, none⟩)]] 122) := by
  have h := Blk.new ((w.alloc (.cells #[.string t.name, .slice a t.args.length c] 48)).alloc (.cells #[.string ⟨#[]⟩, .slice none 0 0] 48)) #[.int .i64 (n : Int), .func (.func 81) #[] #[.pointer (some ⟨B, 0, none⟩)]] 122
  unfold Hid
  simpa using h
 have R3 : Hid (Blk (((w.alloc (.cells #[.string t.name, .slice a t.args.length c] 48)).alloc (.cells #[.string ⟨#[]⟩, .slice none 0 0] 48)).alloc (.cells #[.int .i64 (n : Int), .func (.func 81) #[] #[.pointer (some ⟨B, 0, none⟩)]] 122)) (w.heap.size + 1) #[.string ⟨#[]⟩, .slice none 0 0] 48) := by
  have h := (Blk.new (w.alloc (.cells #[.string t.name, .slice a t.args.length c] 48)) #[.string ⟨#[]⟩, .slice none 0 0] 48).alloc (.cells #[.int .i64 (n : Int), .func (.func 81) #[] #[.pointer (some ⟨B, 0, none⟩)]] 122)
  unfold Hid
  simpa using h
 have z3 : (((w.alloc (.cells #[.string t.name, .slice a t.args.length c] 48)).alloc (.cells #[.string ⟨#[]⟩, .slice none 0 0] 48)).alloc (.cells #[.int .i64 (n : Int), .func (.func 81) #[] #[.pointer (some ⟨B, 0, none⟩)]] 122)).heap.size = w.heap.size + 3 := by simp
 generalize (((w.alloc (.cells #[.string t.name, .slice a t.args.length c] 48)).alloc (.cells #[.string ⟨#[]⟩, .slice none 0 0] 48)).alloc (.cells #[.int .i64 (n : Int), .func (.func 81) #[] #[.pointer (some ⟨B, 0, none⟩)]] 122)) = w3 at *
 refine (ffill_any (w.heap.size + 1 + 1) B r ls L t n a c w3 (fun b => X b ∧ b < w.heap.size) hn (fun b hb => by have := hb.2; omega) (by omega) (by omega) (HS.out.later HB3.out) F3.out (HE.out.later HB3.out)).mono ?_
 rintro e w9 ⟨s', a', l', c', m, rfl, hF9, hx9, hy, hno⟩
 have HF9 := hide hF9
 have HX9 := hide hx9
 have R9 := hide (R3.out.ex hx9 (by omega))
 have hz9 := hx9.size
 clear hF9 hx9
 have r0 := R9.out.c0
 have r1 := R9.out.c1
 have rf := R9.out.frozen
 have hRl : w.heap.size + 1 < w9.heap.size := R9.out.lt
 have HBW : Hid (Below w.heap.size w w9) := ⟨HX9.out.os.trans HB3.out.os, HX9.out.tape.trans HB3.out.tape, HX9.out.output.trans HB3.out.output, by omega, fun k hk => (HX9.out.block k (by omega) (by omega)).trans (HB3.out.block k hk)⟩
 by_cases hle : sizeL [fT ls t] ≤ n
 ·obtain ⟨rfl, rfl, rfl, hsl⟩ := hy hle
  have HSL := hide hsl
  clear hy hno hsl
  have f0 : ∀ o, (w9.alloc o).cell? ⟨w.heap.size + 1 + 1, 0, none⟩ = some (.int .i64 ((n : Int) - sizeL [fT ls t])) := fun o => (HF9.out.alloc o).cell 0
  have hlt : ¬ ((n : Int) - sizeL [fT ls t]) < 0 := by omega
  go_wp2_with fail
  refine bodyPost_ret (v := .tuple #[.agg #[.string (fT ls t).name, .slice a' (fT ls t).args.length c'], .bool true]) (by simp [results, Tryz.results64, go_sem, World.cell?_setCell_same, World.cell?_setCell_other, r0, r1, hRl, World.cell?_alloc_old]) rfl ?_
  refine ⟨((HBW.out.setCell (by simp) _).setCell (by simp) _).alloc (by simp [World.setCell]; omega) _, Or.inl ⟨hle, a', c', rfl, ((HSL.out.kept fun b hb => ?_).later ((Below.refl _ _).alloc (Nat.le_refl _) _)).mono fun b hb _ => by omega⟩⟩
  rw [Below.heap_setCell _ _ _ _ (by simp; omega), Below.heap_setCell _ _ _ _ (by simp; omega)]
 ·obtain rfl := hno (by omega)
  clear hy hno
  have f0 : ∀ o, (w9.alloc o).cell? ⟨w.heap.size + 1 + 1, 0, none⟩ = some (.int .i64 (-1)) := fun o => (HF9.out.alloc o).cell 0
  go_wp2_with fail
  refine bodyPost_ret (v := .tuple #[.agg #[.string ⟨#[]⟩, .slice none 0 0], .bool false]) (by simp [results, Tryz.results64, go_sem, World.cell?_setCell_same, World.cell?_setCell_other, r0, r1, hRl, World.cell?_alloc_old]) rfl ?_
  exact ⟨((HBW.out.setCell (by simp) _).setCell (by simp) _).alloc (by simp [World.setCell]; omega) _, Or.inr ⟨by omega, rfl⟩⟩
theorem forT_mem {s : ByteArray} {x : Tm} : ∀ {ls : List Bd}, forT ls s = some x → ∃ d, d ∈ ls ∧ d.nm = s ∧ d.t = x
 | [], h => by cases h
 | d :: r, h => by
  rw [forT] at h
  split at h
  ·rename_i e
   exact ⟨d, by simp, e, by simpa using h⟩
  ·obtain ⟨d', h1, h2, h3⟩ := forT_mem h
   exact ⟨d', by simp [h1], h2, h3⟩
theorem errL_parts {s : ByteArray} {a r : List Tm} (h : errL (⟨s, a⟩ :: r) = 0) : (varB s = true → a = []) ∧ errL a = 0 ∧ errL r = 0 := by
 rw [errL] at h
 split at h
 ·split at h
  ·cases h
  ·rename_i h1 h2
   split at h
   ·rename_i h3
    refine ⟨fun hv => ?_, h3, h⟩
    cases a with
    | nil => rfl
    | cons x y => simp [hv] at h2
   ·rename_i h3; exact absurd h h3
 ·cases h
theorem errL_name {s : ByteArray} {a r : List Tm} (h : errL (⟨s, a⟩ :: r) = 0) : nameB s = true := by
 rw [errL] at h
 split at h
 ·assumption
 ·cases h
theorem forT_of {l : List Bd} (ha : ApartB l) {d : Bd} (hd : d ∈ l) : forT l d.nm = some d.t := by
 induction l with
 | nil => cases hd
 | cons a r ih =>
  obtain ⟨h1, h2⟩ := List.pairwise_cons.1 ha
  rcases List.mem_cons.1 hd with rfl | hd
  ·simp [forT]
  ·rw [forT, if_neg (h1 d hd)]
   exact ih h2 hd
theorem forT_append (a b : List Bd) (n : ByteArray) : forT (a ++ b) n = (forT a n).or (forT b n) := by
 induction a with
 | nil => simp [forT]
 | cons d r ih =>
  rw [List.cons_append, forT, forT]
  split
  ·rfl
  ·exact ih
theorem onT_leaf (l : List Bd) (n : ByteArray) : onT l ⟨n, []⟩ = (forT l n).getD ⟨n, []⟩ := by
 cases h : forT l n with
 | none => rw [onT_deep (Or.inr h)]; simp [onL]
 | some t => rw [onT_some h]; rfl
theorem forT_some_of {ls : List Bd} {d : Bd} (h : d ∈ ls) : ∃ t, forT ls d.nm = some t := by
 induction ls with
 | nil => cases h
 | cons a r ih =>
  rw [forT]
  split
  ·exact ⟨_, rfl⟩
  ·rename_i hne
   rcases List.mem_cons.1 h with rfl | h
   ·exact absurd rfl hne
   ·exact ih h
theorem varsP_sub : ∀ (ks : List Tm) (acc : List ByteArray) (n : ByteArray), n ∈ varsP acc ks → n ∈ acc ∨ ∃ k ∈ ks, k.name = n ∧ varB n = true
 | [], acc, n, h => Or.inl (by simpa [varsP] using h)
 | k :: r, acc, n, h => by
  have e : varsP acc (k :: r) = varsP (addV acc k.name) r := rfl
  rw [e] at h
  rcases varsP_sub r _ n h with h1 | ⟨k', h1, h2⟩
  ·cases hv : varB k.name with
   | false => rw [addV_no hv] at h1; exact Or.inl h1
   | true =>
    cases hi : inB k.name acc with
    | true => rw [addV_in hv hi] at h1; exact Or.inl h1
    | false =>
     rw [addV_yes hv hi] at h1
     rcases List.mem_append.1 h1 with h1 | h1
     ·exact Or.inl h1
     ·have e2 : n = k.name := by simpa using h1
      exact Or.inr ⟨k, by simp, e2.symm, by rw [e2]; exact hv⟩
  ·exact Or.inr ⟨k', by simp [h1], h2⟩
theorem varsP_has : ∀ (ks : List Tm) (acc : List ByteArray), (∀ n ∈ acc, n ∈ varsP acc ks) ∧ ∀ k ∈ ks, varB k.name = true → k.name ∈ varsP acc ks
 | [], acc => ⟨fun n h => by simpa [varsP] using h, fun k h => by cases h⟩
 | k :: r, acc => by
  have e : varsP acc (k :: r) = varsP (addV acc k.name) r := rfl
  rw [e]
  obtain ⟨h1, h2⟩ := varsP_has r (addV acc k.name)
  have hsub : ∀ n ∈ acc, n ∈ addV acc k.name := fun n hn => by
   cases hv : varB k.name with
   | false => rw [addV_no hv]; exact hn
   | true =>
    cases hi : inB k.name acc with
    | true => rw [addV_in hv hi]; exact hn
    | false => rw [addV_yes hv hi]; simp [hn]
  refine ⟨fun n hn => h1 n (hsub n hn), fun k' hk' hv' => ?_⟩
  rcases List.mem_cons.1 hk' with rfl | hk'
  ·refine h1 _ ?_
   cases hi : inB k'.name acc with
   | true =>
    rw [addV_in hv' hi]
    unfold inB at hi
    obtain ⟨y, hy, e2⟩ := List.any_eq_true.1 hi
    have e3 : y = k'.name := bytes_inj (by simpa using e2)
    rw [← e3]; exact hy
   | false => rw [addV_yes hv' hi]; simp
  ·exact h2 k' hk' hv'
theorem mod_nat {x : Int} (hx : 0 ≤ x) {n : Nat} (hn : 0 < n) : ∃ k : Nat, x % (n : Int) = k ∧ k < n := by
 have h1 := Int.emod_nonneg x (b := (n : Int)) (by omega)
 have h2 := Int.emod_lt_of_pos x (b := (n : Int)) (by omega)
 exact ⟨(x % (n : Int)).toNat, by omega, by omega⟩
theorem pick_any (c : Int) (n : Nat) (hn : 0 < n) (hn2 : n ≤ 2000000) (hc : -9223372036854775808 ≤ c ∧ c ≤ 9223372036854775807) (w : World) :
  Calls Tryz.prog 5 #[.int .i64 c, .int .i64 (n : Int)] w fun e w' => ∃ k : Nat, e = .returned (.int .i64 (k : Int)) ∧ k < n ∧ w' = w := by
 go_enter Tryz.func5, Tryz.ntmps5
 by_cases h : c < 0
 ·go_wp2_with fail
  go_ret
  obtain ⟨k, hk, hkn⟩ := mod_nat (x := -(c + 1)) (by omega) hn
  refine ⟨k, ?_, hkn, rfl⟩
  have h1 : -(c + 1).tmod (n : Int) = k := by rw [← Int.neg_tmod, Int.tmod_eq_emod_of_nonneg (by omega)]; exact hk
  simp [h1]
 ·go_wp2_with fail
  go_ret
  obtain ⟨k, hk, hkn⟩ := mod_nat (x := c) (by omega) hn
  exact ⟨k, by simp [hk], hkn, rfl⟩
theorem wrapI (x : Int) (h : -9223372036854775808 ≤ x ∧ x ≤ 9223372036854775807) : IntKind.i64.wrap x = x := by
 rw [IntKind.wrap_i64]; omega
def Rng (z : Int) : Prop := -9223372036854775808 ≤ z ∧ z ≤ 9223372036854775807
set_option maxHeartbeats 1000000 in
theorem raw_any (zs : List Int) (u : Value) (w : World) (X : Nat → Prop) (hu : PV w X u zs) (hr : ∀ z ∈ zs, Rng z) (i : Nat) (hi : i ≤ 1000000) (hzl : zs.length ≤ 1000000) :
  Calls Tryz.prog 11 #[u, .int .i64 (i : Int)] w fun e w' => ∃ k : Nat, e = .returned (.int .i64 (k : Int)) ∧ k ≤ 100000000000 ∧ Below w.heap.size w w' := by
 obtain ⟨a, c, rfl, hl, h⟩ := hu
 by_cases h0 : zs.length = 0
 ·go_enter Tryz.func11, Tryz.ntmps11
  go_wp2_with fail
  go_ret
  exact ⟨i * 31, by simp, by omega, Below.refl _ _⟩
 ·rcases h with h | ⟨b, o, rfl, hX, hc⟩
  ·subst h; simp at h0
  ·have hpos : 0 < zs.length := by omega
   obtain ⟨m, hm, hlt⟩ := mod_nat (x := (i : Int)) (by omega) hpos
   obtain ⟨d, hd, hdl⟩ : ∃ d : Nat, (i : Int) / (zs.length : Int) = d ∧ d ≤ i := ⟨i / zs.length, by simp, Nat.div_le_self _ _⟩
   have hm2 : (i : Int).tmod (zs.length : Int) = m := by rw [Int.tmod_eq_emod_of_nonneg (by omega)]; exact hm
   have hd2 : (i : Int).tdiv (zs.length : Int) = d := by rw [Int.tdiv_eq_ediv_of_nonneg (by omega)]; exact hd
   have hcc := hc m hlt
   have hrg := hr _ (List.getElem_mem hlt)
   generalize zs[m] = z at *
   have hm0 : (0 : Int) ≤ (m : Int) := by omega
   have hm1 : (m : Int) < (zs.length : Int) := by omega
   clear hc hr
   go_enter Tryz.func11, Tryz.ntmps11
   go_wp2_with fail
   go_region_held3 (fun w' => w'.cell? ⟨b, o + m, none⟩ = some (.int .i64 z)) (first | exact hcc | go_keep)
    ((go_at_call 5; refine (pick_any z 1000003 (by decide) (by decide) hrg _).mono ?_; rintro e w1 ⟨k, rfl, hk, rfl⟩))
   go_wp2_with fail
   go_ret
   refine ⟨k + d * 7919, by simp [wrapI (d : Int) (by omega), wrapI ((d : Int) * 7919) (by omega), wrapI ((k : Int) + (d : Int) * 7919) (by omega)], by omega, ?_⟩
   exact (Below.refl _ _).drew
theorem err_leaf {s : ByteArray} (h : nameB s = true) : errL [(⟨s, []⟩ : Tm)] = 0 := by simp [errL, h]
theorem err_node {s : ByteArray} {l : List Tm} (h : nameB s = true) (hv : varB s = false) (hl : errL l = 0) : errL [(⟨s, l⟩ : Tm)] = 0 := by simp [errL, h, hv, hl]
section
variable {P : Program} {ops : Array Oper} {Q : Exit → Act → World → Prop} {md : Region.Mode}
end
def TwoS (w5 w6 : World) (t5 t6 : Tm) (a5 a6 : Option Addr) (c5 c6 : Nat) (w' : World) : Prop :=
 Blk w' w5.heap.size #[.string t5.name, .slice a5 t5.args.length c5] 48 ∧ Blk w' w6.heap.size #[.string t6.name, .slice a6 t6.args.length c6] 48
def TwoF (w5 w6 : World) (t5 t6 : Tm) (a5 a6 : Option Addr) (c5 c6 : Nat) (b : Nat) (w' : World) : Prop :=
 TwoS w5 w6 t5 t6 a5 a6 c5 c6 w' ∧ Blk w' b #[.string ⟨#[102]⟩, .string ⟨#[103]⟩] 9
theorem TwoS.alloc {w5 w6 : World} {t5 t6 : Tm} {a5 a6 : Option Addr} {c5 c6 : Nat} {w' : World} (h : TwoS w5 w6 t5 t6 a5 a6 c5 c6 w') (o : Obj) : TwoS w5 w6 t5 t6 a5 a6 c5 c6 (w'.alloc o) := ⟨h.1.alloc o, h.2.alloc o⟩
theorem TwoF.alloc {w5 w6 : World} {t5 t6 : Tm} {a5 a6 : Option Addr} {c5 c6 b : Nat} {w' : World} (h : TwoF w5 w6 t5 t6 a5 a6 c5 c6 b w') (o : Obj) : TwoF w5 w6 t5 t6 a5 a6 c5 c6 b (w'.alloc o) := ⟨h.1.alloc o, h.2.alloc o⟩
def occL (x : ByteArray) (l : List Tm) : Prop := ∃ k ∈ preL l, k.name = x
theorem occL_node {x s : ByteArray} {l r : List Tm} : occL x (⟨s, l⟩ :: r) ↔ s = x ∨ occL x l ∨ occL x r := by
 unfold occL
 rw [preL]
 constructor
 ·rintro ⟨k, hk, e⟩
  rcases List.mem_cons.1 hk with rfl | hk
  ·exact Or.inl e
  ·rcases List.mem_append.1 hk with hk | hk
   ·exact Or.inr (Or.inl ⟨k, hk, e⟩)
   ·exact Or.inr (Or.inr ⟨k, hk, e⟩)
 ·rintro (e | ⟨k, hk, e⟩ | ⟨k, hk, e⟩)
  ·exact ⟨⟨s, l⟩, by simp, e⟩
  ·exact ⟨k, by simp [hk], e⟩
  ·exact ⟨k, by simp [hk], e⟩
theorem occL_nil {x : ByteArray} : ¬ occL x [] := by
 rintro ⟨k, hk, _⟩
 simp [preL] at hk
theorem occL_cons {x : ByteArray} {t : Tm} {r : List Tm} : occL x (t :: r) ↔ occL x [t] ∨ occL x r := by
 obtain ⟨s, l⟩ := t
 rw [occL_node, occL_node]
 have h0 : ¬ occL x [] := occL_nil
 constructor
 ·rintro (h | h | h)
  ·exact Or.inl (Or.inl h)
  ·exact Or.inl (Or.inr (Or.inl h))
  ·exact Or.inr h
 ·rintro ((h | h | h) | h)
  ·exact Or.inl h
  ·exact Or.inr (Or.inl h)
  ·exact absurd h h0
  ·exact Or.inr (Or.inr h)
theorem occL_append {x : ByteArray} {a b : List Tm} : occL x (a ++ b) ↔ occL x a ∨ occL x b := by
 induction a with
 | nil =>
  have h0 : ¬ occL x [] := occL_nil
  simp [h0]
 | cons t r ih => rw [List.cons_append, occL_cons, occL_cons (r := r), ih, or_assoc]
def OkS (s : List Bd) : Prop := ApartB s ∧ (∀ d ∈ s, varB d.nm = true ∧ errL [d.t] = 0) ∧ ∀ d ∈ s, ∀ e ∈ s, ¬ occL e.nm [d.t]
theorem okS_nil : OkS [] := ⟨by simp [ApartB], by simp, by simp⟩
theorem onT_sym2 {s : List Bd} (h : ∀ d ∈ s, varB d.nm = true) {n : ByteArray} (hn : varB n = false) (l : List Tm) : onT s ⟨n, l⟩ = ⟨n, onL s l⟩ := by
 refine onT_deep (Or.inr ?_)
 cases hf : forT s n with
 | none => rfl
 | some x =>
  obtain ⟨d, hd, e, _⟩ := forT_mem hf
  have h1 := h d hd
  rw [e, hn] at h1
  cases h1
theorem onL_id {s : List Bd} : ∀ l : List Tm, (∀ e ∈ s, ¬ occL e.nm l) → onL s l = l := by
 intro l
 induction l using Tm.indL with
 | h0 => intro _; simp [onL]
 | h n l r ihl ihr =>
  intro h
  rw [onL_cons, ihr fun e he ho => h e he (occL_node.2 (Or.inr (Or.inr ho)))]
  congr 1
  rw [onT_deep (Or.inr ?_), ihl fun e he ho => h e he (occL_node.2 (Or.inr (Or.inl ho)))]
  cases hf : forT s n with
  | none => rfl
  | some x =>
   obtain ⟨d, hd, e, _⟩ := forT_mem hf
   exact absurd (occL_node.2 (Or.inl e.symm)) (h d hd)
theorem occ_on {s : List Bd} (hs : ∀ d ∈ s, varB d.nm = true) {y : ByteArray} (hy : varB y = true) : ∀ l : List Tm, errL l = 0 → occL y (onL s l) → (occL y l ∧ forT s y = none) ∨ ∃ d ∈ s, occL d.nm l ∧ occL y [d.t] := by
 intro l
 induction l using Tm.indL with
 | h0 => intro _ h; simp only [onL] at h; exact absurd h occL_nil
 | h n l r ihl ihr =>
  intro he h
  obtain ⟨g1, g2, g3⟩ := errL_parts he
  rw [onL_cons, occL_cons] at h
  rcases h with h | h
  ·cases hv : varB n with
   | false =>
    rw [onT_sym2 hs hv, occL_node] at h
    rcases h with h | h | h
    ·rw [h, hy] at hv; cases hv
    ·rcases ihl g2 h with ⟨h1, h2⟩ | ⟨d, hd, h1, h2⟩
     ·exact Or.inl ⟨occL_node.2 (Or.inr (Or.inl h1)), h2⟩
     ·exact Or.inr ⟨d, hd, occL_node.2 (Or.inr (Or.inl h1)), h2⟩
    ·exact absurd h occL_nil
   | true =>
    have e := g1 hv
    subst e
    rw [onT_leaf] at h
    cases hf : forT s n with
    | none =>
     rw [hf] at h
     rcases occL_node.1 h with h | h | h
     ·subst h; exact Or.inl ⟨occL_node.2 (Or.inl rfl), hf⟩
     ·exact absurd h occL_nil
     ·exact absurd h occL_nil
    | some x =>
     rw [hf] at h
     obtain ⟨d, hd, e1, e2⟩ := forT_mem hf
     refine Or.inr ⟨d, hd, occL_node.2 (Or.inl e1.symm), ?_⟩
     rw [e2]; exact h
  ·rcases ihr g3 h with ⟨h1, h2⟩ | ⟨d, hd, h1, h2⟩
   ·exact Or.inl ⟨occL_node.2 (Or.inr (Or.inr h1)), h2⟩
   ·exact Or.inr ⟨d, hd, occL_node.2 (Or.inr (Or.inr h1)), h2⟩
theorem OkS.vars {s : List Bd} (h : OkS s) : ∀ d ∈ s, varB d.nm = true := fun d hd => (h.2.1 d hd).1
theorem OkS.gone {s : List Bd} (h : OkS s) {l : List Tm} (he : errL l = 0) : ∀ e ∈ s, ¬ occL e.nm (onL s l) := by
 intro e hm ho
 rcases occ_on h.vars (h.vars e hm) l he ho with ⟨_, h2⟩ | ⟨d, hd, _, h2⟩
 ·obtain ⟨t, ht⟩ := forT_some_of hm
  rw [ht] at h2; cases h2
 ·exact h.2.2 d hd e hm h2
theorem OkS.idem {s : List Bd} (h : OkS s) {l : List Tm} (he : errL l = 0) : onL s (onL s l) = onL s l := onL_id _ (h.gone he)
theorem errL_on2 {s : List Bd} (h : OkS s) : ∀ l : List Tm, errL l = 0 → errL (onL s l) = 0 := by
 intro l
 induction l using Tm.indL with
 | h0 => intro _; simp [onL, errL]
 | h n l r ihl ihr =>
  intro he
  obtain ⟨g1, g2, g3⟩ := errL_parts he
  have hn := errL_name he
  rw [onL_cons]
  have key : errL [onT s ⟨n, l⟩] = 0 := by
   cases hv : varB n with
   | false => rw [onT_sym2 h.vars hv]; exact err_node hn hv (ihl g2)
   | true =>
    have e := g1 hv
    subst e
    rw [onT_leaf]
    cases hf : forT s n with
    | none => exact err_leaf hn
    | some x =>
     obtain ⟨d, hd, _, e2⟩ := forT_mem hf
     have h3 := (h.2.1 d hd).2
     rw [e2] at h3
     exact h3
  rw [errL_cons, if_pos key]
  exact ihr g3
theorem onT_of {P : List Tm → List Tm → Prop} {s : List Bd} {t : Tm} (h : P [t] (onL s [t])) : P [t] [onT s t] := by
 rw [onL_cons] at h
 simpa [onL] using h
theorem errL_onT2 {s : List Bd} (h : OkS s) {t : Tm} (he : errL [t] = 0) : errL [onT s t] = 0 := onT_of (P := fun _ b => errL b = 0) (errL_on2 h [t] he)
theorem OkS.goneT {s : List Bd} (h : OkS s) {t : Tm} (he : errL [t] = 0) : ∀ e ∈ s, ¬ occL e.nm [onT s t] := onT_of (P := fun _ b => ∀ e ∈ s, ¬ occL e.nm b) (h.gone he)
theorem forT_perm {a b : List Bd} (hp : a.Perm b) (ha : ApartB b) (n : ByteArray) : forT a n = forT b n := by
 have ha' : ApartB a := ha.perm hp
 cases h1 : forT b n with
 | some x =>
  obtain ⟨d, hd, e1, e2⟩ := forT_mem h1
  have h2 := forT_of ha' (hp.symm.subset hd)
  rw [e1, e2] at h2
  exact h2
 | none =>
  cases h2 : forT a n with
  | none => rfl
  | some x =>
   obtain ⟨d, hd, e1, e2⟩ := forT_mem h2
   have h3 := forT_of ha (hp.subset hd)
   rw [e1, h1] at h3
   cases h3
theorem forT_put (x : ByteArray) (t : Tm) (s : List Bd) (n : ByteArray) : forT (s.map (putB x t)) n = (forT s n).map (onT [⟨x, t⟩]) := by
 induction s with
 | nil => rfl
 | cons d r ih =>
  rw [List.map_cons, forT, forT]
  by_cases e : d.nm = n
  ·rw [if_pos e, if_pos (show (putB x t d).nm = n from e)]; rfl
  ·rw [if_neg e, if_neg (show ¬ (putB x t d).nm = n from e)]; exact ih
def addS (s : List Bd) (x : ByteArray) (t : Tm) : List Bd := srtB (s.map (putB x t) ++ [⟨x, t⟩])
theorem add_apart {s : List Bd} {x : ByteArray} {t : Tm} (h : ApartB s) (hx : ∀ d ∈ s, d.nm ≠ x) : ApartB (s.map (putB x t) ++ [⟨x, t⟩]) := by
 refine List.pairwise_append.2 ⟨List.pairwise_map.2 h, by simp, fun a ha b hb => ?_⟩
 obtain ⟨d, hd, rfl⟩ := List.mem_map.1 ha
 have e : b = ⟨x, t⟩ := by simpa using hb
 rw [e]
 exact hx d hd
theorem add_val {s : List Bd} {x : ByteArray} {t : Tm} (h : ApartB s) (hx : ∀ d ∈ s, d.nm ≠ x) (n : ByteArray) : onT (addS s x t) ⟨n, []⟩ = onT [⟨x, t⟩] (onT s ⟨n, []⟩) := by
 rw [onT_leaf (addS s x t)]
 unfold addS
 rw [forT_perm (srtB_perm _) (add_apart h hx), forT_append, forT_put, onT_leaf s]
 cases hf : forT s n with
 | some u => rfl
 | none =>
  show (forT [⟨x, t⟩] n).getD _ = onT [⟨x, t⟩] ⟨n, []⟩
  rw [onT_leaf]
theorem one_vars {x : ByteArray} {t : Tm} (hx : varB x = true) : ∀ d ∈ [(⟨x, t⟩ : Bd)], varB d.nm = true := fun d hd => by
 have e : d = ⟨x, t⟩ := by simpa using hd
 rw [e]; exact hx
theorem OkS.add {s : List Bd} (h : OkS s) {x : ByteArray} {t : Tm} (hx : varB x = true) (hn : ∀ d ∈ s, d.nm ≠ x) (he : errL [t] = 0) (ht : ∀ e ∈ s, ¬ occL e.nm [t]) (ho : ¬ occL x [t]) : OkS (addS s x t) := by
 have O1 : OkS [(⟨x, t⟩ : Bd)] := by
  refine ⟨by simp [ApartB], fun d hd => ?_, fun d hd e hm => ?_⟩
  ·have e : d = ⟨x, t⟩ := by simpa using hd
   rw [e]; exact ⟨hx, he⟩
  ·have e1 : d = ⟨x, t⟩ := by simpa using hd
   have e2 : e = ⟨x, t⟩ := by simpa using hm
   rw [e1, e2]; exact ho
 have hp := srtB_perm (s.map (putB x t) ++ [⟨x, t⟩])
 have hmem : ∀ d ∈ addS s x t, (∃ d0 ∈ s, d = putB x t d0) ∨ d = ⟨x, t⟩ := fun d hd => by
  rcases List.mem_append.1 (hp.subset hd) with hd | hd
  ·obtain ⟨d0, h0, rfl⟩ := List.mem_map.1 hd
   exact Or.inl ⟨d0, h0, rfl⟩
  ·exact Or.inr (by simpa using hd)
 have hnot : ∀ d0 ∈ s, ∀ y, varB y = true → (y = x ∨ ∃ e ∈ s, e.nm = y) → ¬ occL y [onT [⟨x, t⟩] d0.t] := fun d0 h0 y hy hyy hoc => by
  have h1 : occL y (onL [⟨x, t⟩] [d0.t]) := by rw [onL_cons]; simpa [onL] using hoc
  rcases occ_on O1.vars hy [d0.t] (h.2.1 d0 h0).2 h1 with ⟨h2, h3⟩ | ⟨d, hd, h2, h3⟩
  ·rcases hyy with rfl | ⟨e, hm, rfl⟩
   ·simp [forT] at h3
   ·exact h.2.2 d0 h0 e hm h2
  ·have e1 : d = ⟨x, t⟩ := by simpa using hd
   subst e1
   rcases hyy with rfl | ⟨e, hm, rfl⟩
   ·exact ho h3
   ·exact ht e hm h3
 refine ⟨(add_apart h.1 hn).perm hp, fun d hd => ?_, fun d hd e hm => ?_⟩
 ·rcases hmem d hd with ⟨d0, h0, rfl⟩ | rfl
  ·exact ⟨(h.2.1 d0 h0).1, errL_onT2 O1 (h.2.1 d0 h0).2⟩
  ·exact ⟨hx, he⟩
 ·have hy : e.nm = x ∨ ∃ e0 ∈ s, e0.nm = e.nm := by
   rcases hmem e hm with ⟨e0, h0, rfl⟩ | rfl
   ·exact Or.inr ⟨e0, h0, rfl⟩
   ·exact Or.inl rfl
  have hyv : varB e.nm = true := by
   rcases hy with h1 | ⟨e0, h0, h1⟩
   ·rw [h1]; exact hx
   ·rw [← h1]; exact (h.2.1 e0 h0).1
  rcases hmem d hd with ⟨d0, h0, rfl⟩ | rfl
  ·exact hnot d0 h0 e.nm hyv hy
  ·rcases hy with h1 | ⟨e0, h0, h1⟩
   ·rw [h1]; exact ho
   ·rw [← h1]; exact ht e0 h0
theorem add_on {s : List Bd} (h : OkS s) {x : ByteArray} {t : Tm} (hx : varB x = true) (hn : ∀ d ∈ s, d.nm ≠ x) (hs : OkS (addS s x t)) : ∀ l : List Tm, errL l = 0 → onL (addS s x t) l = onL [⟨x, t⟩] (onL s l) := by
 intro l
 induction l using Tm.indL with
 | h0 => intro _; simp [onL]
 | h n l r ihl ihr =>
  intro he
  obtain ⟨g1, g2, g3⟩ := errL_parts he
  rw [onL_cons, onL_cons, onL_cons, ihr g3]
  congr 1
  cases hv : varB n with
  | false => rw [onT_sym2 hs.vars hv, onT_sym2 h.vars hv, onT_sym2 (one_vars hx) hv, ihl g2]
  | true =>
   have e := g1 hv
   subst e
   exact add_val h.1 hn n
def KnQ (s : ByteArray) (l : List Tm) : Prop := (varB s = true ∧ l = []) ∨ (s = ⟨#[102]⟩ ∧ l.length = 2)
def KnL (l : List Tm) : Prop := ∀ k ∈ preL l, KnQ k.name k.args
theorem KnL.cons {t : Tm} {r : List Tm} : KnL (t :: r) ↔ KnQ t.name t.args ∧ KnL t.args ∧ KnL r := by
 obtain ⟨s, l⟩ := t
 unfold KnL
 simp only [preL, List.mem_cons, List.mem_append]
 constructor
 ·intro h
  exact ⟨h ⟨s, l⟩ (Or.inl rfl), fun k hk => h k (Or.inr (Or.inl hk)), fun k hk => h k (Or.inr (Or.inr hk))⟩
 ·rintro ⟨h1, h2, h3⟩ k (rfl | hk | hk)
  ·exact h1
  ·exact h2 k hk
  ·exact h3 k hk
theorem KnL.nil : KnL [] := fun k hk => by simp [preL] at hk
theorem KnL.one {t : Tm} : KnL [t] ↔ KnQ t.name t.args ∧ KnL t.args := by
 rw [KnL.cons]
 exact ⟨fun h => ⟨h.1, h.2.1⟩, fun h => ⟨h.1, h.2, KnL.nil⟩⟩
theorem KnL.all : ∀ {l : List Tm}, KnL l ↔ ∀ t ∈ l, KnL [t]
 | [] => by simp [KnL.nil]
 | t :: r => by
  rw [KnL.cons, KnL.all (l := r)]
  simp only [List.mem_cons, forall_eq_or_imp, KnL.one]
  exact ⟨fun h => ⟨⟨h.1, h.2.1⟩, h.2.2⟩, fun h => ⟨h.1.1, h.1.2, h.2⟩⟩
def KnB (s : List Bd) : Prop := ∀ d ∈ s, KnL [d.t]
def KnP (l : List Pr) : Prop := ∀ p ∈ l, KnL [p.l] ∧ KnL [p.r]
theorem forT_kn {n : ByteArray} {x : Tm} : ∀ {s : List Bd}, KnB s → forT s n = some x → KnL [x]
 | [], _, h => by cases h
 | d :: r, h, e => by
  simp only [forT] at e
  split at e
  ·cases e; exact h d (by simp)
  ·exact forT_kn (fun e he => h e (by simp [he])) e
theorem onL_kn {s : List Bd} (hs : KnB s) (l : List Tm) : KnL l → KnL (onL s l) := by
 induction l using Tm.indL with
 | h0 => intro _; simp only [onL]; exact KnL.nil
 | h n l r ihl ihr =>
  intro h
  obtain ⟨h1, h2, h3⟩ := KnL.cons.1 h
  simp only [onL]
  have key : KnL [onN s n l (onL s l)] := by
   have hq : KnL [(⟨n, onL s l⟩ : Tm)] := by
    refine KnL.one.2 ⟨?_, ihl h2⟩
    rcases h1 with ⟨a, b⟩ | ⟨a, b⟩
    ·refine Or.inl ⟨a, ?_⟩
     have : l = [] := b
     subst this
     simp [onL]
    ·exact Or.inr ⟨a, by rw [show (⟨n, onL s l⟩ : Tm).args = onL s l from rfl, onL_length]; exact b⟩
   unfold onN
   cases hf : forT s n with
   | none => exact hq
   | some x =>
    simp only
    split
    ·exact forT_kn hs hf
    ·exact hq
  exact KnL.cons.2 ⟨(KnL.one.1 key).1, (KnL.one.1 key).2, ihr h3⟩
theorem onT_kn {s : List Bd} (hs : KnB s) {t : Tm} (ht : KnL [t]) : KnL [onT s t] := by
 have h := onL_kn hs [t] ht
 rw [onL_cons] at h
 simp only [onL] at h
 exact h
def KnU : UO → Prop
 | .go s l => KnB s ∧ KnP l
 | .stop _ s => KnB s
theorem uBind_kn (lim : Bool) {s : List Bd} (hs : KnB s) {l : List Pr} (hl : KnP l) (x : ByteArray) {t : Tm} (ht : KnL [t]) : KnU (uBind lim s l x t) := by
 have hp : KnB (s.map (putB x t)) := fun d hd => by
  obtain ⟨d0, hd0, rfl⟩ := List.mem_map.1 hd
  exact onT_kn (fun e he => by rw [List.mem_singleton.1 he]; exact ht) (hs d0 hd0)
 unfold uBind
 split
 ·exact hs
 ·split
  ·exact hs
  ·refine ⟨fun d hd => ?_, hl⟩
   rcases List.mem_append.1 ((srtB_perm _).subset hd) with h | h
   ·exact hp d h
   ·rw [List.mem_singleton.1 h]; exact ht
theorem zip_kn : ∀ {a b : List Tm}, KnL a → KnL b → KnP (zipP a b)
 | [], _, _, _ => fun p hp => by simp [zipP] at hp
 | t :: r, [], _, _ => fun p hp => by simp [zipP] at hp
 | t :: r, u :: q, ha, hb => fun p hp => by
  obtain ⟨a1, a2, a3⟩ := KnL.cons.1 ha
  obtain ⟨b1, b2, b3⟩ := KnL.cons.1 hb
  simp only [zipP] at hp
  rcases List.mem_cons.1 hp with rfl | hp
  ·exact ⟨KnL.one.2 ⟨a1, a2⟩, KnL.one.2 ⟨b1, b2⟩⟩
  ·exact zip_kn a3 b3 p hp
theorem uPair_kn (lim : Bool) {s : List Bd} (hs : KnB s) {l : List Pr} (hl : KnP l) {a b : Tm} (ha : KnL [a]) (hb : KnL [b]) : KnU (uPair lim s l a b) := by
 unfold uPair
 split
 ·exact hs
 ·split
  ·split
   ·exact ⟨hs, hl⟩
   ·exact uBind_kn lim hs hl _ hb
  ·split
   ·exact uBind_kn lim hs hl _ ha
   ·split
    ·refine ⟨hs, fun p hp => ?_⟩
     rcases List.mem_append.1 hp with h | h
     ·exact zip_kn (KnL.one.1 ha).2 (KnL.one.1 hb).2 p h
     ·exact hl p h
    ·exact hs
theorem uRun_kn (lim : Bool) : ∀ (n : Nat) {s : List Bd} (hs : KnB s) {l : List Pr} (hl : KnP l) {R : Int × List Bd}, uRun lim n s l = some R → KnB R.2
 | 0, _, _, _, _, _, h => by cases h
 | n + 1, s, hs, [], hl, R, h => by
  simp only [uRun, uNext] at h
  cases h
  exact hs
 | n + 1, s, hs, p :: l, hl, R, h => by
  have hp := hl p (by simp)
  have hl' : KnP l := fun q hq => hl q (by simp [hq])
  have k := uPair_kn lim hs hl' (onT_kn hs hp.1) (onT_kn hs hp.2)
  rw [uRun, uNext_cons] at h
  revert h k
  cases uPair lim s l (onT s p.l) (onT s p.r) with
  | stop e s' => intro h k; cases h; exact k
  | go s' l' => intro h k; exact uRun_kn lim n k.1 k.2 h
theorem kn_vr {p : UInt8} (hp : p = 84 ∨ p = 86) (n : Nat) : KnL [vrT p n] := KnL.one.2 ⟨Or.inl ⟨by show varB (vrN p n) = true; rw [varB_vr]; rcases hp with rfl | rfl <;> decide, rfl⟩, KnL.nil⟩
theorem kn_ar {a b : Tm} (ha : KnL [a]) (hb : KnL [b]) : KnL [arT a b] := KnL.one.2 ⟨Or.inr ⟨rfl, rfl⟩, KnL.cons.2 ⟨(KnL.one.1 ha).1, (KnL.one.1 ha).2, hb⟩⟩
theorem ty_kn {p : UInt8} (hp : p = 84 ∨ p = 86) (t : Lm) : ∀ (ar : List Tm) (n : Nat), errM ar.length 0 [t] = 0 → csL [t] = false → KnL ar → KnL [(tyT p t ar n).1] ∧ KnP (tyT p t ar n).2.1 := by
 induction t using Lm.ind with
 | h k i l ih =>
  intro ar n he hc ha
  rcases may_look he with ⟨x, e, h1, h2⟩ | ⟨b, e, hb⟩ | ⟨f, a, e, hf, hx⟩ | ⟨x, e, _, _⟩
  ·cases e
   rw [tyT_bound]
   have hlt : ar.length - 1 - i.toNat < ar.length := by omega
   have hg : ar.getD (ar.length - 1 - i.toNat) noT = ar[ar.length - 1 - i.toNat] := by
    rw [List.getD_eq_getElem?_getD, List.getElem?_eq_getElem hlt]; rfl
   rw [hg]
   exact ⟨KnL.all.1 ha _ (List.getElem_mem hlt), fun q hq => by simp at hq⟩
  ·cases e
   rw [tyT_fun]
   have hc' : csL [b] = false := by rw [csL_one] at hc; simpa using hc
   have hl : ((ar ++ [vrT p (n + 1)]).length : Int) = (ar.length : Int) + 1 := by simp
   have har : KnL (ar ++ [vrT p (n + 1)]) := KnL.all.2 fun t ht => by
    rcases List.mem_append.1 ht with h1 | h1
    ·exact KnL.all.1 ha t h1
    ·rw [List.mem_singleton.1 h1]; exact kn_vr hp _
   have h := ih b (by simp) (ar ++ [vrT p (n + 1)]) (n + 1) (by rw [hl]; exact hb) hc' har
   exact ⟨kn_ar (kn_vr hp _) h.1, h.2⟩
  ·cases e
   rw [tyT_app]
   have hc1 : csL [f] = false ∧ csL [a] = false := by
    rw [csL_one, csL_cons] at hc
    simpa using hc
   have h1 := ih f (by simp) ar n hf hc1.1 ha
   have h2 := ih a (by simp) ar (tyT p f ar n).2.2 hx hc1.2 ha
   refine ⟨kn_vr hp _, fun q hq => ?_⟩
   rcases List.mem_append.1 hq with hq | hq
   ·rcases List.mem_append.1 hq with hq | hq
    ·exact h1.2 q hq
    ·exact h2.2 q hq
   ·rw [List.mem_singleton.1 hq]
    exact ⟨h1.1, kn_ar h2.1 (kn_vr hp _)⟩
  ·cases e
   rw [csL_one] at hc
   simp at hc
def ixB (s : ByteArray) : List ByteArray → Nat
 | [] => 0
 | n :: r => if n = s then 0 else ixB s r + 1
theorem ixB_lt {s : ByteArray} : ∀ {l : List ByteArray}, s ∈ l → ixB s l < l.length
 | [], h => by cases h
 | n :: r, h => by
  rw [ixB]
  split
  ·simp
  ·rename_i hn
   have := ixB_lt (l := r) ((List.mem_cons.1 h).resolve_left fun e => hn e.symm)
   simp; omega
theorem ixB_app {s : ByteArray} : ∀ {l : List ByteArray} (r : List ByteArray), s ∈ l → ixB s (l ++ r) = ixB s l
 | [], _, h => by cases h
 | n :: q, r, h => by
  simp only [List.cons_append, ixB]
  split
  ·rfl
  ·rename_i hn
   rw [ixB_app r ((List.mem_cons.1 h).resolve_left fun e => hn e.symm)]
theorem ixB_new {s : ByteArray} : ∀ {l : List ByteArray}, s ∉ l → ixB s (l ++ [s]) = l.length
 | [], _ => by simp [ixB]
 | n :: q, h => by
  simp only [List.cons_append, ixB]
  rw [if_neg (fun e => h (by simp [e])), ixB_new (l := q) (fun e => h (by simp [e]))]
  rfl
def ayK (ns : List ByteArray) (s : ByteArray) (l : List Tm) (bs : List Ty) : Ty := if l.length = 0 then ⟨(ixB s ns : Nat), []⟩ else ⟨0, bs⟩
def ayL (ns : List ByteArray) : List Tm → List Ty
 | [] => []
 | ⟨s, l⟩ :: r => ayK ns s l (ayL ns l) :: ayL ns r
def ayT (ns : List ByteArray) (t : Tm) : Ty := ayK ns t.name t.args (ayL ns t.args)
theorem ayL_cons (ns : List ByteArray) (t : Tm) (r : List Tm) : ayL ns (t :: r) = ayT ns t :: ayL ns r := by
 obtain ⟨s, l⟩ := t
 simp only [ayL, ayT]
theorem ayL_nil (ns : List ByteArray) : ayL ns [] = [] := by simp [ayL]
theorem ixB_mp {D : ByteArray → Prop} {f : ByteArray → ByteArray} (hf : OkF D f) {s : ByteArray} (hs : D s) : ∀ {l : List ByteArray}, (∀ y ∈ l, D y) → ixB (f s) (l.map f) = ixB s l
 | [], _ => rfl
 | n :: r, h => by
  simp only [List.map_cons, ixB]
  rw [ixB_mp hf hs (l := r) fun y hy => h y (by simp [hy])]
  by_cases e : n = s
  ·rw [if_pos e, if_pos (by rw [e])]
  ·rw [if_neg e, if_neg fun e2 => e (hf.inj _ _ (h n (by simp)) hs e2)]
theorem ayL_mp {D : ByteArray → Prop} {f : ByteArray → ByteArray} (hf : OkF D f) {ns : List ByteArray} (hn : ∀ y ∈ ns, D y) (l : List Tm) : DnL D l → ayL (ns.map f) (mpL f l) = ayL ns l := by
 induction l using Tm.indL with
 | h0 => intro _; simp [mpL, ayL]
 | h s l r ihl ihr =>
  intro h
  obtain ⟨h1, h2, h3⟩ := DnL.cons.1 h
  simp only [mpL, ayL]
  rw [ihl h2, ihr h3]
  unfold ayK
  rw [mpL_len, ixB_mp hf h1 hn]
theorem ayT_mp {D : ByteArray → Prop} {f : ByteArray → ByteArray} (hf : OkF D f) {t : Tm} (ht : DnL D [t]) : ayT (varsP [] (preL [mpT f t])) (mpT f t) = ayT (varsP [] (preL [t])) t := by
 have hv := varsP_mp hf ht
 rw [hv.1]
 have h := ayL_mp hf hv.2 [t] ht
 rw [mpL_cons, ayL_cons, ayL_cons, mpL_map, List.map_nil, ayL_nil] at h
 exact (List.cons.inj h).1
theorem vars_mem {s : ByteArray} (hv : varB s = true) {acc : List ByteArray} : s ∈ addV acc s := by
 unfold addV
 rw [hv]
 cases h : inB s acc with
 | true => simp; exact inB_mem1.1 h
 | false => simp
theorem addV_sub {acc : List ByteArray} {s y : ByteArray} (h : y ∈ acc) : y ∈ addV acc s := by
 unfold addV
 split
 ·simp [h]
 ·exact h
theorem varsP_pre (ks : List Tm) : ∀ acc, ∃ r, varsP acc ks = acc ++ r := by
 induction ks with
 | nil => intro acc; exact ⟨[], by simp [varsP]⟩
 | cons k q ih =>
  intro acc
  obtain ⟨r, hr⟩ := ih (addV acc k.name)
  rw [show varsP acc (k :: q) = varsP (addV acc k.name) q from rfl, hr]
  unfold addV
  split
  ·exact ⟨[k.name] ++ r, by simp⟩
  ·exact ⟨r, rfl⟩
theorem fL_onI {ls : List Bd} (hv : ∀ d ∈ ls, varB d.nm = true) : ∀ l : List Tm, KnL l → fL ls l = onL ls l := by
 intro l
 induction l using Tm.indL with
 | h0 => intro _; simp [fL, onL]
 | h s a r iha ihr =>
  intro h
  obtain ⟨h1, h2, h3⟩ := KnL.cons.1 h
  rw [fL, onL, iha h2, ihr h3]
  congr 1
  unfold fN onN
  rcases h1 with ⟨e1, e2⟩ | ⟨e1, e2⟩
  ·have e1' : varB s = true := e1
   have e2' : a = [] := e2
   rw [e1', e2']
   cases forT ls s <;> rfl
  ·have e1' : s = ⟨#[102]⟩ := e1
   have hs : varB s = false := by rw [e1']; decide
   rw [hs]
   cases hf : forT ls s with
   | none => rfl
   | some x =>
    obtain ⟨d, hd, e3, _⟩ := forT_mem hf
    have := hv d hd
    rw [e3, hs] at this
    cases this
theorem fT_onI {ls : List Bd} (hv : ∀ d ∈ ls, varB d.nm = true) {t : Tm} (h : KnL [t]) : fT ls t = onT ls t := by
 have h1 := fL_onI hv [t] h
 obtain ⟨s, a⟩ := t
 rw [fL, onL] at h1
 exact (List.cons.inj h1).1
def setAt : List (ByteArray × Value) → ByteArray → Value → List (ByteArray × Value)
 | [], _, _ => []
 | p :: r, n, v => if p.1 = n then (p.1, v) :: r else p :: setAt r n v
theorem findNow_set (n : ByteArray) (x : Value) : ∀ (l : List MapEntry) (L : List (ByteArray × Value)) (i : Nat) (v : Value), l.map (fun e => (e.key, e.val)) = L.map (fun p => (Value.string p.1, p.2)) → mapGet L n = some v →
  ∃ j e, Instr.findNow .string (.string n) l i = some (some (i + j, v)) ∧ l[j]? = some e ∧ e.key = .string n ∧ (l.modify j fun e => { e with key := .string n, val := x }).map (fun e => (e.key, e.val)) = (setAt L n x).map (fun p => (Value.string p.1, p.2))
 | [], [], i, v, h, hv => by simp [mapGet] at hv
 | [], p :: L, i, v, h, hv => by simp at h
 | e :: l, [], i, v, h, hv => by simp at h
 | e :: l, p :: L, i, v, h, hv => by
  simp only [List.map_cons, List.cons.injEq, Prod.mk.injEq] at h
  obtain ⟨⟨hk, he⟩, ht⟩ := h
  by_cases hn : p.1 = n
  ·have hs : Instr.sameNow .string (.string n) e.key = some true := by
    rw [hk, hn]
    show some (n == n) = some true
    rw [show (n == n) = true from (MapKept.bytes_beq _ _).2 rfl]
   simp only [mapGet, hn, if_true, Option.some.injEq] at hv
   refine ⟨0, e, by simp [Instr.findNow, hs, he, hv], rfl, by rw [hk, hn], ?_⟩
   simp [setAt, hn, ht]
  ·have hs : Instr.sameNow .string (.string n) e.key = some false := by
    rw [hk]
    show some (n == p.1) = some false
    have hb : (n == p.1) = false := by
     cases hh : (n == p.1) with
     | false => rfl
     | true => exact absurd ((MapKept.bytes_beq _ _).1 hh).symm hn
    rw [hb]
   rw [mapGet, if_neg hn] at hv
   obtain ⟨j, e', h1, h2, h3, h4⟩ := findNow_set n x l L (i + 1) v ht hv
   refine ⟨j + 1, e', by simp [Instr.findNow, hs, h1]; omega, by simpa using h2, h3, ?_⟩
   rw [setAt, if_neg hn]
   simp [List.modify_succ_cons, h4, hk, he]
theorem run_look1 {P : Program} {w : World} {T kt et : TypeId} {r : Nat} {L : List (ByteArray × Value)} {z : Value} (hm : P.underlying T = some (.map kt et)) (hk : P.underlying kt = some .string) (hz : (zeroValue et).run P w = .ok z w) (h : MapAt w r L) (n : ByteArray) :
  (Instr.lookup T (.map (some r)) (.string n) false).run P w = .ok ((mapGet L n).getD z) w := by
 obtain ⟨es, clk, hb, he, hstm⟩ := h
 obtain ⟨h1, h2⟩ := findNow_map n es.toList L 0 he
 have hc : ∀ b, (Instr.checkKey b 10000 kt (.string n)).run P w = .ok () w := fun b => MapKept.run_checkKey (k := .string n) hk (by simp [MapKept.IsKey]) b 9999
 cases hg : mapGet L n with
 | none => simp [Instr.lookup, run_underlying hm, MapKept.run_getObj_map hb, hc, MapKept.run_findKey hk (h1 hg), Result.andThen, hz]
 | some v =>
  obtain ⟨j, hj⟩ := h2 v hg
  simp [Instr.lookup, run_underlying hm, MapKept.run_getObj_map hb, hc, MapKept.run_findKey hk hj, Result.andThen]
theorem run_set {P : Program} {w : World} {T kt et : TypeId} {r : Nat} {L : List (ByteArray × Value)} (hm : P.underlying T = some (.map kt et)) (hk : P.underlying kt = some .string) (h : MapAt w r L) (n : ByteArray) (v old : Value) (hn : mapGet L n = some old) :
  ∃ w', (Instr.mapUpdate T (.map (some r)) (.string n) v).run P w = .ok () w' ∧ MapAt w' r (setAt L n v) ∧ w'.heap.size = w.heap.size ∧ w'.os = w.os ∧ w'.tape = w.tape ∧ w'.output = w.output ∧ (∀ b, b ≠ r → w'.heap[b]? = w.heap[b]?) := by
 obtain ⟨es, clk, hb, he, hstm⟩ := h
 obtain ⟨j, e0, h1, h2, h3, h4⟩ := findNow_set n v es.toList L 0 old he hn
 have hc : (Instr.checkKey false 10000 kt (.string n)).run P w = .ok () w := MapKept.run_checkKey (k := .string n) hk (by simp [MapKept.IsKey]) false 9999
 have hj : es[j]? = some e0 := by simpa using h2
 rw [Nat.zero_add] at h1
 have hst : (Instr.keyThatStays (.string n) (.string n)).run P w = .ok (.string n) w := MapKept.run_keyThatStays (d := .string) (by simp [MapKept.IsKey])
 refine ⟨{ w with heap := w.heap.setIfInBounds r (.map (es.modify j fun e => { e with key := .string n, val := v }) clk) }, ?_, ⟨_, _, (MapKept.heap_set hb).1, by rw [Array.toList_modify]; exact h4, hstm.modify _ _ _⟩, by simp, rfl, rfl, rfl, fun b hne => (MapKept.heap_set hb).2 b hne⟩
 simp [Instr.mapUpdate, run_underlying hm, MapKept.run_getObj_map hb, hc, MapKept.run_findKey hk h1, hj, h3, hst, MapKept.run_setObj_map _ hb, Result.andThen]
open Go.ChangeMaps (setBlock)
def RangeAt (w : World) (b r : Nat) (L rem : List (ByteArray × Value)) : Prop :=
 ∃ es clk since seen c0, w.heap[b]? = some (.map es clk) ∧ es.toList.map (fun e => (e.key, e.val)) = L.map (fun p => (Value.string p.1, p.2)) ∧ Stamps es clk ∧
  w.heap[r]? = some (.mapIter (some b) since seen c0) ∧ (∀ x ∈ es.toList, x.born < since) ∧ since ≤ c0 ∧ since ≤ clk ∧
  (leftOf es seen).toList.map (fun e => (e.key, e.val)) = rem.map (fun p => (Value.string p.1, p.2))
def leftAt (w : World) (b r : Nat) : Nat :=
 match w.heap[b]?, w.heap[r]? with
 | some (.map es _), some (.mapIter _ _ seen _) => (leftOf es seen).size
 | _, _ => 0
theorem RangeAt.left {w : World} {b r : Nat} {L rem : List (ByteArray × Value)} (h : RangeAt w b r L rem) : leftAt w b r = rem.length := by
 obtain ⟨es, clk, since, seen, c0, hb, _, _, hr, _, _, _, hl⟩ := h
 have := congrArg List.length hl
 simp only [List.length_map, Array.length_toList] at this
 simp only [leftAt, hb, hr]
 exact this
theorem RangeAt.map {w : World} {b r : Nat} {L rem : List (ByteArray × Value)} (h : RangeAt w b r L rem) : MapAt w b L := by
 obtain ⟨es, clk, since, seen, c0, hb, he, hs, _⟩ := h
 exact ⟨es, clk, hb, he, hs⟩
theorem RangeAt.ne {w : World} {b r : Nat} {L rem : List (ByteArray × Value)} (h : RangeAt w b r L rem) : r ≠ b := by
 obtain ⟨es, clk, since, seen, c0, hb, he, hs, hr, _⟩ := h
 intro e
 rw [e, hb] at hr
 cases hr
theorem RangeAt.lt {w : World} {b r : Nat} {L rem : List (ByteArray × Value)} (h : RangeAt w b r L rem) : r < w.heap.size := by
 obtain ⟨es, clk, since, seen, c0, hb, he, hs, hr, _⟩ := h
 exact (Array.getElem?_eq_some_iff.1 hr).1
theorem RangeAt.kept {w w' : World} {b r : Nat} {L rem : List (ByteArray × Value)} (h : RangeAt w b r L rem) (hb' : w'.heap[b]? = w.heap[b]?) (hr' : w'.heap[r]? = w.heap[r]?) : RangeAt w' b r L rem := by
 obtain ⟨es, clk, since, seen, c0, hb, he, hs, hr, rest⟩ := h
 exact ⟨es, clk, since, seen, c0, hb'.trans hb, he, hs, hr'.trans hr, rest⟩
theorem RangeAt.below {w w' : World} {b r B : Nat} {L rem : List (ByteArray × Value)} (h : RangeAt w b r L rem) (hb : Below B w w') (h1 : b < B) (h2 : r < B) : RangeAt w' b r L rem := h.kept (hb.block b h1) (hb.block r h2)
theorem MapAt.range {P : Program} {w : World} {T kt et : TypeId} {b : Nat} {L : List (ByteArray × Value)} (h : MapAt w b L) (hm : P.underlying T = some (.map kt et)) :
  ∃ o, (Instr.range T (.map (some b))).run P w = .ok (.pointer (some ⟨w.heap.size, 0, none⟩)) (w.alloc o) ∧ RangeAt (w.alloc o) b w.heap.size L L := by
 have hlt := h.lt
 obtain ⟨es, clk, hb, he, hs⟩ := h
 refine ⟨_, run_range_map w T kt et b es clk hm hb, es, clk, clk, #[], clk, (Below.heap_alloc _ _ _ hlt).trans hb, he, hs, heap_alloc_new w _, hs.1, Nat.le_refl _, Nat.le_refl _, ?_⟩
 rw [← he]
 congr 1
 simp [leftOf]
theorem kv_inj {l : List MapEntry} {L : List (ByteArray × Value)} (h : l.map (fun e => (e.key, e.val)) = L.map (fun p => (Value.string p.1, p.2))) {e : MapEntry} (he : e ∈ l) : ∃ p ∈ L, e.key = .string p.1 ∧ e.val = p.2 := by
 have : (e.key, e.val) ∈ L.map (fun p => (Value.string p.1, p.2)) := by rw [← h]; exact List.mem_map.2 ⟨e, he, rfl⟩
 obtain ⟨p, hp, e2⟩ := List.mem_map.1 this
 simp only [Prod.mk.injEq] at e2
 exact ⟨p, hp, e2.1.symm, e2.2.symm⟩
theorem left_out (seen : Array Nat) (e : MapEntry) : ∀ (l : List MapEntry) (R : List (ByteArray × Value)), (l.map (·.born)).Nodup → e ∈ l → seen.contains e.born = false → (l.filter fun x => !seen.contains x.born).map (fun e => (e.key, e.val)) = R.map (fun p => (Value.string p.1, p.2)) →
  ∃ p R', e.key = .string p.1 ∧ e.val = p.2 ∧ R.Perm (p :: R') ∧ (l.filter fun x => !(seen.push e.born).contains x.born).map (fun e => (e.key, e.val)) = R'.map (fun p => (Value.string p.1, p.2))
 | [], R, _, he, _, _ => by cases he
 | a :: l, R, hn, he, hs, hR => by
  simp only [List.map_cons, List.nodup_cons] at hn
  obtain ⟨hn1, hn2⟩ := hn
  by_cases ha : a.born = e.born
  ·have hae : e = a := by
    rcases List.mem_cons.1 he with h | h
    ·exact h
    ·exact absurd (List.mem_map.2 ⟨e, h, ha.symm⟩) hn1
   subst hae
   have hs' : (!seen.contains e.born) = true := by rw [hs]; rfl
   rw [List.filter_cons_of_pos (by simpa using hs')] at hR
   match R, hR with
   | p :: R', hR =>
    simp only [List.map_cons, List.cons.injEq, Prod.mk.injEq] at hR
    refine ⟨p, R', hR.1.1, hR.1.2, List.Perm.refl _, ?_⟩
    rw [List.filter_cons_of_neg (by simp), ← hR.2]
    congr 1
    refine List.filter_congr fun x hx => ?_
    have hne : x.born ≠ e.born := fun h => hn1 (List.mem_map.2 ⟨x, hx, h⟩)
    simp [hne]
  ·have he' : e ∈ l := by
    rcases List.mem_cons.1 he with h | h
    ·exact absurd (by rw [h]) ha
    ·exact h
   by_cases hsa : seen.contains a.born = true
   ·rw [List.filter_cons_of_neg (by simpa using hsa)] at hR
    obtain ⟨p, R', h1, h2, h3, h4⟩ := left_out seen e l R hn2 he' hs hR
    refine ⟨p, R', h1, h2, h3, ?_⟩
    rw [List.filter_cons_of_neg (by simp at hsa ⊢; exact fun h => absurd hsa h), h4]
   ·have hsa' : seen.contains a.born = false := by simpa using hsa
    rw [List.filter_cons_of_pos (by simpa using hsa')] at hR
    match R, hR with
    | q :: R0, hR =>
     simp only [List.map_cons, List.cons.injEq] at hR
     obtain ⟨p, R', h1, h2, h3, h4⟩ := left_out seen e l R0 hn2 he' hs hR.2
     refine ⟨p, q :: R', h1, h2, (List.Perm.cons q h3).trans (List.Perm.swap p q R'), ?_⟩
     rw [List.filter_cons_of_pos (by simp at hsa' ⊢; exact ⟨hsa', ha⟩), List.map_cons, List.map_cons, h4, hR.1]
theorem RangeAt.next {P : Program} {w : World} {b r : Nat} {L rem : List (ByteArray × Value)} (h : RangeAt w b r L rem) (ty : TypeId) :
  (rem = [] ∧ (Instr.next (.pointer (some ⟨r, 0, none⟩)) false ty).run P w = .ok (.tuple #[.bool false]) w) ∨
  ∃ p rem' w', rem.Perm (p :: rem') ∧ (Instr.next (.pointer (some ⟨r, 0, none⟩)) false ty).run P w = .ok (.tuple #[.bool true, .string p.1, p.2]) w' ∧ RangeAt w' b r L rem' ∧
   w'.heap.size = w.heap.size ∧ w'.os = w.os ∧ w'.tape = w.tape ∧ w'.output = w.output ∧ (∀ j, j ≠ r → w'.heap[j]? = w.heap[j]?) ∧ (Instr.entry (.pointer (some ⟨r, 0, none⟩))).run P w' = .ok (.tuple #[.string p.1, p.2]) w' := by
 have hne := h.ne
 obtain ⟨es, clk, since, seen, c0, hb, he, hs, hr, hold, hsc, hsk, hl⟩ := h
 rcases run_next_at (P := P) w ty r b since c0 seen es clk hr hb hold hsc with ⟨h0, hrun⟩ | ⟨e, hem, w1, hal, hrun⟩
 ·refine Or.inl ⟨?_, hrun⟩
  have := congrArg List.length hl
  simp only [List.length_map, Array.length_toList, h0] at this
  exact List.length_eq_zero_iff.1 this.symm
 ·obtain ⟨hm1, hm2⟩ := mem_left hem
  have hl' : (es.toList.filter fun x => !seen.contains x.born).map (fun e => (e.key, e.val)) = rem.map (fun p => (Value.string p.1, p.2)) := by
   rw [← hl]; unfold leftOf; rw [Array.toList_filter]
  obtain ⟨p, rem', hk, hv, hperm, hrem⟩ := left_out seen e es.toList rem hs.2 hm1 hm2 hl'
  have hr1 : w1.heap[r]? = some (.mapIter (some b) since seen c0) := by rcases hal with rfl | rfl <;> exact hr
  have hb1 : w1.heap[b]? = some (.map es clk) := by rcases hal with rfl | rfl <;> exact hb
  have hset := MapKept.heap_set (o' := .mapIter (some b) since (seen.push e.born) clk) hr1
  have hb' : (setBlock w1 r (.mapIter (some b) since (seen.push e.born) clk)).heap[b]? = some (.map es clk) := (hset.2 b (fun e1 => hne e1.symm)).trans hb1
  rw [hk, hv] at hrun
  refine Or.inr ⟨p, rem', _, hperm, hrun, ⟨es, clk, since, seen.push e.born, clk, hb', he, hs, hset.1, hold, hsk, hsk, ?_⟩, ?_, ?_, ?_, ?_, ?_, ?_⟩
  ·rw [← hrem]; unfold leftOf; rw [Array.toList_filter]
  ·rcases hal with rfl | rfl <;> simp [setBlock]
  ·rcases hal with rfl | rfl <;> rfl
  ·rcases hal with rfl | rfl <;> rfl
  ·rcases hal with rfl | rfl <;> rfl
  ·intro j hj
   have := hset.2 j hj
   rcases hal with rfl | rfl <;> exact this
  ·have := run_entry_at (P := P) _ r b since seen es clk e hset.1 hb' hm1 hs.2
   rw [hk, hv] at this
   exact this
def delP : List (ByteArray × Value) → ByteArray → List (ByteArray × Value)
 | [], _ => []
 | p :: r, n => if p.1 = n then r else p :: delP r n
theorem findNow_del (n : ByteArray) (q : MapEntry → Bool) : ∀ (l : List MapEntry) (L : List (ByteArray × Value)) (i : Nat), l.map (fun e => (e.key, e.val)) = L.map (fun p => (Value.string p.1, p.2)) → (∀ e ∈ l, e.key = .string n → q e = false) →
  (mapGet L n = none → delP L n = L) ∧ (∀ v, mapGet L n = some v → ∃ j, Instr.findNow .string (.string n) l i = some (some (i + j, v)) ∧ j < l.length ∧ (l.eraseIdx j).map (fun e => (e.key, e.val)) = (delP L n).map (fun p => (Value.string p.1, p.2)) ∧ (l.eraseIdx j).filter q = l.filter q)
 | [], [], i, h, _ => ⟨fun _ => rfl, fun v hv => by simp [mapGet] at hv⟩
 | [], p :: L, i, h, _ => by simp at h
 | e :: l, [], i, h, _ => by simp at h
 | e :: l, p :: L, i, h, hq => by
  simp only [List.map_cons, List.cons.injEq, Prod.mk.injEq] at h
  obtain ⟨⟨hk, he⟩, ht⟩ := h
  obtain ⟨ih1, ih2⟩ := findNow_del n q l L (i + 1) ht fun e he => hq e (by simp [he])
  by_cases hn : p.1 = n
  ·have hs : Instr.sameNow .string (.string n) e.key = some true := by
    rw [hk, hn]
    show some (n == n) = some true
    rw [show (n == n) = true from (MapKept.bytes_beq _ _).2 rfl]
   refine ⟨fun h => by simp [mapGet, hn] at h, fun v hv => ?_⟩
   simp only [mapGet, hn, if_true, Option.some.injEq] at hv
   refine ⟨0, by simp [Instr.findNow, hs, he, hv], by simp, ?_, ?_⟩
   ·simp [delP, hn, ht]
   ·rw [List.eraseIdx_cons_zero, List.filter_cons_of_neg (by rw [hq e (by simp) (by rw [hk, hn])]; simp)]
  ·have hs : Instr.sameNow .string (.string n) e.key = some false := by
    rw [hk]
    show some (n == p.1) = some false
    have hb : (n == p.1) = false := by
     cases hh : (n == p.1) with
     | false => rfl
     | true => exact absurd ((MapKept.bytes_beq _ _).1 hh).symm hn
    rw [hb]
   refine ⟨fun h => ?_, fun v hv => ?_⟩
   ·rw [mapGet, if_neg hn] at h
    rw [delP, if_neg hn, ih1 h]
   ·rw [mapGet, if_neg hn] at hv
    obtain ⟨j, h1, h2, h3, h4⟩ := ih2 v hv
    refine ⟨j + 1, by simp [Instr.findNow, hs, h1]; omega, by simpa using h2, ?_, ?_⟩
    ·rw [delP, if_neg hn]; simp [h3, hk, he]
    ·rw [List.eraseIdx_cons_succ]
     cases hqe : q e with
     | true => rw [List.filter_cons_of_pos hqe, List.filter_cons_of_pos hqe, h4]
     | false => rw [List.filter_cons_of_neg (by simp [hqe]), List.filter_cons_of_neg (by simp [hqe]), h4]
theorem RangeAt.drop {P : Program} {w : World} {T kt et ty : TypeId} {b r : Nat} {L rem : List (ByteArray × Value)} (h : RangeAt w b r L rem) (hm : P.underlying T = some (.map kt et)) (hk : P.underlying kt = some .string) (n : ByteArray) (hr0 : ∀ p ∈ rem, p.1 ≠ n) (v : Value) (hv : mapGet L n = some v) :
  ∃ w', (Builtin.delete_ #[T, kt] ty #[.map (some b), .string n]).run P w = .ok (.tuple #[]) w' ∧ RangeAt w' b r (delP L n) rem ∧ w'.heap.size = w.heap.size ∧ w'.os = w.os ∧ w'.tape = w.tape ∧ w'.output = w.output ∧ (∀ j, j ≠ b → w'.heap[j]? = w.heap[j]?) := by
 have hne := h.ne
 obtain ⟨es, clk, since, seen, c0, hb, he, hs, hr, hold, hsc, hsk, hl⟩ := h
 have hl' : (es.toList.filter fun x => !seen.contains x.born).map (fun e => (e.key, e.val)) = rem.map (fun p => (Value.string p.1, p.2)) := by
  rw [← hl]; unfold leftOf; rw [Array.toList_filter]
 have hq : ∀ e ∈ es.toList, e.key = .string n → (!seen.contains e.born) = false := fun e hee hke => by
  cases hc : seen.contains e.born with
  | true => rfl
  | false =>
   obtain ⟨p, hp, h1, _⟩ := kv_inj hl' (List.mem_filter.2 ⟨hee, by rw [hc]; rfl⟩)
   rw [hke] at h1
   exact absurd (Value.string.inj h1).symm (hr0 p hp)
 obtain ⟨j, h1, h2, h3, h4⟩ := (findNow_del n (fun x => !seen.contains x.born) es.toList L 0 he hq).2 v hv
 rw [Nat.zero_add] at h1
 have hc : ∀ b, (Instr.checkKey b 10000 kt (.string n)).run P w = .ok () w := fun b => MapKept.run_checkKey (k := .string n) hk (by simp [MapKept.IsKey]) b 9999
 have hsub : (es.eraseIdxIfInBounds j).toList = es.toList.eraseIdx j := by
  unfold Array.eraseIdxIfInBounds
  rw [dif_pos (by simpa using h2)]
  simp
 have hmem : ∀ x ∈ (es.eraseIdxIfInBounds j).toList, x ∈ es.toList := fun x hx => by rw [hsub] at hx; exact (List.eraseIdx_sublist _ _).subset hx
 refine ⟨setBlock w b (.map (es.eraseIdxIfInBounds j) clk), ?_, ⟨es.eraseIdxIfInBounds j, clk, since, seen, c0, (MapKept.heap_set hb).1, by rw [hsub]; exact h3, ⟨fun x hx => hs.1 x (hmem x hx), ?_⟩, ((MapKept.heap_set hb).2 r hne).trans hr, fun x hx => hold x (hmem x hx), hsc, hsk, ?_⟩, by simp [setBlock], rfl, rfl, rfl, fun i hi => (MapKept.heap_set hb).2 i hi⟩
 ·simp [Builtin.delete_, run_underlying hm, MapKept.run_getObj_map hb, hc, MapKept.run_findKey hk h1, MapKept.run_setObj_map _ hb, Result.andThen, setBlock]
 ·rw [hsub]
  exact hs.2.sublist ((List.eraseIdx_sublist _ _).map _)
 ·unfold leftOf
  rw [Array.toList_filter, hsub, h4]
  exact hl'
theorem Tryz.infoBind : (Tryz.prog.info? 79).map (fun i => (i.zero, i.size, i.bytes)) = some (some (.agg #[.string ByteArray.empty, .string ByteArray.empty, .slice none 0 0]), 3, 56) := by kernel_rfl
theorem cell_three_new (w : World) (c0 c1 c2 : Value) (T : Nat) : ∀ j u, [c0, c1, c2][j]? = some u → (w.alloc (.cells #[c0, c1, c2] T)).cell? ((⟨w.heap.size, 0, none⟩ : Addr).add j) = some u :=
 World.news_of_block (cs := #[c0, c1, c2]) (heap_alloc_new w _)
theorem binds_append {w w1 : World} {N : Nat} {Y : Nat → Prop} {v : Value} {cs : List Bc} (h : BRow w N Y v cs) (hN : N ≤ w.heap.size) (hY : ∀ b, Y b → b < N) (hb : Below w.heap.size w w1) (x : Bc) (ht : Sl w1 (fun b => Y b ∨ w.heap.size ≤ b) x.2.1 x.1.t.args) (hn : cs.length ≤ 1000000) (A : Nat) (hA : w1.heap.size = A) :
  ∃ v2 w3, (Builtin.append_ #[50, 50] 50 #[v, .slice (some ⟨A, 0, none⟩) 1 1]).run Tryz.prog (w1.alloc (.cells #[.string x.1.nm, .string x.1.t.name, .slice x.2.1 x.1.t.args.length x.2.2] 79)) = .ok v2 w3 ∧ BRow w3 N Y v2 (cs ++ [x]) ∧
   (w1.alloc (.cells #[.string x.1.nm, .string x.1.t.name, .slice x.2.1 x.1.t.args.length x.2.2] 79)).grownBy w3 v.ownBlock := by
 subst hA
 obtain ⟨i0, hi, hz0, hz1, hz2⟩ := info_parts Tryz.infoBind
 have hs := hb.size
 obtain ⟨g, cap, w3, hr, ho, hg, hat, hlt⟩ := run_append_lies (P := Tryz.prog) (w := w1.alloc (.cells #[.string x.1.nm, .string x.1.t.name, .slice x.2.1 x.1.t.args.length x.2.2] 79)) 50 50 N 79 i0 _ 3 56 Tryz.underlying50 hi hz0 hz1 hz2 rfl (by decide) v cs.length (flat3 cs) ((h.below hb).own.alloc _)
  ⟨w1.heap.size, 0, none⟩ 1 1 (enc3 x) rfl (cell_three_new _ _ _ _ _) (fun y hy => by simp [enc3] at hy; rcases hy with rfl | rfl | rfl <;> rfl) (by decide) (by unfold maxLen; omega) (by omega) (by simp; omega) _ rfl
 exact ⟨_, w3, hr, h.push hN hY hb ht _ rfl ho hg hat, hg⟩
abbrev Pc := Pr × (Option Addr × Nat) × (Option Addr × Nat)
instance : Inhabited Pc := ⟨(⟨⟨⟨#[]⟩, []⟩, ⟨⟨#[]⟩, []⟩⟩, (none, 0), (none, 0))⟩
def enc4 (x : Pc) : List Value := [.string x.1.l.name, .slice x.2.1.1 x.1.l.args.length x.2.1.2, .string x.1.r.name, .slice x.2.2.1 x.1.r.args.length x.2.2.2]
def flat4 : List Pc → List Value
 | [] => []
 | x :: r => enc4 x ++ flat4 r
theorem flat4_append (b : List Pc) : ∀ a, flat4 (a ++ b) = flat4 a ++ flat4 b
 | [] => rfl
 | x :: r => by rw [List.cons_append, flat4, flat4, flat4_append b r, List.append_assoc]
theorem flat4_length : ∀ a : List Pc, (flat4 a).length = a.length * 4
 | [] => rfl
 | x :: r => by rw [flat4, List.length_append, flat4_length r]; simp [enc4]; omega
theorem flat4_get : ∀ (a : List Pc) (i : Nat) (h : i < a.length) (j : Nat), j < 4 → (flat4 a)[i * 4 + j]? = (enc4 a[i])[j]?
 | [], i, h, j, hj => by simp at h
 | x :: r, 0, h, j, hj => by
  rw [flat4, List.getElem?_append_left (by simp [enc4]; omega)]; simp
 | x :: r, i + 1, h, j, hj => by
  rw [flat4, List.getElem?_append_right (by simp [enc4]; omega)]
  have e : (i + 1) * 4 + j - (enc4 x).length = i * 4 + j := by simp [enc4]; omega
  rw [e, flat4_get r i (by simpa using h) j hj]
  simp
structure QRow (w : World) (N : Nat) (Y : Nat → Prop) (v : Value) (cs : List Pc) : Prop where
 own : w.ownsRow N 75 4 v cs.length (flat4 cs)
 row : ∀ x ∈ cs, Sl w (fun b => Y b ∨ (N ≤ b ∧ some b ≠ v.ownBlock)) x.2.1.1 x.1.l.args ∧ Sl w (fun b => Y b ∨ (N ≤ b ∧ some b ≠ v.ownBlock)) x.2.2.1 x.1.r.args
theorem QRow.start (w : World) (N : Nat) (Y : Nat → Prop) : QRow w N Y (.slice none 0 0) [] := ⟨World.ownsRow_nil w N _ 4, by simp⟩
theorem QRow.below {w w' : World} {N : Nat} {Y : Nat → Prop} {v : Value} {cs : List Pc} (h : QRow w N Y v cs) (hb : Below w.heap.size w w') : QRow w' N Y v cs :=
 ⟨h.own.kept (w' := w') (row := none) ⟨hb.os, hb.tape, hb.output, hb.size, fun j hj _ => hb.block j hj⟩ (by rcases Option.eq_none_or_eq_some (Value.ownBlock v) with h | ⟨x, h⟩; exact Or.inl h; exact Or.inr (by rw [h]; simp)),
  fun x hx => ⟨(h.row x hx).1.later hb, (h.row x hx).2.later hb⟩⟩
theorem QRow.ne {w : World} {N : Nat} {Y : Nat → Prop} {v : Value} {cs : List Pc} (h : QRow w N Y v cs) {b : Nat} (hb : b < N) : some b ≠ v.ownBlock := fun e => by
 have := (h.own.lt b e.symm).1; omega
theorem QRow.push {w w1 w2 w3 : World} {N : Nat} {Y : Nat → Prop} {v : Value} {cs : List Pc} (h : QRow w N Y v cs) (hN : N ≤ w.heap.size) (hY : ∀ b, Y b → b < N) (hb : Below w.heap.size w w1) {x : Pc}
  (ht : Sl w1 (fun b => Y b ∨ w.heap.size ≤ b) x.2.1.1 x.1.l.args ∧ Sl w1 (fun b => Y b ∨ w.heap.size ≤ b) x.2.2.1 x.1.r.args) (o : Obj) (hw2 : w2 = w1.alloc o) {g cap : Nat}
  (hown : w3.ownsRow N 75 4 (.slice (some ⟨g, 0, none⟩) (cs.length + 1) cap) (cs.length + 1) (flat4 cs ++ enc4 x)) (hg : w2.grownBy w3 v.ownBlock) (hg1 : v.ownBlock = some g ∨ g = w2.heap.size) :
  QRow w3 N Y (.slice (some ⟨g, 0, none⟩) (cs.length + 1) cap) (cs ++ [x]) := by
 subst hw2
 have hlt := h.own.lt
 have hsz : w1.heap.size ≤ (w1.alloc o).heap.size := by simp
 have hbs := hb.size
 have hgN : N ≤ g := by
  rcases hg1 with e | e
  ·exact (hlt g e).1
  ·simp at e; omega
 have old : ∀ (a : Option Addr) (l : List Tm), Sl w (fun b => Y b ∨ (N ≤ b ∧ some b ≠ v.ownBlock)) a l → Sl w3 (fun b => Y b ∨ (N ≤ b ∧ some b ≠ (Value.slice (some ⟨g, 0, none⟩) (cs.length + 1) cap).ownBlock)) a l := fun a l h0 => by
  have h1 : Sl w (fun b => (Y b ∨ (N ≤ b ∧ some b ≠ v.ownBlock)) ∧ b < w.heap.size) a l := h0.mono fun b h1 h2 => ⟨h1, h2⟩
  have h2 : Sl w3 (fun b => (Y b ∨ (N ≤ b ∧ some b ≠ v.ownBlock)) ∧ b < w.heap.size) a l := h1.kept fun b hx => by
   have hne : some b ≠ v.ownBlock := by
    rcases hx.1 with hy | hy
    ·exact h.ne (hY b hy)
    ·exact hy.2
   rw [hg.block b (by simp; omega) hne, Below.heap_alloc _ _ _ (by omega), hb.block b hx.2]
  refine h2.mono fun b hx _ => ?_
  rcases hx.1 with hy | hy
  ·exact Or.inl hy
  ·refine Or.inr ⟨hy.1, fun e => ?_⟩
   simp [Value.ownBlock] at e
   rcases hg1 with e' | e'
   ·exact hy.2 (by rw [e', e])
   ·simp at e'; omega
 have new : ∀ (a : Option Addr) (l : List Tm), Sl w1 (fun b => Y b ∨ w.heap.size ≤ b) a l → Sl w3 (fun b => Y b ∨ (N ≤ b ∧ some b ≠ (Value.slice (some ⟨g, 0, none⟩) (cs.length + 1) cap).ownBlock)) a l := fun a l h0 => by
  have h1 : Sl w1 (fun b => (Y b ∨ w.heap.size ≤ b) ∧ b < w1.heap.size) a l := h0.mono fun b h1 h2 => ⟨h1, h2⟩
  have h2 : Sl w3 (fun b => (Y b ∨ w.heap.size ≤ b) ∧ b < w1.heap.size) a l := h1.kept fun b hx => by
   have hne : some b ≠ v.ownBlock := by
    rcases hx.1 with hy | hy
    ·exact h.ne (hY b hy)
    ·intro e; have := (hlt b e.symm).2; omega
   rw [hg.block b (by simp; omega) hne, Below.heap_alloc _ _ _ hx.2]
  refine h2.mono fun b hx _ => ?_
  rcases hx.1 with hy | hy
  ·exact Or.inl hy
  ·refine Or.inr ⟨by omega, fun e => ?_⟩
   simp [Value.ownBlock] at e
   rcases hg1 with e' | e'
   ·have := (hlt g e').2; omega
   ·simp at e'; omega
 refine ⟨by rw [flat4_append]; simpa [flat4] using hown, fun y hy => ?_⟩
 rcases List.mem_append.1 hy with hy | hy
 ·exact ⟨old _ _ (h.row y hy).1, old _ _ (h.row y hy).2⟩
 ·have e : y = x := by simpa using hy
  subst e
  exact ⟨new _ _ ht.1, new _ _ ht.2⟩
theorem QRow.qv {w : World} {N : Nat} {Y : Nat → Prop} {v : Value} {cs : List Pc} (h : QRow w N Y v cs) : QV w (fun b => Y b ∨ N ≤ b) v (cs.map (·.1)) := by
 have hml : cs.length ≤ 9223372036854775807 := by
  rcases h.own.2 with ⟨_, h0⟩ | ⟨g, cap, cur, _, _, _, h1, h2, _⟩
  ·omega
  ·unfold maxLen at h2; omega
 by_cases h0 : 0 < cs.length
 ·obtain ⟨g, cap, rfl, hg, hlt, hc⟩ := owned_val h.own h0
  have hcap : cs.length ≤ cap := by
   rcases h.own.2 with ⟨e, _⟩ | ⟨g', cap', cur, e, _, _, h1, _⟩
   ·cases e
   ·simp at e; omega
  refine ⟨_, cap, by simp, ⟨by simpa using hml, by simpa using hcap⟩, Or.inr ⟨g, 0, rfl, Or.inr hg, fun i hi => ?_⟩⟩
  have hi' : i < cs.length := by simpa using hi
  have g0 := hc (i * 4 + 0) (.string cs[i].1.l.name) (by rw [flat4_get cs i hi' 0 (by decide)]; rfl)
  have g1 := hc (i * 4 + 1) (.slice cs[i].2.1.1 cs[i].1.l.args.length cs[i].2.1.2) (by rw [flat4_get cs i hi' 1 (by decide)]; rfl)
  have g2 := hc (i * 4 + 2) (.string cs[i].1.r.name) (by rw [flat4_get cs i hi' 2 (by decide)]; rfl)
  have g3 := hc (i * 4 + 3) (.slice cs[i].2.2.1 cs[i].1.r.args.length cs[i].2.2.2) (by rw [flat4_get cs i hi' 3 (by decide)]; rfl)
  simp only [List.getElem_map, Nat.zero_add]
  obtain ⟨r1, r2⟩ := h.row cs[i] (List.getElem_mem hi')
  exact ⟨_, _, _, _, g0, g1, g2, g3, r1.mono fun b hb _ => hb.imp id (fun h => h.1), r2.mono fun b hb _ => hb.imp id (fun h => h.1)⟩
 ·have e : cs = [] := List.length_eq_zero_iff.1 (by omega)
  subst e
  rcases h.own.2 with ⟨hv, _⟩ | ⟨g, cap, cur, hv, _⟩
  ·exact ⟨none, 0, hv, by simp, Or.inl rfl⟩
  ·exact ⟨_, _, hv, by simp, Or.inl rfl⟩
theorem Tryz.infoPair : (Tryz.prog.info? 75).map (fun i => (i.zero, i.size, i.bytes)) = some (some (.agg #[.string ByteArray.empty, .slice none 0 0, .string ByteArray.empty, .slice none 0 0]), 4, 80) := by kernel_rfl
theorem cell_four_new (w : World) (c0 c1 c2 c3 : Value) (T : Nat) : ∀ j u, [c0, c1, c2, c3][j]? = some u → (w.alloc (.cells #[c0, c1, c2, c3] T)).cell? ((⟨w.heap.size, 0, none⟩ : Addr).add j) = some u :=
 World.news_of_block (cs := #[c0, c1, c2, c3]) (heap_alloc_new w _)
structure ExQ (Q : Nat → Prop) (w w' : World) : Prop where
 os : w'.os = w.os
 tape : w'.tape = w.tape
 output : w'.output = w.output
 size : w.heap.size ≤ w'.heap.size
 block : ∀ k, k < w.heap.size → ¬ Q k → w'.heap[k]? = w.heap[k]?
theorem ExQ.refl (Q : Nat → Prop) (w : World) : ExQ Q w w := ⟨rfl, rfl, rfl, Nat.le_refl _, fun _ _ _ => rfl⟩
theorem ExQ.trans {Q : Nat → Prop} {a b c : World} (h : ExQ Q a b) (k : ExQ Q b c) : ExQ Q a c :=
 ⟨k.os.trans h.os, k.tape.trans h.tape, k.output.trans h.output, Nat.le_trans h.size k.size, fun i hi hn => (k.block i (Nat.lt_of_lt_of_le hi h.size) hn).trans (h.block i hi hn)⟩
theorem ExQ.transN {Q R : Nat → Prop} {a b c : World} (h : ExQ Q a b) (k : ExQ R b c) (hR : ∀ i, R i → i < a.heap.size → Q i) : ExQ Q a c :=
 ⟨k.os.trans h.os, k.tape.trans h.tape, k.output.trans h.output, Nat.le_trans h.size k.size, fun i hi hn => (k.block i (Nat.lt_of_lt_of_le hi h.size) (fun hr => hn (hR i hr hi))).trans (h.block i hi hn)⟩
theorem ExQ.mono {Q R : Nat → Prop} {a b : World} (h : ExQ Q a b) (hR : ∀ i, Q i → i < a.heap.size → R i) : ExQ R a b := ⟨h.os, h.tape, h.output, h.size, fun i hi hn => h.block i hi (fun hq => hn (hR i hq hi))⟩
theorem ExQ.drewN {Q : Nat → Prop} {a w : World} (h : ExQ Q a w) (n : Nat) : ExQ Q a (w.drewN n) := ⟨h.os, h.tape, h.output, h.size, h.block⟩
theorem ExQ.drew {Q : Nat → Prop} {a w : World} (h : ExQ Q a w) : ExQ Q a w.drew := ⟨h.os, h.tape, h.output, h.size, h.block⟩
theorem ExQ.set {Q : Nat → Prop} {a w : World} (h : ExQ Q a w) {B : Nat} (hB : Q B) (i : Nat) (v : Value) : ExQ Q a (w.setCell ⟨B, i, none⟩ v) :=
 ⟨h.os, h.tape, h.output, by simpa [World.setCell] using h.size, fun k hk hn => (Below.heap_setCell _ _ _ _ (by simp; intro e; subst e; exact hn hB)).trans (h.block k hk hn)⟩
theorem ExQ.alloc {Q : Nat → Prop} {a w : World} (h : ExQ Q a w) (o : Obj) : ExQ Q a (w.alloc o) :=
 ⟨h.os, h.tape, h.output, by have := h.size; simp; omega, fun k hk hn => (Below.heap_alloc _ _ _ (Nat.lt_of_lt_of_le hk h.size)).trans (h.block k hk hn)⟩
theorem ExQ.grown {Q : Nat → Prop} {a w w' : World} {row : Option Nat} (h : ExQ Q a w) (hg : w.grownBy w' row) (hr : ∀ k, row = some k → a.heap.size ≤ k ∨ Q k) : ExQ Q a w' :=
 ⟨hg.os.trans h.os, hg.tape.trans h.tape, hg.output.trans h.output, Nat.le_trans h.size hg.size, fun k hk hn => (hg.block k (Nat.lt_of_lt_of_le hk h.size) (fun e => by rcases hr k e.symm with h1 | h1; omega; exact hn h1)).trans (h.block k hk hn)⟩
theorem ExQ.setNew {Q : Nat → Prop} {a w : World} (h : ExQ Q a w) {b : Nat} (hb : a.heap.size ≤ b) (i : Nat) (v : Value) : ExQ Q a (w.setCell ⟨b, i, none⟩ v) :=
 ⟨h.os, h.tape, h.output, by simpa [World.setCell] using h.size, fun k hk hn => (Below.heap_setCell _ _ _ _ (by simp; omega)).trans (h.block k hk hn)⟩
theorem ExQ.ofBelow {Q : Nat → Prop} {w w' : World} (h : Below w.heap.size w w') : ExQ Q w w' := ⟨h.os, h.tape, h.output, h.size, fun k hk _ => h.block k hk⟩
theorem ExQ.ofEx {Q : Nat → Prop} {B : Nat} {w w' : World} (h : Ex B w w') (hB : Q B) : ExQ Q w w' := ⟨h.os, h.tape, h.output, h.size, fun k hk hn => h.block k hk (fun e => hn (by rw [e]; exact hB))⟩
theorem ExQ.below {Q : Nat → Prop} {w w' : World} {B : Nat} (h : ExQ Q w w') (hB : B ≤ w.heap.size) (hQ : ∀ b, Q b → B ≤ b) : Below B w w' :=
 ⟨h.os, h.tape, h.output, h.size, fun k hk => h.block k (by omega) (fun hq => by have := hQ k hq; omega)⟩
theorem Blk.exq {w w' : World} {Q : Nat → Prop} {b T : Nat} {cs : Array Value} (h : Blk w b cs T) (he : ExQ Q w w') (hne : ¬ Q b) : Blk w' b cs T := by
 unfold Blk at *
 rw [he.block b (Blk.lt h) hne]; exact h
theorem Sl.exq {w w' : World} {Q X : Nat → Prop} {a : Option Addr} {l : List Tm} (h : Sl w X a l) (he : ExQ Q w w') (hX : ∀ b, X b → ¬ Q b) : Sl w' X a l :=
 ((h.mono (Y := fun b => X b ∧ b < w.heap.size) fun b h1 h2 => ⟨h1, h2⟩).kept fun b hb => he.block b hb.2 (hX b hb.1)).mono fun b hb _ => hb.1
theorem ExQ.mid {Q : Nat → Prop} {w w1 : World} (h : ExQ Q w w1) : ∃ wm, Below wm.heap.size wm w1 ∧ wm.heap.size = w.heap.size ∧ ExQ Q w wm := by
 have hs := h.size
 have hz : (w1.heap.extract 0 w.heap.size).size = w.heap.size := by simp; omega
 refine ⟨{ w1 with heap := w1.heap.extract 0 w.heap.size }, ⟨rfl, rfl, rfl, by simp; omega, fun k hk => ?_⟩, hz, ⟨h.os, h.tape, h.output, by simp [hz], fun k hk hn => ?_⟩⟩
 ·have hk2 : k < w.heap.size := by simp at hk; omega
  simp [Array.getElem?_extract, hk2]
  omega
 ·rw [← h.block k hk hn]
  simp [Array.getElem?_extract, hk]
  omega
theorem ownsRow_at {w w' : World} {base e size n : Nat} {v : Value} {xs : List Value} (h : w.ownsRow base e size v n xs) (hk : ∀ g, v.ownBlock = some g → w'.heap[g]? = w.heap[g]?) : w'.ownsRow base e size v n xs := by
 obtain ⟨hl, h1⟩ := h
 refine ⟨hl, ?_⟩
 rcases h1 with h1 | ⟨g, cap, cur, hv, hg, hh, hr⟩
 ·exact Or.inl h1
 ·refine Or.inr ⟨g, cap, cur, hv, hg, ?_, hr⟩
  rw [hk g (by rw [hv]; rfl)]
  exact hh
theorem Row.exq {w w' : World} {Q : Nat → Prop} {N T : Nat} {Y : Nat → Prop} {v : Value} {l : List Tm} {xs : List Value} (h : Row w N T Y v l xs) (he : ExQ Q w w') (hQ : ∀ b, Q b → b < N) (hY : ∀ b, Q b → ¬ Y b) : Row w' N T Y v l xs :=
 ⟨ownsRow_at h.own fun g hg => he.block g (h.own.lt g hg).2 (fun hq => by have := hQ g hq; have := (h.own.lt g hg).1; omega),
  h.row.imp fun a l hs => hs.exq he fun b hb hq => by
   rcases hb with h1 | h1
   ·exact hY b hq h1
   ·have := hQ b hq; omega⟩
theorem BRow.exq {w w' : World} {Q : Nat → Prop} {N : Nat} {Y : Nat → Prop} {v : Value} {cs : List Bc} (h : BRow w N Y v cs) (he : ExQ Q w w') (hQ : ∀ b, Q b → b < N) (hY : ∀ b, Q b → ¬ Y b) : BRow w' N Y v cs :=
 ⟨ownsRow_at h.own fun g hg => he.block g (h.own.lt g hg).2 (fun hq => by have := hQ g hq; have := (h.own.lt g hg).1; omega),
  fun x hx => (h.row x hx).exq he fun b hb hq => by
   rcases hb with h1 | h1
   ·exact hY b hq h1
   ·have := hQ b hq; omega⟩
theorem dec_small {n : Nat} (h : n < 10) : Lib.decDigits n = [UInt8.ofNat (48 + n)] := by rw [Lib.decDigits, dif_pos h]
theorem dec_great {n : Nat} (h : ¬ n < 10) : Lib.decDigits n = Lib.decDigits (n / 10) ++ Lib.decDigits (n % 10) := by
 conv => lhs; rw [Lib.decDigits, dif_neg h]
 rw [dec_small (n := n % 10) (by omega)]
theorem ret_strL {a b : ByteArray} (h : a.data.toList = b.data.toList) : Ending.returned (.string a) = .returned (.string b) := by
 have : a = b := by
  obtain ⟨⟨x⟩⟩ := a; obtain ⟨⟨y⟩⟩ := b; simp at h; rw [h]
 rw [this]
set_option maxHeartbeats 1000000 in
theorem dec_any (n : Nat) : n ≤ 1000000 → ∀ (w : World), Calls Tryz.prog 43 #[.int .i64 n] w fun e w' => e = .returned (.string ⟨(Lib.decDigits n).toArray⟩) ∧ Below w.heap.size w w' := by
 induction n using Nat.strongRecOn with
 | ind n ih =>
  intro hn w
  by_cases h : n < 10
  ·have HD := hide (dec_small h)
   generalize Lib.decDigits n = D at HD ⊢
   have h' : (n : Int) < 10 := by omega
   have hw2 : 48 + (n : Int) = ((UInt8.ofNat (48 + n)).toNat : Int) := by
    have : (UInt8.ofNat (48 + n)).toNat = 48 + n := by simp; omega
    rw [this]; omega
   have hcv : (convert 93 9 (.slice (some ⟨w.heap.size, 0, none⟩) 1 1)).run Tryz.prog (w.alloc (.cells #[.int .u8 (48 + (n : Int))] 5)) = .ok (.string ⟨([UInt8.ofNat (48 + n)]).toArray⟩) (w.alloc (.cells #[.int .u8 (48 + (n : Int))] 5)) :=
    run_convert_bytes_back _ 93 9 5 ⟨w.heap.size, 0, none⟩ 1 [UInt8.ofNat (48 + n)] Tryz.underlying93 Tryz.underlying5 Tryz.underlying9 (fun j hj => by
     have hj0 : j = 0 := by simp at hj; exact hj
     subst hj0
     have := (Blk.new w #[.int .u8 (48 + (n : Int))] 5).cell 0
     rw [hw2] at this
     rw [hw2]
     exact this)
   clear hw2
   go_enter Tryz.func43, Tryz.ntmps43
   go_wp2_with fail
   go_ret
   exact ⟨ret_strL (by rw [HD.out]; simp [UInt8.ofNat_add]), (Below.refl _ _).alloc (Nat.le_refl _) _⟩
  ·have IH := hide ih
   have HD := hide (dec_great h)
   clear ih
   have h' : ¬ (n : Int) < 10 := by omega
   have e1 : (n : Int) / 10 = ((n / 10 : Nat) : Int) := by omega
   have e2 : (n : Int) % 10 = ((n % 10 : Nat) : Int) := by omega
   have E1 := hide e1
   have E2 := hide e2
   clear e1 e2
   generalize Lib.decDigits n = D at HD ⊢
   go_enter Tryz.func43, Tryz.ntmps43
   go_wp2_with fail
   rw [E1.out]
   refine (IH.out (n / 10) (by omega) (by omega) _).mono ?_
   rintro e w1 ⟨rfl, hb1⟩
   go_wp2_with fail
   rw [E2.out]
   refine (IH.out (n % 10) (by omega) (by omega) _).mono ?_
   rintro e w2 ⟨rfl, hb2⟩
   have HB2 : Hid (Below w.heap.size w w2) := hb1.trans (hb2.mono hb1.size)
   clear hb1 hb2
   have l1 : (Lib.decDigits (n / 10)).length ≤ 1000001 := by have := dec_len (n / 10); omega
   have l2 : (Lib.decDigits (n % 10)).length ≤ 1000001 := by have := dec_len (n % 10); omega
   go_wp2_with fail
   go_ret
   exact ⟨ret_strL (by rw [HD.out]; simp), HB2.out⟩
theorem Tryz.infoByte : (Tryz.prog.info? 5).map (fun i => (i.zero, i.size, i.bytes)) = some (some (.int .u8 0), 1, 1) := by kernel_rfl
theorem Tryz.sizeBuilder : (Tryz.prog.info? 96).map (·.size) = some 2 := by kernel_rfl
theorem Tryz.liesBuilder : liesAt Tryz.prog Tryz.prog.depth 96 (2 / Tryz.prog.cellsOf 96) 0 96 1 = true := by kernel_rfl
def Bld (w : World) (B b : Nat) (bs : List Value) (v : Value) : Prop :=
 B ≤ b ∧ (∃ p, (p = .pointer none ∨ p = .pointer (some ⟨b, 0, none⟩)) ∧ w.heap[b]? = some (.cells #[p, v] 96 (0, 0))) ∧ w.ownsRow B 5 1 v bs.length bs
def BFr (w w' : World) (b : Nat) (v v' : Value) : Prop :=
 w'.os = w.os ∧ w'.tape = w.tape ∧ w'.output = w.output ∧ w.heap.size ≤ w'.heap.size ∧ (∀ k, k < w.heap.size → k ≠ b → some k ≠ v.ownBlock → w'.heap[k]? = w.heap[k]?) ∧ (∀ k, v'.ownBlock = some k → v.ownBlock = some k ∨ w.heap.size ≤ k)
theorem BFr.refl (w : World) (b : Nat) (v : Value) : BFr w w b v v := ⟨rfl, rfl, rfl, Nat.le_refl _, fun _ _ _ _ => rfl, fun _ h => Or.inl h⟩
theorem BFr.trans {w w1 w2 : World} {b : Nat} {v v1 v2 : Value} (h : BFr w w1 b v v1) (h1 : BFr w1 w2 b v1 v2) : BFr w w2 b v v2 := by
 obtain ⟨a1, a2, a3, a4, a5, a6⟩ := h
 obtain ⟨c1, c2, c3, c4, c5, c6⟩ := h1
 refine ⟨c1.trans a1, c2.trans a2, c3.trans a3, Nat.le_trans a4 c4, fun k hk hb hv => ?_, fun k hk => ?_⟩
 ·refine (c5 k (Nat.lt_of_lt_of_le hk a4) hb (fun e => ?_)).trans (a5 k hk hb hv)
  rcases a6 k e.symm with h | h
  ·exact hv h.symm
  ·omega
 ·rcases c6 k hk with h | h
  ·exact a6 k h
  ·exact Or.inr (Nat.le_trans a4 h)
theorem BFr.of_below {w w' : World} (hb : Below w.heap.size w w') (b : Nat) (v : Value) : BFr w w' b v v := ⟨hb.os, hb.tape, hb.output, hb.size, fun k hk _ _ => hb.block k hk, fun _ h => Or.inl h⟩
theorem bd_ne {w : World} {B b : Nat} {bs : List Value} {v : Value} (h : Bld w B b bs v) : v.ownBlock ≠ some b := by
 obtain ⟨_, ⟨p, _, hb⟩, hown⟩ := h
 exact Lib.ownBlock_ne hown hb (by decide)
set_option maxHeartbeats 1000000 in
set_option maxRecDepth 100000 in
theorem copyCheck_any (B b : Nat) (bs : List Value) (v : Value) (w : World) (h : Bld w B b bs v) :
  Calls Tryz.prog 85 #[.pointer (some ⟨b, 0, none⟩)] w fun e w' => e = .returned (.tuple #[]) ∧ w'.heap[b]? = some (.cells #[.pointer (some ⟨b, 0, none⟩), v] 96 (0, 0)) ∧ w'.ownsRow B 5 1 v bs.length bs ∧ BFr w w' b v v := by
 obtain ⟨j, hj, hjs⟩ := Option.map_eq_some_iff.1 Tryz.sizeBuilder
 have hne := bd_ne h
 obtain ⟨hB, ⟨p, hp, hbk⟩, hown⟩ := h
 have h0 : w.cell? ⟨b, 0, none⟩ = some p := by rw [Lib.cell_of_heap hbk]; rfl
 have hsh : w.shape? b = some (96, 2) := by simp [World.shape?, hbk]
 have hfz : w.frozen? ⟨b, 0, none⟩ = false := Lib.frozen_of_heap hbk 0
 rcases hp with rfl | rfl
 ·have HF : Hid ((w.setCell ⟨b, 0, none⟩ (.pointer (some ⟨b, 0, none⟩))).heap[b]? = some (.cells #[.pointer (some ⟨b, 0, none⟩), v] 96 (0, 0)) ∧ (w.setCell ⟨b, 0, none⟩ (.pointer (some ⟨b, 0, none⟩))).ownsRow B 5 1 v bs.length bs ∧ BFr w (w.setCell ⟨b, 0, none⟩ (.pointer (some ⟨b, 0, none⟩))) b v v) := by
   refine ⟨by simp [World.setCell, Array.getElem?_modify, hbk], ?_, rfl, rfl, rfl, by simp [World.setCell], fun k hk hkb _ => Below.heap_setCell _ _ _ _ (by simpa using hkb), fun _ h => Or.inl h⟩
   refine hown.kept (w' := w.setCell ⟨b, 0, none⟩ (.pointer (some ⟨b, 0, none⟩))) (row := some b) ⟨rfl, rfl, rfl, by simp [World.setCell], fun k hk hkb => Below.heap_setCell _ _ _ _ (by simp at hkb; simpa using hkb)⟩ (Or.inr hne)
  have HOWN := hide hown
  clear hown
  go_enter Tryz.func85, Tryz.ntmps85
  go_wp2_with fail
  rw [Lib.run_to_unsafe w ⟨b, 0, none⟩ Tryz.underlying94 Tryz.underlying149 hj (by rw [hjs]; decide) hsh (Nat.zero_lt_succ 1)]
  simp only [Result.andThen]
  rw [Oper.upon_value]
  go_wp2_with fail
  rw [run_callFunc_extern Tryz.func98 (by kernel_rfl) (by kernel_rfl) (by kernel_rfl) (e := Extern.AbiNoEscape.same) (by kernel_rfl)]
  rw [Lib.run_noEscape]
  simp only [Result.andThen]
  rw [Oper.upon_value]
  go_wp2_with fail
  rw [Lib.run_from_unsafe w ⟨b, 0, none⟩ Tryz.underlying149 Tryz.underlying94 hj hsh Tryz.liesBuilder]
  simp only [Result.andThen]
  rw [Oper.upon_value]
  go_wp2_with fail
  go_end0
  exact ⟨rfl, HF.out⟩
 ·have HOWN := hide hown
  go_enter Tryz.func85, Tryz.ntmps85
  go_wp2_with fail
  rw [Lib.run_neq_ptr_same w _ Tryz.underlying94 hj]
  go_wp2_with fail
  go_end0
  exact ⟨rfl, hbk, HOWN.out, BFr.refl _ _ _⟩
theorem bd_lt {w : World} {b : Nat} {o : Obj} (h : w.heap[b]? = some o) : b < w.heap.size := by
 apply Classical.byContradiction
 intro hn
 rw [Array.getElem?_eq_none (by omega)] at h; cases h
theorem bd_put {w w2 : World} {B b : Nat} {bs bs' : List Value} {v v' : Value} (hB : B ≤ b) (hBw : B ≤ w.heap.size) (hbk : w.heap[b]? = some (.cells #[.pointer (some ⟨b, 0, none⟩), v] 96 (0, 0))) (hown : w.ownsRow B 5 1 v bs.length bs) (hown' : w2.ownsRow B 5 1 v' bs'.length bs') (hg : w.grownBy w2 v.ownBlock)
  (hat : ∀ k, v'.ownBlock = some k → v.ownBlock = some k ∨ w.heap.size ≤ k) : Bld (w2.setCell ⟨b, 1, none⟩ v') B b bs' v' ∧ BFr w (w2.setCell ⟨b, 1, none⟩ v') b v v' := by
 have hne : v.ownBlock ≠ some b := Lib.ownBlock_ne hown hbk (by decide)
 have hlt := bd_lt hbk
 have hb2 : w2.heap[b]? = some (.cells #[.pointer (some ⟨b, 0, none⟩), v] 96 (0, 0)) := by rw [hg.block b hlt (fun e => hne e.symm)]; exact hbk
 have hne' : v'.ownBlock ≠ some b := Lib.ownBlock_ne hown' hb2 (by decide)
 refine ⟨⟨hB, ⟨_, Or.inr rfl, by simp [World.setCell, Array.getElem?_modify, hb2]⟩, ?_⟩, hg.os, hg.tape, hg.output, by simp [World.setCell]; exact hg.size, fun k hk hkb hv => ?_, hat⟩
 ·exact hown'.kept (w' := w2.setCell ⟨b, 1, none⟩ v') (row := some b) ⟨rfl, rfl, rfl, by simp [World.setCell], fun k hk hkb => Below.heap_setCell _ _ _ _ (by simp at hkb; simpa using hkb)⟩ (Or.inr hne')
 ·rw [Below.heap_setCell _ _ _ _ (by simpa using hkb)]; exact hg.block k hk hv
theorem str_at {w w' : World} {B : Nat} {v v' : Value} {n : Nat} {xs : List Value} {s : ByteArray} {ty : TypeId} (hown : w.ownsRow B 5 1 v n xs) (hsm : n + s.size ≤ 2000000000) (hr : (Builtin.append_ #[93, 9] ty #[v, .string s]).run Tryz.prog w = .ok v' w')
  (hnil : v' = .slice none 0 0 ↔ v = .slice none 0 0 ∧ s.size = 0) : ∀ k, v'.ownBlock = some k → v.ownBlock = some k ∨ w.heap.size ≤ k := by
 obtain ⟨i0, hi, hz0, hz1, hz2⟩ := info_parts Tryz.infoByte
 have hsrc : Src Tryz.prog i0.size 9 (.string s) s.size (byteCells s) w := by rw [hz1]; exact Src.ofString w Tryz.underlying9 s
 have hlx := hown.1
 intro k hk
 rcases hown.2 with ⟨rfl, rfl⟩ | ⟨g, cap, cur, rfl, hBg, hh, hnc, hcm, hcs, htk⟩
 ·by_cases h0 : s.size = 0
  ·have := hnil.2 ⟨rfl, h0⟩
   rw [this] at hk; cases hk
  ·have hg := run_append_grow_src (P := Tryz.prog) w 93 9 ty 5 i0 (.int .u8 0) Tryz.underlying93 hi hz0 none 0 0 [] (by simpa using run_firstCells_none w.drew i0.size 0 0 0) (.string s) s.size (byteCells s) hsrc (by omega) (by omega) (by rw [hz2]; have := growslice_fits (need := 0 + s.size) (old := 0) (bytes := 1) (by omega) (by omega); omega)
   rw [hr] at hg
   simp only [Result.ok.injEq] at hg
   rw [hg.1] at hk
   simp [Value.ownBlock] at hk
   right; omega
 ·by_cases hroom : n + s.size ≤ cap
  ·have hc : ∀ j, j < (byteCells s).length → (w.cell? ⟨g, 0 + n * i0.size + j, none⟩).isSome = true := fun j hj => by
    rw [byteCells_length] at hj
    rw [Lib.cell_of_heap hh, hz1]
    simp; omega
   have hf : ∀ j, j < (byteCells s).length → w.frozen? ⟨g, 0 + n * i0.size + j, none⟩ = false := fun j hj => Lib.frozen_of_heap hh _
   have hg := run_append_room_src (P := Tryz.prog) w 93 9 ty 5 i0 Tryz.underlying93 hi g 0 n cap (.string s) s.size (byteCells s) hsrc hroom hc hf
   rw [hr] at hg
   simp only [Result.ok.injEq] at hg
   rw [hg.1] at hk
   simp [Value.ownBlock] at hk
   left; simp [Value.ownBlock, hk]
  ·have hfc := run_firstCells_some (P := Tryz.prog) w.drew i0.size n ⟨g, 0, none⟩ n cap xs (by rw [hz1]; exact hlx) (fun j u hj => by have := hown.cells (g := g) rfl j u hj; simpa using this)
   have hg := run_append_grow_src (P := Tryz.prog) w 93 9 ty 5 i0 (.int .u8 0) Tryz.underlying93 hi hz0 (some ⟨g, 0, none⟩) n cap xs hfc (.string s) s.size (byteCells s) hsrc (by omega) (by omega) (by rw [hz2]; have := growslice_fits (need := n + s.size) (old := cap) (bytes := 1) (by omega) (by omega); omega)
   rw [hr] at hg
   simp only [Result.ok.injEq] at hg
   rw [hg.1] at hk
   simp [Value.ownBlock] at hk
   right; omega
set_option maxHeartbeats 1000000 in
set_option maxRecDepth 100000 in
theorem writeByte_any (B b : Nat) (bs : List Value) (v : Value) (c : Int) (w : World) (h : Bld w B b bs v) (hlen : bs.length ≤ 1000000000) (hBw : B ≤ w.heap.size) :
  Calls Tryz.prog 70 #[.pointer (some ⟨b, 0, none⟩), .int .u8 c] w fun e w' => e = .returned .nilIface ∧ ∃ v', Bld w' B b (bs ++ [.int .u8 c]) v' ∧ BFr w w' b v v' := by
 obtain ⟨i0, hi, hz0, hz1, hz2⟩ := info_parts Tryz.infoByte
 have hB := h.1
 have H := hide h
 clear h
 go_enter Tryz.func70, Tryz.ntmps70
 go_wp2_with (go_at_call 85; refine (copyCheck_any B b bs v _ H.out).mono ?_)
 rintro e w1 ⟨rfl, hbk, hown, hfr⟩
 have c0 : w1.cell? ⟨b, 0, none⟩ = some (.pointer (some ⟨b, 0, none⟩)) := by rw [Lib.cell_of_heap hbk]; rfl
 have c1 : w1.cell? ⟨b, 1, none⟩ = some v := by rw [Lib.cell_of_heap hbk]; rfl
 have hlt := bd_lt hbk
 have hne : v.ownBlock ≠ some b := Lib.ownBlock_ne hown hbk (by decide)
 have hBw1 : B ≤ w1.heap.size := Nat.le_trans hBw hfr.2.2.2.1
 obtain ⟨g, cap, w2, hr2, hown2, hg2, hat2, _⟩ := run_append_lies (P := Tryz.prog) (w := w1.alloc (.cells #[.int .u8 c] 5)) 93 93 B 5 i0 _ 1 1 Tryz.underlying93 hi hz0 hz1 hz2 rfl (by decide) v bs.length bs (hown.alloc _)
  ⟨w1.heap.size, 0, none⟩ 1 1 [.int .u8 c] rfl (cell_one_new _ _ _) (fun x hx => by simp at hx; subst hx; rfl) (by decide) (by unfold maxLen; omega) (by omega) (by simp; omega) _ rfl
 have hg3 : w1.grownBy w2 v.ownBlock := grown_trans (grown_of_below ((Below.refl _ _).alloc (Nat.le_refl _) _) v.ownBlock) hg2 (fun k hk => Or.inl hk)
 have HPUT := hide (bd_put (bs' := bs ++ [.int .u8 c]) hB hBw1 hbk hown (by simpa using hown2) hg3 (fun k hk => by
  simp [Value.ownBlock] at hk
  subst hk
  rcases hat2 with e | e
  ·exact Or.inl e
  ·right; simp at e; omega))
 have hb2 : w2.heap[b]? = some (.cells #[.pointer (some ⟨b, 0, none⟩), v] 96 (0, 0)) := by rw [hg3.block b hlt (fun e => hne e.symm)]; exact hbk
 have d0 : w2.cell? ⟨b, 0, none⟩ = some (.pointer (some ⟨b, 0, none⟩)) := by rw [Lib.cell_of_heap hb2]; rfl
 have d1 : w2.cell? ⟨b, 1, none⟩ = some v := by rw [Lib.cell_of_heap hb2]; rfl
 have f1 : w2.frozen? ⟨b, 1, none⟩ = false := Lib.frozen_of_heap hb2 1
 have HR := hide hr2
 have HFR := hide hfr
 clear hr2 hown hown2 hg2 hg3 hat2 hbk hfr hb2
 go_wp2_with (at_builtin; refine wpList_append_eq rfl _ _ _ _ rfl rfl rfl HR.out ?_)
 go_ret
 exact ⟨rfl, _, HPUT.out.1, HFR.out.trans HPUT.out.2⟩
set_option maxHeartbeats 1000000 in
set_option maxRecDepth 100000 in
theorem writeString_any (B b : Nat) (bs : List Value) (v : Value) (s : ByteArray) (w : World) (h : Bld w B b bs v) (hlen : bs.length + s.size ≤ 1000000000) (hBw : B ≤ w.heap.size) :
  Calls Tryz.prog 71 #[.pointer (some ⟨b, 0, none⟩), .string s] w fun e w' => e = .returned (.tuple #[.int .i64 s.size, .nilIface]) ∧ ∃ v', Bld w' B b (bs ++ Lib.strCells s) v' ∧ BFr w w' b v v' := by
 obtain ⟨i0, hi, hz0, hz1, hz2⟩ := info_parts Tryz.infoByte
 have hB := h.1
 have H := hide h
 clear h
 go_enter Tryz.func71, Tryz.ntmps71
 go_wp2_with (go_at_call 85; refine (copyCheck_any B b bs v _ H.out).mono ?_)
 rintro e w1 ⟨rfl, hbk, hown, hfr⟩
 have c0 : w1.cell? ⟨b, 0, none⟩ = some (.pointer (some ⟨b, 0, none⟩)) := by rw [Lib.cell_of_heap hbk]; rfl
 have c1 : w1.cell? ⟨b, 1, none⟩ = some v := by rw [Lib.cell_of_heap hbk]; rfl
 have hlt := bd_lt hbk
 have hne : v.ownBlock ≠ some b := Lib.ownBlock_ne hown hbk (by decide)
 have hBw1 : B ≤ w1.heap.size := Nat.le_trans hBw hfr.2.2.2.1
 obtain ⟨v2, w2, hr2, hown2, hg2, hnil2⟩ := Lib.run_append_own_string (P := Tryz.prog) w1 B 93 9 93 5 i0 Tryz.underlying93 Tryz.underlying9 hi hz0 hz1 hz2 v bs.length bs hown s (by unfold maxLen; omega) (by omega) hBw1
 have hat := str_at hown (by omega) hr2 hnil2
 have HPUT := hide (bd_put (bs' := bs ++ Lib.strCells s) hB hBw1 hbk hown (by simpa [Lib.strCells_length] using hown2) hg2 hat)
 have hb2 : w2.heap[b]? = some (.cells #[.pointer (some ⟨b, 0, none⟩), v] 96 (0, 0)) := by rw [hg2.block b hlt (fun e => hne e.symm)]; exact hbk
 have d0 : w2.cell? ⟨b, 0, none⟩ = some (.pointer (some ⟨b, 0, none⟩)) := by rw [Lib.cell_of_heap hb2]; rfl
 have d1 : w2.cell? ⟨b, 1, none⟩ = some v := by rw [Lib.cell_of_heap hb2]; rfl
 have f1 : w2.frozen? ⟨b, 1, none⟩ = false := Lib.frozen_of_heap hb2 1
 obtain ⟨ao, n', cap, rfl⟩ : ∃ ao n' cap, v2 = .slice ao n' cap := by
  rcases hown2.2 with ⟨hv, _⟩ | ⟨g, cap, cur, hv, _⟩
  ·exact ⟨_, _, _, hv⟩
  ·exact ⟨_, _, _, hv⟩
 have HR := hide hr2
 have HFR := hide hfr
 clear hr2 hown hown2 hg2 hat hnil2 hbk hfr hb2
 go_wp2_with (at_builtin; refine wpList_append_eq rfl _ _ _ _ rfl rfl rfl HR.out ?_)
 go_ret2
 exact ⟨rfl, _, HPUT.out.1, HFR.out.trans HPUT.out.2⟩
def RowTM (w : World) (X : Nat → Prop) : List Lm → List Value → Prop
 | [], xs => xs = []
 | t :: l, xs => ∃ a c r, xs = .int .i64 t.kind :: .int .i64 t.idx :: .slice a t.subs.length c :: r ∧ SlM w X a t.subs ∧ RowTM w X l r
theorem RowTM.len {w : World} {X : Nat → Prop} : ∀ {l : List Lm} {xs : List Value}, RowTM w X l xs → xs.length = l.length * 3
 | [], xs, h => by simp [RowTM] at h; simp [h]
 | t :: l, xs, h => by
  obtain ⟨a, c, r, rfl, _, h⟩ := h
  simp only [List.length_cons]
  rw [RowTM.len h]; omega
theorem RowTM.append {w : World} {X : Nat → Prop} : ∀ {l k : List Lm} {xs ys : List Value}, RowTM w X l xs → RowTM w X k ys → RowTM w X (l ++ k) (xs ++ ys)
 | [], k, xs, ys, h, h' => by simp [RowTM] at h; subst h; simpa using h'
 | t :: l, k, xs, ys, h, h' => by
  obtain ⟨a, c, r, rfl, hs, h⟩ := h
  exact ⟨a, c, r ++ ys, rfl, hs, RowTM.append h h'⟩
theorem RowTM.imp {w w' : World} {X Y : Nat → Prop} (hs : ∀ a l, SlM w X a l → SlM w' Y a l) : ∀ {l : List Lm} {xs : List Value}, RowTM w X l xs → RowTM w' Y l xs
 | [], xs, h => h
 | t :: l, xs, h => by
  obtain ⟨a, c, r, e, h1, h⟩ := h
  exact ⟨a, c, r, e, hs _ _ h1, RowTM.imp hs h⟩
theorem liesM_of_row {w w' : World} {X Y : Nat → Prop} (b : Nat) (hb : Y b) : ∀ (l : List Lm) (xs : List Value) (o : Nat), RowTM w X l xs → (∀ a k, SlM w X a k → SlM w' Y a k) → (∀ j u, xs[j]? = some u → w'.cell? ⟨b, o + j, none⟩ = some u) → LiesM w' Y b o l := by
 intro l
 induction l with
 | nil => intro xs o _ _ _; simp [LiesM]
 | cons t r ih =>
  intro xs o h hs hc
  obtain ⟨s, x, k⟩ := t
  obtain ⟨a, c, r', rfl, h1, h2⟩ := h
  simp only [LiesM]
  obtain ⟨h3, h4⟩ := hs _ _ h1
  refine ⟨hb, hc 0 _ rfl, hc 1 _ rfl, ⟨a, c, hc 2 _ rfl, h3, h4⟩, ih r' (o + 3) h2 hs fun j u hj => ?_⟩
  have := hc (j + 3) u (by simpa using hj)
  rwa [show o + (j + 3) = o + 3 + j by omega] at this
structure RowM (w : World) (N : Nat) (T : Nat) (Y : Nat → Prop) (v : Value) (l : List Lm) (xs : List Value) : Prop where
 own : w.ownsRow N T 3 v l.length xs
 row : RowTM w (fun b => Y b ∨ (N ≤ b ∧ some b ≠ v.ownBlock)) l xs
theorem RowM.start (w : World) (N T : Nat) (Y : Nat → Prop) : RowM w N T Y (.slice none 0 0) [] [] := ⟨World.ownsRow_nil w N T 3, rfl⟩
theorem RowM.below {w w' : World} {N T : Nat} {Y : Nat → Prop} {v : Value} {l : List Lm} {xs : List Value} (h : RowM w N T Y v l xs) (hb : Below w.heap.size w w') : RowM w' N T Y v l xs :=
 ⟨h.own.kept (w' := w') (row := none) ⟨hb.os, hb.tape, hb.output, hb.size, fun j hj _ => hb.block j hj⟩ (by rcases Option.eq_none_or_eq_some (Value.ownBlock v) with h | ⟨x, h⟩; exact Or.inl h; exact Or.inr (by rw [h]; simp)),
  h.row.imp fun a l h => h.later hb⟩
theorem RowM.ne {w : World} {N T : Nat} {Y : Nat → Prop} {v : Value} {l : List Lm} {xs : List Value} (h : RowM w N T Y v l xs) {b : Nat} (hb : b < N) : some b ≠ v.ownBlock := fun e => by
 have := (h.own.lt b e.symm).1; omega
theorem RowM.push {w w1 w2 w3 : World} {N T : Nat} {Y : Nat → Prop} {v : Value} {l : List Lm} {xs : List Value} (h : RowM w N T Y v l xs) (hN : N ≤ w.heap.size) (hY : ∀ b, Y b → b < N) (hb : Below w.heap.size w w1) {s s2 : Int} {a : Option Addr} {n c : Nat} {t : Lm}
  (ht : MV w1 (fun b => Y b ∨ w.heap.size ≤ b) (.agg #[.int .i64 s, .int .i64 s2, .slice a n c]) t) (o : Obj) (hw2 : w2 = w1.alloc o) {g cap : Nat}
  (hown : w3.ownsRow N T 3 (.slice (some ⟨g, 0, none⟩) (l.length + 1) cap) (l.length + 1) (xs ++ [.int .i64 s, .int .i64 s2, .slice a n c])) (hg : w2.grownBy w3 v.ownBlock) (hg1 : v.ownBlock = some g ∨ g = w2.heap.size) :
  RowM w3 N T Y (.slice (some ⟨g, 0, none⟩) (l.length + 1) cap) (l ++ [t]) (xs ++ [.int .i64 s, .int .i64 s2, .slice a n c]) := by
 subst hw2
 have hlt := h.own.lt
 refine ⟨by simpa using hown, ?_⟩
 have hsz : w1.heap.size ≤ (w1.alloc o).heap.size := by simp
 have hbs := hb.size
 have hgN : N ≤ g := by
  rcases hg1 with e | e
  ·exact (hlt g e).1
  ·simp at e; omega
 refine RowTM.append (h.row.imp fun a' k' hs => ?_) ?_
 ·have h1 : SlM w (fun b => (Y b ∨ (N ≤ b ∧ some b ≠ v.ownBlock)) ∧ b < w.heap.size) a' k' := hs.mono fun b h1 h2 => ⟨h1, h2⟩
  have h2 : SlM w3 (fun b => (Y b ∨ (N ≤ b ∧ some b ≠ v.ownBlock)) ∧ b < w.heap.size) a' k' := h1.kept fun b hx => by
   have hne : some b ≠ v.ownBlock := by
    rcases hx.1 with hy | hy
    ·exact h.ne (hY b hy)
    ·exact hy.2
   rw [hg.block b (by simp; omega) hne, Below.heap_alloc _ _ _ (by omega), hb.block b hx.2]
  refine h2.mono fun b hx _ => ?_
  rcases hx.1 with hy | hy
  ·exact Or.inl hy
  ·refine Or.inr ⟨hy.1, fun e => ?_⟩
   simp [Value.ownBlock] at e
   rcases hg1 with e' | e'
   ·exact hy.2 (by rw [e', e])
   ·simp at e'; omega
 ·obtain ⟨a2, c2, e, hs⟩ := ht
  simp at e
  obtain ⟨rfl, rfl, rfl, rfl, rfl⟩ := e
  refine ⟨a, c, [], rfl, ?_, rfl⟩
  have h1 : SlM w1 (fun b => (Y b ∨ w.heap.size ≤ b) ∧ b < w1.heap.size) a t.subs := hs.mono fun b h1 h2 => ⟨h1, h2⟩
  have h2 : SlM w3 (fun b => (Y b ∨ w.heap.size ≤ b) ∧ b < w1.heap.size) a t.subs := h1.kept fun b hx => by
   have hne : some b ≠ v.ownBlock := by
    rcases hx.1 with hy | hy
    ·exact h.ne (hY b hy)
    ·intro e; have := (hlt b e.symm).2; omega
   rw [hg.block b (by simp; omega) hne, Below.heap_alloc _ _ _ hx.2]
  refine h2.mono fun b hx _ => ?_
  rcases hx.1 with hy | hy
  ·exact Or.inl hy
  ·refine Or.inr ⟨by omega, fun e => ?_⟩
   simp [Value.ownBlock] at e
   rcases hg1 with e' | e'
   ·have := (hlt g e').2; omega
   ·simp at e'; omega
theorem RowM.setCell {w : World} {N T : Nat} {Y : Nat → Prop} {v : Value} {l : List Lm} {xs : List Value} (h : RowM w N T Y v l xs) {b i : Nat} (hb : b < N) (hY : ¬ Y b) (u : Value) : RowM (w.setCell ⟨b, i, none⟩ u) N T Y v l xs :=
 ⟨ownsRow_setCell_below h.own (by simpa using hb) u, h.row.imp fun a k hs => hs.kept fun c hc => Below.heap_setCell _ _ _ _ (by
  simp
  rcases hc with hc | hc
  ·intro e; subst e; exact hY hc
  ·omega)⟩
theorem RowM.sl {w : World} {N T : Nat} {Y : Nat → Prop} {v : Value} {l : List Lm} {xs : List Value} (h : RowM w N T Y v l xs) : ∃ a c, v = .slice a l.length c ∧ SlM w (fun b => Y b ∨ N ≤ b) a l := by
 have hml : l.length ≤ 9223372036854775807 := by
  rcases h.own.2 with ⟨_, h0⟩ | ⟨g, cap, cur, _, _, _, h1, h2, _⟩
  ·omega
  ·unfold maxLen at h2; omega
 by_cases h0 : 0 < l.length
 ·obtain ⟨g, cap, rfl, hg, hlt, hc⟩ := owned_val h.own h0
  exact ⟨_, _, rfl, hml, Or.inr ⟨g, 0, rfl, liesM_of_row g (Or.inr hg) l xs 0 h.row (fun a k hs => hs.mono fun b hb _ => hb.imp id (fun h => h.1)) (fun j u hj => by simpa using hc j u hj)⟩⟩
 ·have e : l = [] := List.length_eq_zero_iff.1 (by omega)
  subst e
  rcases h.own.2 with ⟨hv, _⟩ | ⟨g, cap, cur, hv, _⟩
  ·exact ⟨none, 0, hv, hml, Or.inl rfl⟩
  ·exact ⟨_, _, hv, hml, Or.inl rfl⟩
set_option maxHeartbeats 2000000 in
theorem lamMay0_any (m : Int) (t : Lm) : ∀ (v : Value) (u : Int) (w : World) (X : Nat → Prop), MV w X v t → 0 ≤ u → u + sizeM [t] ≤ 1000000 →
  Calls Tryz.prog 48 #[v, .int .i64 u, .int .i64 m] w fun e w' => e = .returned (.int .i64 (errM u m [t])) ∧ Below w.heap.size w w' := by
 induction t using Lm.ind with
 | h kd ix l ih =>
  intro v u w X hv hu0 hu1
  obtain ⟨a, c, rfl, hs⟩ := hv
  have IH := hide ih
  clear ih
  have hl9 := hs.1
  have hz : sizeM [(⟨kd, ix, l⟩ : Lm)] = 1 + sizeM l := by simp [sizeM]
  rw [hz] at hu1
  clear hz
  have HB0 : Hid (Below w.heap.size w (w.alloc (.cells #[.int .i64 kd, .int .i64 ix, .slice a l.length c] 25))) := (Below.refl _ _).alloc (Nat.le_refl _) _
  have HT0 := hide (Blk.new w #[.int .i64 kd, .int .i64 ix, .slice a l.length c] 25)
  by_cases k1 : kd = 1
  case pos =>
   subst k1
   by_cases hl : l.length = 0
   case neg =>
    have HK : Hid (knE u m 1 ix l.length = 2) := by unfold Hid knE mostK subsK; simp [hl]
    have HE : Hid (errM u m [(⟨1, ix, l⟩ : Lm)] = 2) := by unfold Hid; rw [errM_bad (by rw [HK.out]; decide), HK.out]
    have hl2 : ¬ (l.length : Int) = 0 := by omega
    have hl3 : ((l.length : Int) != 0) = true := by simpa using hl2
    go_enter Tryz.func48, Tryz.ntmps48
    go_wp2_with fail
    go_ret
    exact ⟨ret_int HE.out.symm, HB0.out⟩
   case pos =>
    have HL := hide hl
    have hl3 : ((l.length : Int) != 0) = false := by simp [hl]
    clear hl
    by_cases hi : ix < 0
    case pos =>
     have HK : Hid (knE u m 1 ix l.length = 15) := by unfold Hid knE mostK subsK; simp [HL.out, hi]
     have HE : Hid (errM u m [(⟨1, ix, l⟩ : Lm)] = 15) := by unfold Hid; rw [errM_bad (by rw [HK.out]; decide), HK.out]
     go_enter Tryz.func48, Tryz.ntmps48
     go_wp2_with fail
     go_ret
     exact ⟨ret_int HE.out.symm, HB0.out⟩
    case neg =>
     by_cases hj : (u : Int) ≤ ix
     case pos =>
      have HK : Hid (knE u m 1 ix l.length = 15) := by unfold Hid knE mostK subsK; simp [HL.out, hi, hj]
      have HE : Hid (errM u m [(⟨1, ix, l⟩ : Lm)] = 15) := by unfold Hid; rw [errM_bad (by rw [HK.out]; decide), HK.out]
      go_enter Tryz.func48, Tryz.ntmps48
      go_wp2_with fail
      go_ret
      exact ⟨ret_int HE.out.symm, HB0.out⟩
     case neg =>
      have HK : Hid (knE u m 1 ix l.length = 0) := by unfold Hid knE mostK subsK; simp [HL.out, hi, hj]
      have HE := hide (errM_good HK.out)
      have HD : Hid (deepK u 1 = u) := by unfold Hid deepK; first | rfl | simp
      go_enter Tryz.func48, Tryz.ntmps48
      go_wp2_with fail
      go_loopw [10] (fun o wr => KnInv2 (u) m l w o wr ∧ Blk wr w.heap.size #[.int .i64 1, .int .i64 ix, .slice a l.length c] 25) (fun o wr => l.length - (intOf o).toNat)
      case atStart => exact ⟨⟨0, Nat.zero_le _, rfl, by simp [errM], HB0.out⟩, HT0.out⟩
      case round =>
       obtain ⟨⟨k, hk, rfl, he, hb⟩, hT⟩ := hrel
       have HEK := hide he
       have HBK := hide hb
       have HTK := hide hT
       clear he
       have hsz : w.heap.size ≤ wr.heap.size := hb.size
       have t0 := hT.c0
       have t1 := hT.c1
       have t2 := hT.c2
       by_cases hlt : k < l.length
       ·exact absurd hlt (by have := HL.out; omega)
       ·have htk : l.take k = l := List.take_of_length_le (by omega)
        have hge : ¬ ((k : Int) < 0) := by have := HL.out; omega
        have HZ : Hid (0 = errM u m [(⟨1, ix, l⟩ : Lm)]) := by unfold Hid; rw [HE.out, HD.out, ← htk, HEK.out]
        go_wp2_with fail
        go_ret
        exact ⟨ret_int HZ.out, HBK.out⟩
  case neg =>
   by_cases k2 : kd = 2
   case pos =>
    subst k2
    by_cases hl : l.length = 1
    case neg =>
     have HK : Hid (knE u m 2 ix l.length = 2) := by unfold Hid knE mostK subsK; simp [hl]
     have HE : Hid (errM u m [(⟨2, ix, l⟩ : Lm)] = 2) := by unfold Hid; rw [errM_bad (by rw [HK.out]; decide), HK.out]
     have hl2 : ¬ (l.length : Int) = 1 := by omega
     have hl3 : ((l.length : Int) != 1) = true := by simpa using hl2
     go_enter Tryz.func48, Tryz.ntmps48
     go_wp2_with fail
     go_ret
     exact ⟨ret_int HE.out.symm, HB0.out⟩
    case pos =>
     have HL := hide hl
     have hl3 : ((l.length : Int) != 1) = false := by simp [hl]
     clear hl
     by_cases hi : ix < 0
     case pos =>
      have HK : Hid (knE u m 2 ix l.length = 15) := by unfold Hid knE mostK subsK; simp [HL.out, hi]
      have HE : Hid (errM u m [(⟨2, ix, l⟩ : Lm)] = 15) := by unfold Hid; rw [errM_bad (by rw [HK.out]; decide), HK.out]
      go_enter Tryz.func48, Tryz.ntmps48
      go_wp2_with fail
      go_ret
      exact ⟨ret_int HE.out.symm, HB0.out⟩
     case neg =>
      by_cases hj : (1 : Int) ≤ ix
      case pos =>
       have HK : Hid (knE u m 2 ix l.length = 15) := by unfold Hid knE mostK subsK; simp [HL.out, hi, hj]
       have HE : Hid (errM u m [(⟨2, ix, l⟩ : Lm)] = 15) := by unfold Hid; rw [errM_bad (by rw [HK.out]; decide), HK.out]
       go_enter Tryz.func48, Tryz.ntmps48
       go_wp2_with fail
       go_ret
       exact ⟨ret_int HE.out.symm, HB0.out⟩
      case neg =>
       have HK : Hid (knE u m 2 ix l.length = 0) := by unfold Hid knE mostK subsK; simp [HL.out, hi, hj]
       have HE := hide (errM_good HK.out)
       have HD : Hid (deepK u 2 = u + 1) := by unfold Hid deepK; first | rfl | simp
       go_enter Tryz.func48, Tryz.ntmps48
       go_wp2_with fail
       go_loopw [10] (fun o wr => KnInv2 (u + 1) m l w o wr ∧ Blk wr w.heap.size #[.int .i64 2, .int .i64 ix, .slice a l.length c] 25) (fun o wr => l.length - (intOf o).toNat)
       case atStart => exact ⟨⟨0, Nat.zero_le _, rfl, by simp [errM], HB0.out⟩, HT0.out⟩
       case round =>
        obtain ⟨⟨k, hk, rfl, he, hb⟩, hT⟩ := hrel
        have HEK := hide he
        have HBK := hide hb
        have HTK := hide hT
        clear he
        have hsz : w.heap.size ≤ wr.heap.size := hb.size
        have t0 := hT.c0
        have t1 := hT.c1
        have t2 := hT.c2
        by_cases hlt : k < l.length
        ·obtain ⟨b, o, a', c', rfl, d0, d0', d1, hx⟩ := hs.get hb (fun _ _ h => h) k hlt
         have HT := hide (errM_take (u + 1) m l k hlt)
         have hlt2 : (k : Int) < 1 := by have := HL.out; omega
         have hzk : 1 + sizeM [l[k]] ≤ 1 + sizeM l := by
          have h1 := sizeM_take l k hlt
          have h2 := sizeM_take_le l (k + 1)
          omega
         clear hb hT
         go_wp2_with fail
         refine (IH.out _ (List.getElem_mem hlt) _ _ _ X hx (by omega) (by omega)).mono ?_
         rintro e w2 ⟨rfl, hb2⟩
         have HB2 : Hid (Below w.heap.size w w2) := HBK.out.trans (hb2.mono hsz)
         have HT2 := hide (HTK.out.below hb2 HTK.out.lt)
         clear hb2
         by_cases hez : errM (u + 1) m [l[k]] = 0
         ·have HZ := hide hez
          rw [hez]
          clear hez
          go_wp2_with fail
          go_roundw
          case rel => exact ⟨⟨k + 1, by omega, by go_num, by rw [HT.out, HEK.out, HZ.out]; rfl, HB2.out⟩, HT2.out⟩
          case measure => simp [intOf]; omega
         ·have h1 : (errM (u + 1) m [l[k]] == 0) = false := by simpa using hez
          have h2 : (errM (u + 1) m [l[k]] != 0) = true := by simpa using hez
          have HZ : Hid (errM (u + 1) m [l[k]] = errM u m [(⟨2, ix, l⟩ : Lm)]) := by
           have h1 : errM (u + 1) m (l.take (k + 1)) = errM (u + 1) m [l[k]] := by rw [HT.out, HEK.out]; rfl
           unfold Hid
           rw [HE.out, HD.out, errM_of_take (l := l) (k := k + 1) (by rw [h1]; exact hez), h1]
          go_wp2_with fail
          go_ret
          exact ⟨ret_int HZ.out, HB2.out⟩
        ·have htk : l.take k = l := List.take_of_length_le (by omega)
         have hge : ¬ ((k : Int) < 1) := by have := HL.out; omega
         have HZ : Hid (0 = errM u m [(⟨2, ix, l⟩ : Lm)]) := by unfold Hid; rw [HE.out, HD.out, ← htk, HEK.out]
         go_wp2_with fail
         go_ret
         exact ⟨ret_int HZ.out, HBK.out⟩
   case neg =>
    by_cases k3 : kd = 3
    case pos =>
     subst k3
     by_cases hl : l.length = 2
     case neg =>
      have HK : Hid (knE u m 3 ix l.length = 2) := by unfold Hid knE mostK subsK; simp [hl]
      have HE : Hid (errM u m [(⟨3, ix, l⟩ : Lm)] = 2) := by unfold Hid; rw [errM_bad (by rw [HK.out]; decide), HK.out]
      have hl2 : ¬ (l.length : Int) = 2 := by omega
      have hl3 : ((l.length : Int) != 2) = true := by simpa using hl2
      go_enter Tryz.func48, Tryz.ntmps48
      go_wp2_with fail
      go_ret
      exact ⟨ret_int HE.out.symm, HB0.out⟩
     case pos =>
      have HL := hide hl
      have hl3 : ((l.length : Int) != 2) = false := by simp [hl]
      clear hl
      by_cases hi : ix < 0
      case pos =>
       have HK : Hid (knE u m 3 ix l.length = 15) := by unfold Hid knE mostK subsK; simp [HL.out, hi]
       have HE : Hid (errM u m [(⟨3, ix, l⟩ : Lm)] = 15) := by unfold Hid; rw [errM_bad (by rw [HK.out]; decide), HK.out]
       go_enter Tryz.func48, Tryz.ntmps48
       go_wp2_with fail
       go_ret
       exact ⟨ret_int HE.out.symm, HB0.out⟩
      case neg =>
       by_cases hj : (1 : Int) ≤ ix
       case pos =>
        have HK : Hid (knE u m 3 ix l.length = 15) := by unfold Hid knE mostK subsK; simp [HL.out, hi, hj]
        have HE : Hid (errM u m [(⟨3, ix, l⟩ : Lm)] = 15) := by unfold Hid; rw [errM_bad (by rw [HK.out]; decide), HK.out]
        go_enter Tryz.func48, Tryz.ntmps48
        go_wp2_with fail
        go_ret
        exact ⟨ret_int HE.out.symm, HB0.out⟩
       case neg =>
        have HK : Hid (knE u m 3 ix l.length = 0) := by unfold Hid knE mostK subsK; simp [HL.out, hi, hj]
        have HE := hide (errM_good HK.out)
        have HD : Hid (deepK u 3 = u) := by unfold Hid deepK; first | rfl | simp
        go_enter Tryz.func48, Tryz.ntmps48
        go_wp2_with fail
        go_loopw [10] (fun o wr => KnInv2 (u) m l w o wr ∧ Blk wr w.heap.size #[.int .i64 3, .int .i64 ix, .slice a l.length c] 25) (fun o wr => l.length - (intOf o).toNat)
        case atStart => exact ⟨⟨0, Nat.zero_le _, rfl, by simp [errM], HB0.out⟩, HT0.out⟩
        case round =>
         obtain ⟨⟨k, hk, rfl, he, hb⟩, hT⟩ := hrel
         have HEK := hide he
         have HBK := hide hb
         have HTK := hide hT
         clear he
         have hsz : w.heap.size ≤ wr.heap.size := hb.size
         have t0 := hT.c0
         have t1 := hT.c1
         have t2 := hT.c2
         by_cases hlt : k < l.length
         ·obtain ⟨b, o, a', c', rfl, d0, d0', d1, hx⟩ := hs.get hb (fun _ _ h => h) k hlt
          have HT := hide (errM_take (u) m l k hlt)
          have hlt2 : (k : Int) < 2 := by have := HL.out; omega
          have hzk : 1 + sizeM [l[k]] ≤ 1 + sizeM l := by
           have h1 := sizeM_take l k hlt
           have h2 := sizeM_take_le l (k + 1)
           omega
          clear hb hT
          go_wp2_with fail
          refine (IH.out _ (List.getElem_mem hlt) _ _ _ X hx (by omega) (by omega)).mono ?_
          rintro e w2 ⟨rfl, hb2⟩
          have HB2 : Hid (Below w.heap.size w w2) := HBK.out.trans (hb2.mono hsz)
          have HT2 := hide (HTK.out.below hb2 HTK.out.lt)
          clear hb2
          by_cases hez : errM (u) m [l[k]] = 0
          ·have HZ := hide hez
           rw [hez]
           clear hez
           go_wp2_with fail
           go_roundw
           case rel => exact ⟨⟨k + 1, by omega, by go_num, by rw [HT.out, HEK.out, HZ.out]; rfl, HB2.out⟩, HT2.out⟩
           case measure => simp [intOf]; omega
          ·have h1 : (errM (u) m [l[k]] == 0) = false := by simpa using hez
           have h2 : (errM (u) m [l[k]] != 0) = true := by simpa using hez
           have HZ : Hid (errM (u) m [l[k]] = errM u m [(⟨3, ix, l⟩ : Lm)]) := by
            have h1 : errM (u) m (l.take (k + 1)) = errM (u) m [l[k]] := by rw [HT.out, HEK.out]; rfl
            unfold Hid
            rw [HE.out, HD.out, errM_of_take (l := l) (k := k + 1) (by rw [h1]; exact hez), h1]
           go_wp2_with fail
           go_ret
           exact ⟨ret_int HZ.out, HB2.out⟩
         ·have htk : l.take k = l := List.take_of_length_le (by omega)
          have hge : ¬ ((k : Int) < 2) := by have := HL.out; omega
          have HZ : Hid (0 = errM u m [(⟨3, ix, l⟩ : Lm)]) := by unfold Hid; rw [HE.out, HD.out, ← htk, HEK.out]
          go_wp2_with fail
          go_ret
          exact ⟨ret_int HZ.out, HBK.out⟩
    case neg =>
     by_cases k4 : kd = 4
     case pos =>
      subst k4
      by_cases hl : l.length = 0
      case neg =>
       have HK : Hid (knE u m 4 ix l.length = 2) := by unfold Hid knE mostK subsK; simp [hl]
       have HE : Hid (errM u m [(⟨4, ix, l⟩ : Lm)] = 2) := by unfold Hid; rw [errM_bad (by rw [HK.out]; decide), HK.out]
       have hl2 : ¬ (l.length : Int) = 0 := by omega
       have hl3 : ((l.length : Int) != 0) = true := by simpa using hl2
       go_enter Tryz.func48, Tryz.ntmps48
       go_wp2_with fail
       go_ret
       exact ⟨ret_int HE.out.symm, HB0.out⟩
      case pos =>
       have HL := hide hl
       have hl3 : ((l.length : Int) != 0) = false := by simp [hl]
       clear hl
       by_cases hi : ix < 0
       case pos =>
        have HK : Hid (knE u m 4 ix l.length = 15) := by unfold Hid knE mostK subsK; simp [HL.out, hi]
        have HE : Hid (errM u m [(⟨4, ix, l⟩ : Lm)] = 15) := by unfold Hid; rw [errM_bad (by rw [HK.out]; decide), HK.out]
        go_enter Tryz.func48, Tryz.ntmps48
        go_wp2_with fail
        go_ret
        exact ⟨ret_int HE.out.symm, HB0.out⟩
       case neg =>
        by_cases hj : (40 : Int) ≤ ix
        case pos =>
         have HK : Hid (knE u m 4 ix l.length = 15) := by unfold Hid knE mostK subsK; simp [HL.out, hi, hj]
         have HE : Hid (errM u m [(⟨4, ix, l⟩ : Lm)] = 15) := by unfold Hid; rw [errM_bad (by rw [HK.out]; decide), HK.out]
         go_enter Tryz.func48, Tryz.ntmps48
         go_wp2_with fail
         go_ret
         exact ⟨ret_int HE.out.symm, HB0.out⟩
        case neg =>
         have HK : Hid (knE u m 4 ix l.length = 0) := by unfold Hid knE mostK subsK; simp [HL.out, hi, hj]
         have HE := hide (errM_good HK.out)
         have HD : Hid (deepK u 4 = u) := by unfold Hid deepK; first | rfl | simp
         go_enter Tryz.func48, Tryz.ntmps48
         go_wp2_with fail
         go_loopw [10] (fun o wr => KnInv2 (u) m l w o wr ∧ Blk wr w.heap.size #[.int .i64 4, .int .i64 ix, .slice a l.length c] 25) (fun o wr => l.length - (intOf o).toNat)
         case atStart => exact ⟨⟨0, Nat.zero_le _, rfl, by simp [errM], HB0.out⟩, HT0.out⟩
         case round =>
          obtain ⟨⟨k, hk, rfl, he, hb⟩, hT⟩ := hrel
          have HEK := hide he
          have HBK := hide hb
          have HTK := hide hT
          clear he
          have hsz : w.heap.size ≤ wr.heap.size := hb.size
          have t0 := hT.c0
          have t1 := hT.c1
          have t2 := hT.c2
          by_cases hlt : k < l.length
          ·exact absurd hlt (by have := HL.out; omega)
          ·have htk : l.take k = l := List.take_of_length_le (by omega)
           have hge : ¬ ((k : Int) < 0) := by have := HL.out; omega
           have HZ : Hid (0 = errM u m [(⟨4, ix, l⟩ : Lm)]) := by unfold Hid; rw [HE.out, HD.out, ← htk, HEK.out]
           go_wp2_with fail
           go_ret
           exact ⟨ret_int HZ.out, HBK.out⟩
     case neg =>
      by_cases k5 : kd = 5
      case pos =>
       subst k5
       by_cases hl : l.length = 0
       case neg =>
        have HK : Hid (knE u m 5 ix l.length = 2) := by unfold Hid knE mostK subsK; simp [hl]
        have HE : Hid (errM u m [(⟨5, ix, l⟩ : Lm)] = 2) := by unfold Hid; rw [errM_bad (by rw [HK.out]; decide), HK.out]
        have hl2 : ¬ (l.length : Int) = 0 := by omega
        have hl3 : ((l.length : Int) != 0) = true := by simpa using hl2
        go_enter Tryz.func48, Tryz.ntmps48
        go_wp2_with fail
        go_ret
        exact ⟨ret_int HE.out.symm, HB0.out⟩
       case pos =>
        have HL := hide hl
        have hl3 : ((l.length : Int) != 0) = false := by simp [hl]
        clear hl
        by_cases hi : ix < 0
        case pos =>
         have HK : Hid (knE u m 5 ix l.length = 15) := by unfold Hid knE mostK subsK; simp [HL.out, hi]
         have HE : Hid (errM u m [(⟨5, ix, l⟩ : Lm)] = 15) := by unfold Hid; rw [errM_bad (by rw [HK.out]; decide), HK.out]
         go_enter Tryz.func48, Tryz.ntmps48
         go_wp2_with fail
         go_ret
         exact ⟨ret_int HE.out.symm, HB0.out⟩
        case neg =>
         by_cases hj : (m : Int) ≤ ix
         case pos =>
          have HK : Hid (knE u m 5 ix l.length = 15) := by unfold Hid knE mostK subsK; simp [HL.out, hi, hj]
          have HE : Hid (errM u m [(⟨5, ix, l⟩ : Lm)] = 15) := by unfold Hid; rw [errM_bad (by rw [HK.out]; decide), HK.out]
          go_enter Tryz.func48, Tryz.ntmps48
          go_wp2_with fail
          go_ret
          exact ⟨ret_int HE.out.symm, HB0.out⟩
         case neg =>
          have HK : Hid (knE u m 5 ix l.length = 0) := by unfold Hid knE mostK subsK; simp [HL.out, hi, hj]
          have HE := hide (errM_good HK.out)
          have HD : Hid (deepK u 5 = u) := by unfold Hid deepK; first | rfl | simp
          go_enter Tryz.func48, Tryz.ntmps48
          go_wp2_with fail
          go_loopw [10] (fun o wr => KnInv2 (u) m l w o wr ∧ Blk wr w.heap.size #[.int .i64 5, .int .i64 ix, .slice a l.length c] 25) (fun o wr => l.length - (intOf o).toNat)
          case atStart => exact ⟨⟨0, Nat.zero_le _, rfl, by simp [errM], HB0.out⟩, HT0.out⟩
          case round =>
           obtain ⟨⟨k, hk, rfl, he, hb⟩, hT⟩ := hrel
           have HEK := hide he
           have HBK := hide hb
           have HTK := hide hT
           clear he
           have hsz : w.heap.size ≤ wr.heap.size := hb.size
           have t0 := hT.c0
           have t1 := hT.c1
           have t2 := hT.c2
           by_cases hlt : k < l.length
           ·exact absurd hlt (by have := HL.out; omega)
           ·have htk : l.take k = l := List.take_of_length_le (by omega)
            have hge : ¬ ((k : Int) < 0) := by have := HL.out; omega
            have HZ : Hid (0 = errM u m [(⟨5, ix, l⟩ : Lm)]) := by unfold Hid; rw [HE.out, HD.out, ← htk, HEK.out]
            go_wp2_with fail
            go_ret
            exact ⟨ret_int HZ.out, HBK.out⟩
      case neg =>
       have HK : Hid (knE u m kd ix l.length = 2) := by unfold Hid knE; rw [if_pos (by omega)]
       have HE : Hid (errM u m [(⟨kd, ix, l⟩ : Lm)] = 2) := by unfold Hid; rw [errM_bad (by rw [HK.out]; decide), HK.out]
       have e1 : (kd == 1) = false := by simpa using k1
       have e2 : (kd == 2) = false := by simpa using k2
       have e3 : (kd == 3) = false := by simpa using k3
       have e4 : (kd == 4) = false := by simpa using k4
       have e5 : (kd == 5) = false := by simpa using k5
       go_enter Tryz.func48, Tryz.ntmps48
       go_wp2_with fail
       go_ret
       exact ⟨ret_int HE.out.symm, HB0.out⟩
set_option maxHeartbeats 1000000 in
theorem lamMay_any (t : Lm) (v : Value) (u m : Int) (w : World) (X : Nat → Prop) (hv : MV w X v t) :
  Calls Tryz.prog 23 #[v, .int .i64 u, .int .i64 m] w fun e w' => e = .returned (.int .i64 (lamE u m t)) ∧ Below w.heap.size w w' := by
 obtain ⟨a, c, rfl, hs⟩ := hv
 have hv : MV w X (.agg #[.int .i64 t.kind, .int .i64 t.idx, .slice a t.subs.length c]) t := ⟨a, c, rfl, hs⟩
 have HB0 : Hid (Below w.heap.size w (w.alloc (.cells #[.int .i64 t.kind, .int .i64 t.idx, .slice a t.subs.length c] 25))) := (Below.refl _ _).alloc (Nat.le_refl _) _
 have hT0 := Blk.new w #[.int .i64 t.kind, .int .i64 t.idx, .slice a t.subs.length c] 25
 go_enter Tryz.func23, Tryz.ntmps23
 by_cases h1 : u < 0
 ·have HE : Hid (lamE u m t = 10) := by unfold Hid lamE; rw [if_pos (Or.inl h1)]
  go_wp2_with fail
  go_ret
  exact ⟨ret_int HE.out.symm, HB0.out⟩
 by_cases h2 : 40 < u
 ·have HE : Hid (lamE u m t = 10) := by unfold Hid lamE; rw [if_pos (Or.inr h2)]
  go_wp2_with fail
  go_ret
  exact ⟨ret_int HE.out.symm, HB0.out⟩
 go_wp2_with fail
 refine (lamSize_any t _ _ _ X (hv.alloc _) (by omega) (by omega)).mono ?_
 rintro e w1 ⟨rfl, hb1⟩
 have HB1 := hide (HB0.out.trans (hb1.mono (by simp)))
 have T1 := hide (hT0.below hb1 hT0.lt)
 have t0 := T1.out.c0
 have t1 := T1.out.c1
 have t2 := T1.out.c2
 clear hb1 hT0 HB0
 by_cases h3 : 200 < sizeM [t]
 ·have HE : Hid (lamE u m t = 3) := by unfold Hid lamE; rw [if_neg (by omega), if_pos h3]
  have e : min (sizeM [t] : Int) (200 + 1) = 201 := by omega
  rw [e]
  go_wp2_with fail
  go_ret
  exact ⟨ret_int HE.out.symm, HB1.out⟩
 ·have HE : Hid (lamE u m t = errM u m [t]) := by unfold Hid lamE; rw [if_neg (by omega), if_neg h3]
  have e : min (sizeM [t] : Int) (200 + 1) = sizeM [t] := by omega
  rw [e]
  have hle : ¬ (200 : Int) < (sizeM [t] : Int) := by omega
  go_wp2_with fail
  refine (lamMay0_any m t _ u _ X (hv.later HB1.out) (by omega) (by omega)).mono ?_
  rintro e w2 ⟨rfl, hb2⟩
  go_wp2_with fail
  go_ret
  exact ⟨ret_int HE.out.symm, HB1.out.trans (hb2.mono HB1.out.size)⟩
theorem cell_ltM {w : World} {b i : Nat} {v : Value} (h : w.cell? ⟨b, i, none⟩ = some v) : b < w.heap.size := by
 apply Classical.byContradiction
 intro hn
 have e : w.heap[b]? = none := Array.getElem?_eq_none (by omega)
 simp [World.cell?, e] at h
theorem cell_sameM {w w' : World} {b i : Nat} {v : Value} (hb : w'.heap[b]? = w.heap[b]?) (h : w.cell? ⟨b, i, none⟩ = some v) : w'.cell? ⟨b, i, none⟩ = some v := by simpa [World.cell?, hb] using h
def LmS (B b o : Nat) (kd ix : Int) (a : Option Addr) (n c : Nat) (k1 x1 : Int) (v1 : Value) (w' : World) : Prop :=
 Blk w' B #[.int .i64 kd, .int .i64 ix, .slice a n c] 25 ∧ w'.cell? ⟨b, o, none⟩ = some (.int .i64 k1) ∧ w'.cell? ⟨b, o + 1, none⟩ = some (.int .i64 x1) ∧ w'.cell? ⟨b, o + 2, none⟩ = some v1
theorem LmS.kept {B b o n c : Nat} {kd ix k1 x1 : Int} {a : Option Addr} {v1 : Value} {wr w1 : World} (h : LmS B b o kd ix a n c k1 x1 v1 wr) (h1 : w1.heap[B]? = wr.heap[B]?) (h2 : w1.heap[b]? = wr.heap[b]?) : LmS B b o kd ix a n c k1 x1 v1 w1 :=
 ⟨h1.trans h.1, cell_sameM h2 h.2.1, cell_sameM h2 h.2.2.1, cell_sameM h2 h.2.2.2⟩
theorem LmS.below {B b o n c : Nat} {kd ix k1 x1 : Int} {a : Option Addr} {v1 : Value} {wr w1 : World} (h : LmS B b o kd ix a n c k1 x1 v1 wr) (hb : Below wr.heap.size wr w1) : LmS B b o kd ix a n c k1 x1 v1 w1 :=
 h.kept (hb.block _ h.1.lt) (hb.block _ (cell_ltM h.2.1))
def higM (y : Int) : Int → List Lm → List Lm
 | _, [] => []
 | d, ⟨k, x, l⟩ :: r => (if k = 1 then (if x < d then ⟨k, x, l⟩ else ⟨1, x + y, []⟩) else ⟨k, x, higM y (deepK d k) l⟩) :: higM y d r
def higT (y d : Int) (t : Lm) : Lm := if t.kind = 1 then (if t.idx < d then t else ⟨1, t.idx + y, []⟩) else ⟨t.kind, t.idx, higM y (deepK d t.kind) t.subs⟩
def insM (z : Lm) : Int → List Lm → List Lm
 | _, [] => []
 | d, ⟨k, x, l⟩ :: r => (if k = 1 then (if x < d then ⟨k, x, l⟩ else if x = d then higT d 0 z else ⟨1, x - 1, []⟩) else ⟨k, x, insM z (deepK d k) l⟩) :: insM z d r
def insT (z : Lm) (d : Int) (t : Lm) : Lm := if t.kind = 1 then (if t.idx < d then t else if t.idx = d then higT d 0 z else ⟨1, t.idx - 1, []⟩) else ⟨t.kind, t.idx, insM z (deepK d t.kind) t.subs⟩
def BndM : List Lm → Prop
 | [] => True
 | ⟨_, x, l⟩ :: r => (0 ≤ x ∧ x ≤ 100000) ∧ BndM l ∧ BndM r
theorem BndM_nil : BndM [] := by simp [BndM]
theorem BndM_cons (k x : Int) (l r : List Lm) : BndM (⟨k, x, l⟩ :: r) ↔ (0 ≤ x ∧ x ≤ 100000) ∧ BndM l ∧ BndM r := by simp [BndM]
theorem BndM.at : ∀ {l : List Lm} (k : Nat) (h : k < l.length), BndM l → BndM [l[k]]
 | [], k, h, _ => by simp at h
 | ⟨s, x, l⟩ :: r, 0, h, hb => by
  rw [BndM_cons] at hb
  exact (BndM_cons s x l []).2 ⟨hb.1, hb.2.1, BndM_nil⟩
 | ⟨s, x, l⟩ :: r, k + 1, h, hb => by
  rw [BndM_cons] at hb
  have := BndM.at (l := r) k (by simpa using h) hb.2.2
  simpa using this
theorem step_append_eqM {P : Program} {ops : Array Oper} {o : Oper} {a : Act} {K : Act → World → Prop} {Q : Exit → Act → World → Prop} {E : Prop} {w w' : World} {v u v' : Value} (hgd : o.guard = none) (s x : Operand) (t t' : TypeId)
  (ho : o.op = .call { callee := .builtin .append, args := #[s, x], argTypes := #[t, t'] }) (hs : a.eval s = v) (hx : a.eval x = u)
  (hr : (Builtin.append_ #[t, t'] o.type #[v, u]).run P w = .ok v' w') (h : K (a.put o.dst v') w') : if Region.wanted o (yielded ops a.tmps) = true then Oper.wp P o a w K Q else E := by
 have hw : Region.wanted o (yielded ops a.tmps) = true := by simp [Region.wanted, hgd]
 rw [if_pos hw]
 unfold Oper.wp execOp
 simp only [ho, resolve, invoke, builtin, Sem.run_bind, Sem.run_pure, Result.andThen_ok, List.map_toArray, List.map_cons, List.map_nil, hs, hx, hr]
 exact h
def Tb (B : Nat) (w : World) : Prop := Lib.TabBelow Tryz.prog B w "internal/strconv.uint64pow10" .u64 Lib.pow10Tab
theorem Tb.on {B : Nat} {w w1 : World} (h : Tb B w) (hb : Below B w w1) : Tb B w1 := Lib.TabBelow.on h hb
theorem blk_bfr {w w' : World} {b k T : Nat} {q q' : Value} {cs : Array Value} (h : Blk w k cs T) (hf : BFr w w' b q q') (hk : k ≠ b) (hq : some k ≠ q.ownBlock) : Blk w' k cs T := by
 unfold Blk at *; rw [hf.2.2.2.2.1 k (Blk.lt h) hk hq]; exact h
theorem own_bfr {w w' : World} {b k : Nat} {q q' : Value} (hf : BFr w w' b q q') (hk : k < w.heap.size) (hq : some k ≠ q.ownBlock) : some k ≠ q'.ownBlock := fun e => by
 rcases hf.2.2.2.2.2 _ e.symm with h1 | h1
 ·exact hq h1.symm
 ·omega
theorem itoa_any (n B : Nat) (hn : n ≤ 1000000) (w : World) (hT : Tb B w) : Calls Tryz.prog 72 #[.int .i64 n] w fun e w' => e = .returned (.string ⟨(Lib.decDigits n).toArray⟩) ∧ Below w.heap.size w w' := by
 refine (Tryz.strconv_Itoa n (by omega) (by omega) w hT.here).mono ?_
 rintro e w' ⟨rfl, k, os, rfl⟩
 refine ⟨?_, Lib.below_grow _ _ (Nat.le_refl _) _ _⟩
 have : Lib.itoa (n : Int) = Lib.decDigits n := by simp [Lib.itoa]
 rw [this]
def Zq (E : Nat → Prop) (N P : Nat) (q : Value) (b : Nat) : Prop := N ≤ b ∧ b ≠ P ∧ some b ≠ q.ownBlock ∧ ¬ E b
structure AsK (E : Nat → Prop) (w : World) (N P T n : Nat) (q : Value) (cs : List Pc) : Prop where
 box : Blk w P #[q, .int .i64 (n : Int)] T
 own : w.ownsRow N 75 4 q cs.length (flat4 cs)
 row : ∀ x ∈ cs, Sl w (Zq E N P q) x.2.1.1 x.1.l.args ∧ Sl w (Zq E N P q) x.2.2.1 x.1.r.args
 ne : some P ≠ q.ownBlock
 le : N ≤ w.heap.size
 ge : N ≤ P
def AsF (w w' : World) (P : Nat) (q q' : Value) : Prop := ExQ (fun b => b = P ∨ some b = q.ownBlock) w w' ∧ ∀ b, q'.ownBlock = some b → q.ownBlock = some b ∨ w.heap.size ≤ b
theorem AsF.refl (w : World) (P : Nat) (q : Value) : AsF w w P q q := ⟨ExQ.refl _ _, fun b h => Or.inl h⟩
theorem AsF.trans {w w1 w2 : World} {P : Nat} {q q1 q2 : Value} (h : AsF w w1 P q q1) (k : AsF w1 w2 P q1 q2) : AsF w w2 P q q2 := by
 refine ⟨h.1.transN k.1 fun i hi hs => ?_, fun b hb => ?_⟩
 ·rcases hi with rfl | hi
  ·exact Or.inl rfl
  ·rcases h.2 i hi.symm with e | e
   ·exact Or.inr e.symm
   ·omega
 ·rcases k.2 b hb with e | e
  ·exact h.2 b e
  ·exact Or.inr (Nat.le_trans h.1.size e)
theorem AsF.ofBelow {w w' : World} (hb : Below w.heap.size w w') (P : Nat) (q : Value) : AsF w w' P q q := ⟨ExQ.ofBelow hb, fun b h => Or.inl h⟩
theorem AsF.then {w w1 w2 : World} {P : Nat} {q q1 : Value} (h : AsF w w1 P q q1) (hb : Below w1.heap.size w1 w2) : AsF w w2 P q q1 := h.trans (AsF.ofBelow hb P q1)
theorem AsF.sl {w w' : World} {E : Nat → Prop} {N P : Nat} {q q' : Value} (h : AsF w w' P q q') {a : Option Addr} {l : List Tm} (hs : Sl w (Zq E N P q) a l) : Sl w' (Zq E N P q') a l := by
 have h1 : Sl w (fun b => Zq E N P q b ∧ b < w.heap.size) a l := hs.mono fun b h1 h2 => ⟨h1, h2⟩
 refine (h1.exq h.1 fun b hb hq => ?_).mono fun b hb _ => ⟨hb.1.1, hb.1.2.1, fun e => ?_, hb.1.2.2.2⟩
 ·rcases hq with rfl | hq
  ·exact hb.1.2.1 rfl
  ·exact hb.1.2.2.1 hq
 ·rcases h.2 b e.symm with e1 | e1
  ·exact hb.1.2.2.1 e1.symm
  ·have := hb.2; omega
theorem AsK.below {w w' : World} {E : Nat → Prop} {N P T n : Nat} {q q' : Value} {cs : List Pc} (h : AsK E w N P T n q cs) (hf : AsF w w' P q q') : Below N w w' :=
 hf.1.below h.le fun b hb => by
  rcases hb with rfl | hb
  ·exact h.ge
  ·exact (h.own.lt b hb.symm).1
theorem AsK.later {w w' : World} {E : Nat → Prop} {N P T n : Nat} {q : Value} {cs : List Pc} (h : AsK E w N P T n q cs) (hb : Below w.heap.size w w') : AsK E w' N P T n q cs :=
 ⟨h.box.below hb h.box.lt, ownsRow_at h.own fun g hg => hb.block g (h.own.lt g hg).2, fun x hx => ⟨(h.row x hx).1.later hb, (h.row x hx).2.later hb⟩, h.ne, Nat.le_trans h.le hb.size, h.ge⟩
theorem sl_excl {w : World} {E E' : Nat → Prop} {N P : Nat} {q : Value} {a : Option Addr} {l : List Tm} (hs : Sl w (Zq E N P q) a l) (hE : ∀ b, b < w.heap.size → E' b → E b) : Sl w (Zq E' N P q) a l :=
 hs.mono fun b hb hlt => ⟨hb.1, hb.2.1, hb.2.2.1, fun h => hb.2.2.2 (hE b hlt h)⟩
theorem AsK.excl {w : World} {E E' : Nat → Prop} {N P T n : Nat} {q : Value} {cs : List Pc} (h : AsK E w N P T n q cs) (hE : ∀ b, b < w.heap.size → E' b → E b) : AsK E' w N P T n q cs :=
 ⟨h.box, h.own, fun x hx => ⟨sl_excl (h.row x hx).1 hE, sl_excl (h.row x hx).2 hE⟩, h.ne, h.le, h.ge⟩
theorem AsK.next {w w' : World} {E : Nat → Prop} {N P T n m : Nat} {q : Value} {cs : List Pc} (h : AsK E w N P T n q cs) (hf : AsF w w' P q q) (hq : ∀ g, q.ownBlock = some g → w'.heap[g]? = w.heap[g]?) (hB : Blk w' P #[q, .int .i64 (m : Int)] T) : AsK E w' N P T m q cs :=
 ⟨hB, ownsRow_at h.own hq, fun x hx => ⟨hf.sl (h.row x hx).1, hf.sl (h.row x hx).2⟩, h.ne, Nat.le_trans h.le hf.1.size, h.ge⟩
theorem app_pairK {w : World} {E : Nat → Prop} {N P T n : Nat} {q : Value} {cs : List Pc} (x : Pc) (h : AsK E w N P T n q cs) (hl : cs.length ≤ 1000000) (hx : Sl w (Zq E N P q) x.2.1.1 x.1.l.args ∧ Sl w (Zq E N P q) x.2.2.1 x.1.r.args) :
  ∃ g cap w3, (Builtin.append_ #[43, 43] 43 #[q, .slice (some ⟨w.heap.size, 0, none⟩) 1 1]).run Tryz.prog (w.alloc (.cells #[.string x.1.l.name, .slice x.2.1.1 x.1.l.args.length x.2.1.2, .string x.1.r.name, .slice x.2.2.1 x.1.r.args.length x.2.2.2] 75)) = .ok (.slice (some ⟨g, 0, none⟩) (cs.length + 1) cap) w3 ∧
   (∀ w4 : World, w4 = w3.setCell ⟨P, 0, none⟩ (.slice (some ⟨g, 0, none⟩) (cs.length + 1) cap) → AsK E w4 N P T n (.slice (some ⟨g, 0, none⟩) (cs.length + 1) cap) (cs ++ [x]) ∧ AsF w w4 P q (.slice (some ⟨g, 0, none⟩) (cs.length + 1) cap)) ∧ ExQ (fun b => b = P ∨ some b = q.ownBlock) w w3 ∧ Blk w3 P #[q, .int .i64 (n : Int)] T := by
 have hN := h.le
 obtain ⟨i0, hi, hz0, hz1, hz2⟩ := info_parts Tryz.infoPair
 obtain ⟨g, cap, w3, hr, ho, hg, hat, _⟩ := run_append_lies (P := Tryz.prog) (w := w.alloc (.cells #[.string x.1.l.name, .slice x.2.1.1 x.1.l.args.length x.2.1.2, .string x.1.r.name, .slice x.2.2.1 x.1.r.args.length x.2.2.2] 75)) 43 43 N 75 i0 _ 4 80 Tryz.underlying43 hi hz0 hz1 hz2 rfl (by decide) q cs.length (flat4 cs) (h.own.alloc _) ⟨w.heap.size, 0, none⟩ 1 1 (enc4 x) rfl (cell_four_new _ _ _ _ _ _) (fun y hy => by simp [enc4] at hy; rcases hy with rfl | rfl | rfl | rfl <;> rfl) (by decide) (by unfold maxLen; omega) (by omega) (by simp; omega) _ rfl
 have he : ExQ (fun b => some b = q.ownBlock) w w3 := ((ExQ.refl _ w).alloc _).grown hg (fun k hk => Or.inr hk.symm)
 have he3 : ExQ (fun b => b = P ∨ some b = q.ownBlock) w w3 := he.mono fun i hi _ => Or.inr hi
 have hat' : q.ownBlock = some g ∨ g = w.heap.size + 1 := by simpa using hat
 have hgP : g ≠ P := fun e => by
  rcases hat' with e1 | e1
  ·exact h.ne (by rw [e1, e])
  ·have := h.box.lt; omega
 have hB3 : Blk w3 P #[q, .int .i64 (n : Int)] T := h.box.exq he h.ne
 refine ⟨g, cap, w3, hr, fun w4 hw4 => ?_, he3, hB3⟩
 have hF : AsF w w4 P q (.slice (some ⟨g, 0, none⟩) (cs.length + 1) cap) := by
  rw [hw4]
  refine ⟨he3.set (Or.inl rfl) 0 _, fun b hb => ?_⟩
  have e : g = b := by simpa [Value.ownBlock] using hb
  subst e
  rcases hat' with e1 | e1
  ·exact Or.inl e1
  ·exact Or.inr (by omega)
 refine ⟨⟨?_, ?_, fun y hy => ?_, ?_, Nat.le_trans h.le hF.1.size, h.ge⟩, hF⟩
 ·rw [hw4]; exact hB3.set 0 _
 ·have h1 : w3.ownsRow N 75 4 (.slice (some ⟨g, 0, none⟩) (cs.length + 1) cap) (cs ++ [x]).length (flat4 (cs ++ [x])) := by simpa [flat4_append, flat4] using ho
  refine ownsRow_at h1 fun k hk => ?_
  have e : g = k := by simpa [Value.ownBlock] using hk
  rw [hw4, ← e]
  exact Below.heap_setCell _ _ _ _ (by simpa using hgP)
 ·rcases List.mem_append.1 hy with hy | hy
  ·exact ⟨hF.sl (h.row y hy).1, hF.sl (h.row y hy).2⟩
  ·have e : y = x := by simpa using hy
   rw [e]
   exact ⟨hF.sl hx.1, hF.sl hx.2⟩
 ·intro e
  have : g = P := by simpa [Value.ownBlock] using e.symm
  exact hgP this
def TPostI (w : World) (X : Nat → Prop) (t : Tm) (e : Ending) (w' : World) : Prop :=
 ∃ v, e = .returned v ∧ TV w' (fun b => X b ∨ w.heap.size ≤ b) v t ∧ Below w.heap.size w w'
theorem lies_twoI {w : World} {Y : Nat → Prop} {g T c c2 : Nat} {a a2 : Option Addr} {f x : Tm} (hB : Blk w g #[.string f.name, .slice a f.args.length c, .string x.name, .slice a2 x.args.length c2] T) (hY : Y g) (h1 : Sl w Y a f.args) (h2 : Sl w Y a2 x.args) : Sl w Y (some ⟨g, 0, none⟩) [f, x] := by
 obtain ⟨s, l⟩ := f
 obtain ⟨s2, l2⟩ := x
 refine ⟨by simp, Or.inr ⟨g, 0, rfl, ?_⟩⟩
 simp only [Lies]
 exact ⟨hY, hB.cell 0, ⟨a, c, hB.cell 1, h1⟩, hY, hB.cell 2, ⟨a2, c2, hB.cell 3, h2⟩, trivial⟩
theorem arr_blkI (w : World) (f x : Tm) (a a2 : Option Addr) (c c2 : Nat) :
  Blk ((((w.alloc (.cells #[.string f.name, .slice a f.args.length c] 48)).alloc (.cells #[.string x.name, .slice a2 x.args.length c2] 48)).alloc (.cells #[.string ⟨#[102]⟩, .slice (some ⟨w.heap.size + 1 + 1 + 1, 0, none⟩) 2 2] 48)).alloc (.cells #[.string f.name, .slice a f.args.length c, .string x.name, .slice a2 x.args.length c2] 48)) (w.heap.size + 1 + 1) #[.string ⟨#[102]⟩, .slice (some ⟨w.heap.size + 1 + 1 + 1, 0, none⟩) 2 2] 48 ∧
  Blk ((((w.alloc (.cells #[.string f.name, .slice a f.args.length c] 48)).alloc (.cells #[.string x.name, .slice a2 x.args.length c2] 48)).alloc (.cells #[.string ⟨#[102]⟩, .slice (some ⟨w.heap.size + 1 + 1 + 1, 0, none⟩) 2 2] 48)).alloc (.cells #[.string f.name, .slice a f.args.length c, .string x.name, .slice a2 x.args.length c2] 48)) (w.heap.size + 1 + 1 + 1) #[.string f.name, .slice a f.args.length c, .string x.name, .slice a2 x.args.length c2] 48 := by
 constructor
 ·have h := (Blk.new ((w.alloc (.cells #[.string f.name, .slice a f.args.length c] 48)).alloc (.cells #[.string x.name, .slice a2 x.args.length c2] 48)) #[.string ⟨#[102]⟩, .slice (some ⟨w.heap.size + 1 + 1 + 1, 0, none⟩) 2 2] 48).alloc (.cells #[.string f.name, .slice a f.args.length c, .string x.name, .slice a2 x.args.length c2] 48)
  simpa using h
 ·have h := Blk.new (((w.alloc (.cells #[.string f.name, .slice a f.args.length c] 48)).alloc (.cells #[.string x.name, .slice a2 x.args.length c2] 48)).alloc (.cells #[.string ⟨#[102]⟩, .slice (some ⟨w.heap.size + 1 + 1 + 1, 0, none⟩) 2 2] 48)) #[.string f.name, .slice a f.args.length c, .string x.name, .slice a2 x.args.length c2] 48
  simpa using h
set_option maxHeartbeats 1000000 in
theorem arrowR_any (f x : Tm) (fv xv : Value) (w : World) (X : Nat → Prop) (hf : TV w X fv f) (hx : TV w X xv x) :
  Calls Tryz.prog 35 #[fv, xv] w fun e w' => TPostI w X (arT f x) e w' := by
 obtain ⟨a, c, rfl, hs⟩ := hf
 obtain ⟨a2, c2, rfl, hs2⟩ := hx
 have HS := hide hs
 have HS2 := hide hs2
 clear hs hs2
 have HB : Hid (Below w.heap.size w ((((w.alloc (.cells #[.string f.name, .slice a f.args.length c] 48)).alloc (.cells #[.string x.name, .slice a2 x.args.length c2] 48)).alloc (.cells #[.string ⟨#[102]⟩, .slice (some ⟨w.heap.size + 1 + 1 + 1, 0, none⟩) 2 2] 48)).alloc (.cells #[.string f.name, .slice a f.args.length c, .string x.name, .slice a2 x.args.length c2] 48))) := below4 _ _ _ _
 have q := arr_blkI w f x a a2 c c2
 have q0 := q.1.cell 0
 have q1 := q.1.cell 1
 have HQ := hide q.2
 clear q
 simp at q0 q1
 go_enter Tryz.func35, Tryz.ntmps35
 go_wp2_with fail
 refine bodyPost_ret (v := .agg #[.string ⟨#[102]⟩, .slice (some ⟨w.heap.size + 1 + 1 + 1, 0, none⟩) 2 2]) (by simp [results, Tryz.results35, go_sem, q0, q1]) rfl ?_
 refine ⟨_, rfl, ⟨_, _, rfl, lies_twoI HQ.out (Or.inr (by omega)) ?_ ?_⟩, HB.out⟩
 ·exact (HS.out.later HB.out).mono fun b h _ => Or.inl h
 ·exact (HS2.out.later HB.out).mono fun b h _ => Or.inl h
set_option maxHeartbeats 1000000 in
theorem arrowI_any (f x : Tm) (fv xv : Value) (w : World) (X : Nat → Prop) (hf : TV w X fv f) (hx : TV w X xv x) :
  Calls Tryz.prog 77 #[fv, xv] w fun e w' => TPostI w X (arT f x) e w' := by
 obtain ⟨a, c, rfl, hs⟩ := hf
 obtain ⟨a2, c2, rfl, hs2⟩ := hx
 have HS := hide hs
 have HS2 := hide hs2
 clear hs hs2
 have HB : Hid (Below w.heap.size w ((((w.alloc (.cells #[.string f.name, .slice a f.args.length c] 48)).alloc (.cells #[.string x.name, .slice a2 x.args.length c2] 48)).alloc (.cells #[.string ⟨#[102]⟩, .slice (some ⟨w.heap.size + 1 + 1 + 1, 0, none⟩) 2 2] 48)).alloc (.cells #[.string f.name, .slice a f.args.length c, .string x.name, .slice a2 x.args.length c2] 48))) := below4 _ _ _ _
 have q := arr_blkI w f x a a2 c c2
 have q0 := q.1.cell 0
 have q1 := q.1.cell 1
 have HQ := hide q.2
 clear q
 simp at q0 q1
 go_enter Tryz.func77, Tryz.ntmps77
 go_wp2_with fail
 refine bodyPost_ret (v := .agg #[.string ⟨#[102]⟩, .slice (some ⟨w.heap.size + 1 + 1 + 1, 0, none⟩) 2 2]) (by simp [results, Tryz.results77, go_sem, q0, q1]) rfl ?_
 refine ⟨_, rfl, ⟨_, _, rfl, lies_twoI HQ.out (Or.inr (by omega)) ?_ ?_⟩, HB.out⟩
 ·exact (HS.out.later HB.out).mono fun b h _ => Or.inl h
 ·exact (HS2.out.later HB.out).mono fun b h _ => Or.inl h
theorem leafS_anyI (s : ByteArray) (w : World) :
  Calls Tryz.prog 54 #[.string s] w fun e w' => e = .returned (.agg #[.string s, .slice none 0 0]) ∧ Below w.heap.size w w' := by
 go_enter Tryz.func54, Tryz.ntmps54
 go_wp2_with fail
 have hb := Blk.new w #[.string s, .slice none 0 0] 48
 have c0 := hb.cell 0
 have c1 := hb.cell 1
 refine bodyPost_ret (v := .agg #[.string s, .slice none 0 0]) (by simp [results, Tryz.results54, go_sem, c0, c1]) rfl ⟨rfl, (Below.refl _ _).alloc (Nat.le_refl _) _⟩
theorem AsK.belowI {w w' : World} {E : Nat → Prop} {N P T n B : Nat} {q : Value} {cs : List Pc} (h : AsK E w N P T n q cs) (he : ExQ (fun b => b = P ∨ some b = q.ownBlock) w w') (hB : B ≤ N) : Below B w w' :=
 he.below (Nat.le_trans hB h.le) fun b hb => by
  rcases hb with rfl | hb
  ·exact Nat.le_trans hB h.ge
  ·exact Nat.le_trans hB (h.own.lt b hb.symm).1
set_option maxHeartbeats 2000000 in
theorem freshR_any {E : Nat → Prop} {w : World} {N P n : Nat} {q : Value} {cs : List Pc} (h : AsK E w N P 45 n q cs) (hn : n ≤ 1000) :
  Calls Tryz.prog 34 #[.pointer (some ⟨P, 0, none⟩)] w fun e w' => e = .returned (.agg #[.string (vrN 84 (n + 1)), .slice none 0 0]) ∧ AsK E w' N P 45 (n + 1) q cs ∧ AsF w w' P q q := by
 have H := hide h
 have hPs : P < w.heap.size := h.box.lt
 have p1 := h.box.c1
 have p0 := h.box.c0
 have R1 : Hid (Blk (w.alloc (.cells #[.string ⟨#[]⟩, .slice none 0 0] 48)) w.heap.size #[.string ⟨#[]⟩, .slice none 0 0] 48) := Blk.new _ _ _
 have P1 : Hid (Blk (w.alloc (.cells #[.string ⟨#[]⟩, .slice none 0 0] 48)) P #[q, .int .i64 (n : Int)] 45) := h.box.alloc _
 have B1 : Hid (Below w.heap.size w (w.alloc (.cells #[.string ⟨#[]⟩, .slice none 0 0] 48))) := (Below.refl _ _).alloc (Nat.le_refl _) _
 have hne : w.heap.size ≠ P := by omega
 clear h p1 p0
 go_enter Tryz.func34, Tryz.ntmps34
 go_upto_region 1 with fail
 generalize w.alloc (.cells #[.string ⟨#[]⟩, .slice none 0 0] 48) = w1 at *
 have p1 := P1.out.c1
 have pf : w1.frozen? ⟨P, 1, none⟩ = false := P1.out.frozen 1
 have P2 : Hid (Blk (w1.setCell ⟨P, 1, none⟩ (.int .i64 ((n : Int) + 1))) P #[q, .int .i64 ((n : Int) + 1)] 45) := P1.out.set 1 _
 have R2 : Hid (Blk (w1.setCell ⟨P, 1, none⟩ (.int .i64 ((n : Int) + 1))) w.heap.size #[.string ⟨#[]⟩, .slice none 0 0] 48) := R1.out.setOther 1 _ hne
 have E2 : Hid (ExQ (fun b => b = P ∨ some b = q.ownBlock) w (w1.setCell ⟨P, 1, none⟩ (.int .i64 ((n : Int) + 1)))) := (ExQ.ofBelow B1.out).set (Or.inl rfl) 1 _
 have Q2 : Hid (∀ g, q.ownBlock = some g → (w1.setCell ⟨P, 1, none⟩ (.int .i64 ((n : Int) + 1))).heap[g]? = w.heap[g]?) := fun g hg => by
  rw [Below.heap_setCell _ _ _ _ (by simp; exact fun e => H.out.ne (by rw [hg, e]))]
  exact B1.out.block g (H.out.own.lt g hg).2
 go_upto_region 2 with fail
 generalize w1.setCell ⟨P, 1, none⟩ (.int .i64 ((n : Int) + 1)) = w2 at *
 have p2 := P2.out.c1
 clear p1 pf P1 R1 B1 w1
 go_wp2_with fail
 refine (dec_any (n + 1) (by omega) _).mono ?_
 rintro e w3 ⟨rfl, hb3⟩
 have P3 := hide (P2.out.below hb3 P2.out.lt)
 have R3 := hide (R2.out.below hb3 R2.out.lt)
 have E3 := hide (E2.out.transN (ExQ.ofBelow (Q := fun _ => False) hb3) fun i hi _ => hi.elim)
 have Q3 := hide (fun g hg => (hb3.block g (Nat.lt_of_lt_of_le (H.out.own.lt g hg).2 E2.out.size)).trans (Q2.out g hg))
 have hdl := dec_len (n + 1)
 have hdl2 : ¬ 9223372036854775807 < 1 + (Lib.decDigits (n + 1)).length := by omega
 have hdl3 : 1 + (Lib.decDigits (n + 1)).length ≤ 9223372036854775807 := by omega
 clear hb3 P2 R2 E2 p2 hdl Q2
 go_wp2_with fail
 refine (leafS_anyI _ _).mono ?_
 rintro e w4 ⟨rfl, hb4⟩
 have P4 := hide (P3.out.below hb4 P3.out.lt)
 have R4 := hide (R3.out.below hb4 R3.out.lt)
 have E4 := hide (E3.out.transN (ExQ.ofBelow (Q := fun _ => False) hb4) fun i hi _ => hi.elim)
 have Q4 := hide (fun g hg => (hb4.block g (Nat.lt_of_lt_of_le (H.out.own.lt g hg).2 E3.out.size)).trans (Q3.out g hg))
 clear hb4 P3 R3 E3 Q3
 have r0 := R4.out.c0
 have r1 := R4.out.c1
 have f0 : w4.frozen? ⟨w.heap.size, 0, none⟩ = false := R4.out.frozen 0
 have f1 : w4.frozen? ⟨w.heap.size, 1, none⟩ = false := R4.out.frozen 1
 go_wp2_with fail
 have R5 : Hid (Blk ((w4.setCell ⟨w.heap.size, 0, none⟩ (.string (⟨#[84]⟩ ++ ⟨(Lib.decDigits (n + 1)).toArray⟩))).setCell ⟨w.heap.size, 1, none⟩ (.slice none 0 0)) w.heap.size #[.string (⟨#[84]⟩ ++ ⟨(Lib.decDigits (n + 1)).toArray⟩), .slice none 0 0] 48) := (R4.out.set 0 _).set 1 _
 have P5 : Hid (Blk ((w4.setCell ⟨w.heap.size, 0, none⟩ (.string (⟨#[84]⟩ ++ ⟨(Lib.decDigits (n + 1)).toArray⟩))).setCell ⟨w.heap.size, 1, none⟩ (.slice none 0 0)) P #[q, .int .i64 ((n : Int) + 1)] 45) := (P4.out.setOther 0 _ hne.symm).setOther 1 _ hne.symm
 have E5 : Hid (ExQ (fun b => b = P ∨ some b = q.ownBlock) w ((w4.setCell ⟨w.heap.size, 0, none⟩ (.string (⟨#[84]⟩ ++ ⟨(Lib.decDigits (n + 1)).toArray⟩))).setCell ⟨w.heap.size, 1, none⟩ (.slice none 0 0))) := (E4.out.setNew (Nat.le_refl _) 0 _).setNew (Nat.le_refl _) 1 _
 have Q5 : Hid (∀ g, q.ownBlock = some g → ((w4.setCell ⟨w.heap.size, 0, none⟩ (.string (⟨#[84]⟩ ++ ⟨(Lib.decDigits (n + 1)).toArray⟩))).setCell ⟨w.heap.size, 1, none⟩ (.slice none 0 0)).heap[g]? = w.heap[g]?) := fun g hg => by
  have hlt := (H.out.own.lt g hg).2
  rw [Below.heap_setCell _ _ _ _ (by simp; omega), Below.heap_setCell _ _ _ _ (by simp; omega)]
  exact Q4.out g hg
 have e : (⟨#[84]⟩ : ByteArray) ++ ⟨(Lib.decDigits (n + 1)).toArray⟩ = vrN 84 (n + 1) := by
  unfold vrN
  apply ByteArray.ext
  simp
 generalize ((w4.setCell ⟨w.heap.size, 0, none⟩ (.string (⟨#[84]⟩ ++ ⟨(Lib.decDigits (n + 1)).toArray⟩))).setCell ⟨w.heap.size, 1, none⟩ (.slice none 0 0)) = w5 at *
 have c0 := R5.out.cell 0
 have c1 := R5.out.cell 1
 simp only [List.getElem?_toArray, List.getElem?_cons_zero, List.getElem?_cons_succ] at c0 c1
 refine bodyPost_ret (v := .agg #[.string (vrN 84 (n + 1)), .slice none 0 0]) (by simp [results, Tryz.results34, go_sem, c0, c1, e]) rfl ⟨rfl, H.out.next ⟨E5.out, fun b h => Or.inl h⟩ Q5.out (by have := P5.out; simpa using this), ⟨E5.out, fun b h => Or.inl h⟩⟩
set_option maxHeartbeats 2000000 in
theorem freshI_any {E : Nat → Prop} {w : World} {N P n : Nat} {q : Value} {cs : List Pc} (h : AsK E w N P 102 n q cs) (hn : n ≤ 1000) {B : Nat} (hB : B ≤ N) (hT : Tb B w) :
  Calls Tryz.prog 76 #[.pointer (some ⟨P, 0, none⟩)] w fun e w' => e = .returned (.agg #[.string (vrN 86 (n + 1)), .slice none 0 0]) ∧ AsK E w' N P 102 (n + 1) q cs ∧ AsF w w' P q q := by
 have H := hide h
 have hPs : P < w.heap.size := h.box.lt
 have p1 := h.box.c1
 have p0 := h.box.c0
 have R1 : Hid (Blk (w.alloc (.cells #[.string ⟨#[]⟩, .slice none 0 0] 48)) w.heap.size #[.string ⟨#[]⟩, .slice none 0 0] 48) := Blk.new _ _ _
 have P1 : Hid (Blk (w.alloc (.cells #[.string ⟨#[]⟩, .slice none 0 0] 48)) P #[q, .int .i64 (n : Int)] 102) := h.box.alloc _
 have B1 : Hid (Below w.heap.size w (w.alloc (.cells #[.string ⟨#[]⟩, .slice none 0 0] 48))) := (Below.refl _ _).alloc (Nat.le_refl _) _
 have hne : w.heap.size ≠ P := by omega
 clear h p1 p0
 go_enter Tryz.func76, Tryz.ntmps76
 go_upto_region 1 with fail
 generalize w.alloc (.cells #[.string ⟨#[]⟩, .slice none 0 0] 48) = w1 at *
 have p1 := P1.out.c1
 have pf : w1.frozen? ⟨P, 1, none⟩ = false := P1.out.frozen 1
 have P2 : Hid (Blk (w1.setCell ⟨P, 1, none⟩ (.int .i64 ((n : Int) + 1))) P #[q, .int .i64 ((n : Int) + 1)] 102) := P1.out.set 1 _
 have R2 : Hid (Blk (w1.setCell ⟨P, 1, none⟩ (.int .i64 ((n : Int) + 1))) w.heap.size #[.string ⟨#[]⟩, .slice none 0 0] 48) := R1.out.setOther 1 _ hne
 have E2 : Hid (ExQ (fun b => b = P ∨ some b = q.ownBlock) w (w1.setCell ⟨P, 1, none⟩ (.int .i64 ((n : Int) + 1)))) := (ExQ.ofBelow B1.out).set (Or.inl rfl) 1 _
 have Q2 : Hid (∀ g, q.ownBlock = some g → (w1.setCell ⟨P, 1, none⟩ (.int .i64 ((n : Int) + 1))).heap[g]? = w.heap[g]?) := fun g hg => by
  rw [Below.heap_setCell _ _ _ _ (by simp; exact fun e => H.out.ne (by rw [hg, e]))]
  exact B1.out.block g (H.out.own.lt g hg).2
 go_upto_region 2 with fail
 generalize w1.setCell ⟨P, 1, none⟩ (.int .i64 ((n : Int) + 1)) = w2 at *
 have p2 := P2.out.c1
 clear p1 pf P1 R1 B1 w1
 go_wp2_with fail
 refine (itoa_any (n + 1) B (by omega) _ (by exact hT.on (H.out.belowI E2.out hB))).mono ?_
 rintro e w4 ⟨rfl, hb3⟩
 have P4 := hide (P2.out.below hb3 P2.out.lt)
 have R4 := hide (R2.out.below hb3 R2.out.lt)
 have E4 := hide (E2.out.transN (ExQ.ofBelow (Q := fun _ => False) hb3) fun i hi _ => hi.elim)
 have Q4 := hide (fun g hg => (hb3.block g (Nat.lt_of_lt_of_le (H.out.own.lt g hg).2 E2.out.size)).trans (Q2.out g hg))
 have hdl := dec_len (n + 1)
 have hdl2 : ¬ 9223372036854775807 < 1 + (Lib.decDigits (n + 1)).length := by omega
 have hdl3 : 1 + (Lib.decDigits (n + 1)).length ≤ 9223372036854775807 := by omega
 clear hb3 P2 R2 E2 p2 hdl Q2
 have r0 := R4.out.c0
 have r1 := R4.out.c1
 have f0 : w4.frozen? ⟨w.heap.size, 0, none⟩ = false := R4.out.frozen 0
 have f1 : w4.frozen? ⟨w.heap.size, 1, none⟩ = false := R4.out.frozen 1
 go_wp2_with fail
 have R5 : Hid (Blk ((w4.setCell ⟨w.heap.size, 0, none⟩ (.string (⟨#[86]⟩ ++ ⟨(Lib.decDigits (n + 1)).toArray⟩))).setCell ⟨w.heap.size, 1, none⟩ (.slice none 0 0)) w.heap.size #[.string (⟨#[86]⟩ ++ ⟨(Lib.decDigits (n + 1)).toArray⟩), .slice none 0 0] 48) := (R4.out.set 0 _).set 1 _
 have P5 : Hid (Blk ((w4.setCell ⟨w.heap.size, 0, none⟩ (.string (⟨#[86]⟩ ++ ⟨(Lib.decDigits (n + 1)).toArray⟩))).setCell ⟨w.heap.size, 1, none⟩ (.slice none 0 0)) P #[q, .int .i64 ((n : Int) + 1)] 102) := (P4.out.setOther 0 _ hne.symm).setOther 1 _ hne.symm
 have E5 : Hid (ExQ (fun b => b = P ∨ some b = q.ownBlock) w ((w4.setCell ⟨w.heap.size, 0, none⟩ (.string (⟨#[86]⟩ ++ ⟨(Lib.decDigits (n + 1)).toArray⟩))).setCell ⟨w.heap.size, 1, none⟩ (.slice none 0 0))) := (E4.out.setNew (Nat.le_refl _) 0 _).setNew (Nat.le_refl _) 1 _
 have Q5 : Hid (∀ g, q.ownBlock = some g → ((w4.setCell ⟨w.heap.size, 0, none⟩ (.string (⟨#[86]⟩ ++ ⟨(Lib.decDigits (n + 1)).toArray⟩))).setCell ⟨w.heap.size, 1, none⟩ (.slice none 0 0)).heap[g]? = w.heap[g]?) := fun g hg => by
  have hlt := (H.out.own.lt g hg).2
  rw [Below.heap_setCell _ _ _ _ (by simp; omega), Below.heap_setCell _ _ _ _ (by simp; omega)]
  exact Q4.out g hg
 have e : (⟨#[86]⟩ : ByteArray) ++ ⟨(Lib.decDigits (n + 1)).toArray⟩ = vrN 86 (n + 1) := by
  unfold vrN
  apply ByteArray.ext
  simp
 generalize ((w4.setCell ⟨w.heap.size, 0, none⟩ (.string (⟨#[86]⟩ ++ ⟨(Lib.decDigits (n + 1)).toArray⟩))).setCell ⟨w.heap.size, 1, none⟩ (.slice none 0 0)) = w5 at *
 have c0 := R5.out.cell 0
 have c1 := R5.out.cell 1
 simp only [List.getElem?_toArray, List.getElem?_cons_zero, List.getElem?_cons_succ] at c0 c1
 refine bodyPost_ret (v := .agg #[.string (vrN 86 (n + 1)), .slice none 0 0]) (by simp [results, Tryz.results76, go_sem, c0, c1, e]) rfl ⟨rfl, H.out.next ⟨E5.out, fun b h => Or.inl h⟩ Q5.out (by have := P5.out; simpa using this), ⟨E5.out, fun b h => Or.inl h⟩⟩
def Bq (w : World) (P : Nat) (q : Value) (b : Nat) (cs : Array Value) (T : Nat) : Prop := Blk w b cs T ∧ b ≠ P ∧ some b ≠ q.ownBlock
theorem AsF.bq {w w' : World} {P : Nat} {q q' : Value} (h : AsF w w' P q q') {b : Nat} {cs : Array Value} {T : Nat} (hb : Bq w P q b cs T) : Bq w' P q' b cs T := by
 refine ⟨hb.1.exq h.1 fun e => ?_, hb.2.1, fun e => ?_⟩
 ·rcases e with e | e
  ·exact hb.2.1 e
  ·exact hb.2.2 e
 ·rcases h.2 b e.symm with e1 | e1
  ·exact hb.2.2 e1.symm
  ·have := hb.1.lt; omega
theorem Bq.new {E : Nat → Prop} {w : World} {N P T n : Nat} {q : Value} {cs : List Pc} (h : AsK E w N P T n q cs) (cs' : Array Value) (T' : Nat) : Bq (w.alloc (.cells cs' T')) P q w.heap.size cs' T' :=
 ⟨Blk.new _ _ _, by have := h.box.lt; omega, fun e => by have := (h.own.lt _ e.symm).2; omega⟩
theorem Bq.later {w w' : World} {P : Nat} {q : Value} {b : Nat} {cs : Array Value} {T : Nat} (h : Bq w P q b cs T) (hb : Below w.heap.size w w') : Bq w' P q b cs T := ⟨h.1.below hb h.1.lt, h.2⟩
theorem AsK.store {w w3 : World} {E : Nat → Prop} {N P T m R T' : Nat} {q q' x0 x1 : Value} {cs : List Pc} (h : AsK (fun b => E b ∨ b = R) w3 N P T m q' cs) (hf : AsF w w3 P q q') (hR : Bq w3 P q' R #[x0, x1] T') (hw : w.heap.size ≤ R) (u0 u1 : Value) {a : Option Addr} {l : List Tm} (hs : Sl w3 (Zq (fun b => E b ∨ b = R) N P q') a l) :
  AsK E ((w3.setCell ⟨R, 0, none⟩ u0).setCell ⟨R, 1, none⟩ u1) N P T m q' cs ∧ AsF w ((w3.setCell ⟨R, 0, none⟩ u0).setCell ⟨R, 1, none⟩ u1) P q q' ∧ Blk ((w3.setCell ⟨R, 0, none⟩ u0).setCell ⟨R, 1, none⟩ u1) R #[u0, u1] T' ∧ Sl ((w3.setCell ⟨R, 0, none⟩ u0).setCell ⟨R, 1, none⟩ u1) (Zq E N P q') a l := by
 have he : ExQ (fun b => b = R) w3 ((w3.setCell ⟨R, 0, none⟩ u0).setCell ⟨R, 1, none⟩ u1) := ((ExQ.refl (fun b => b = R) w3).set (B := R) rfl 0 u0).set (B := R) rfl 1 u1
 have hsl : ∀ (a : Option Addr) (l : List Tm), Sl w3 (Zq (fun b => E b ∨ b = R) N P q') a l → Sl ((w3.setCell ⟨R, 0, none⟩ u0).setCell ⟨R, 1, none⟩ u1) (Zq E N P q') a l := fun a l h1 =>
  (h1.exq he fun b hb e => hb.2.2.2 (Or.inr e)).mono fun b hb _ => ⟨hb.1, hb.2.1, hb.2.2.1, fun e => hb.2.2.2 (Or.inl e)⟩
 refine ⟨⟨h.box.exq he (fun e => hR.2.1 e.symm), ownsRow_at h.own fun g hg => he.block g (h.own.lt g hg).2 (fun e => hR.2.2 (by rw [hg, e])), fun x hx => ⟨hsl _ _ (h.row x hx).1, hsl _ _ (h.row x hx).2⟩, h.ne, Nat.le_trans h.le he.size, h.ge⟩, ⟨(hf.1.setNew hw 0 u0).setNew hw 1 u1, hf.2⟩, (hR.1.set 0 u0).set 1 u1, hsl _ _ hs⟩
theorem slM_one {w : World} {X : Nat → Prop} {B : Nat} {a : Option Addr} {p : Lm} (h : SlM w X a [p]) (hX : ∀ x, X x → x < B) :
  ∃ b' o' a1 c1, a = some ⟨b', o', none⟩ ∧ ∀ w', Below B w w' → (w'.cell? ⟨b', o', none⟩ = some (.int .i64 p.kind) ∧ w'.cell? ⟨b', o' + 1, none⟩ = some (.int .i64 p.idx) ∧ w'.cell? ⟨b', o' + 2, none⟩ = some (.slice a1 p.subs.length c1)) ∧ MV w' X (.agg #[.int .i64 p.kind, .int .i64 p.idx, .slice a1 p.subs.length c1]) p := by
 obtain ⟨_, h | ⟨b', o', rfl, hl⟩⟩ := h
 ·simp at h
 obtain ⟨hx, d0, d1, a1, c1, d2, hs1⟩ := liesM_get _ _ _ hl 0 (by simp)
 refine ⟨b', o', a1, c1, rfl, fun w' hb => ⟨?_, ⟨a1, c1, rfl, hs1.below hb fun x hx _ => hX x hx⟩⟩⟩
 have e : ∀ o, w'.cell? ⟨b', o, none⟩ = w.cell? ⟨b', o, none⟩ := fun o => World.cell?_of_block (hb.block b' (hX _ hx))
 rw [e, e, e]
 exact ⟨by simpa using d0, by simpa using d1, by simpa using d2⟩
theorem slM_two {w : World} {X : Nat → Prop} {B : Nat} {a : Option Addr} {p r : Lm} (h : SlM w X a [p, r]) (hX : ∀ x, X x → x < B) :
  ∃ b' o' a1 c1 a2 c2, a = some ⟨b', o', none⟩ ∧ ∀ w', Below B w w' → ((w'.cell? ⟨b', o', none⟩ = some (.int .i64 p.kind) ∧ w'.cell? ⟨b', o' + 1, none⟩ = some (.int .i64 p.idx) ∧ w'.cell? ⟨b', o' + 2, none⟩ = some (.slice a1 p.subs.length c1)) ∧ w'.cell? ⟨b', o' + 3, none⟩ = some (.int .i64 r.kind) ∧ w'.cell? ⟨b', o' + 3 + 1, none⟩ = some (.int .i64 r.idx) ∧ w'.cell? ⟨b', o' + 3 + 2, none⟩ = some (.slice a2 r.subs.length c2)) ∧ MV w' X (.agg #[.int .i64 p.kind, .int .i64 p.idx, .slice a1 p.subs.length c1]) p ∧ MV w' X (.agg #[.int .i64 r.kind, .int .i64 r.idx, .slice a2 r.subs.length c2]) r := by
 obtain ⟨_, h | ⟨b', o', rfl, hl⟩⟩ := h
 ·simp at h
 obtain ⟨hx, d0, d1, a1, c1, d2, hs1⟩ := liesM_get _ _ _ hl 0 (by simp)
 obtain ⟨_, d3, d4, a2, c2, d5, hs2⟩ := liesM_get _ _ _ hl 1 (by simp)
 refine ⟨b', o', a1, c1, a2, c2, rfl, fun w' hb => ⟨?_, ⟨a1, c1, rfl, hs1.below hb fun x hx _ => hX x hx⟩, ⟨a2, c2, rfl, hs2.below hb fun x hx _ => hX x hx⟩⟩⟩
 have e : ∀ o, w'.cell? ⟨b', o, none⟩ = w.cell? ⟨b', o, none⟩ := fun o => World.cell?_of_block (hb.block b' (hX _ hx))
 rw [e, e, e, e, e, e]
 exact ⟨⟨by simpa using d0, by simpa using d1, by simpa using d2⟩, by simpa using d3, by simpa using d4, by simpa using d5⟩
theorem cells_two {w : World} {A T : Nat} {c0 c1 : Value} (h : Blk w A #[c0, c1] T) : ∀ j u, [c0, c1][j]? = some u → w.cell? ((⟨A, 0, none⟩ : Addr).add j) = some u := World.news_of_block (cs := #[c0, c1]) h
theorem sl_owned {w w' : World} {Z Y : Nat → Prop} {base : Nat} {g n cap : Nat} {l : List Tm} {xs : List Value} (ho : w'.ownsRow base 48 2 (.slice (some ⟨g, 0, none⟩) n cap) n xs) (hn : 0 < n) (hr : RowT w Z l xs) (hs : ∀ a k, Sl w Z a k → Sl w' Y a k) (hg : Y g) (hl : l.length ≤ 1000000) : Sl w' Y (some ⟨g, 0, none⟩) l := by
 obtain ⟨g', cap', e, _, _, hc⟩ := owned_val ho hn
 cases e
 exact ⟨by omega, Or.inr ⟨g, 0, rfl, lies_of_rowT g hg l xs 0 hr hs (fun j u hj => by simpa using hc j u hj)⟩⟩
theorem ar_app {w : World} {N A T : Nat} {Z : Nat → Prop} {au : Option Addr} {ar : List Tm} {s : ByteArray} (hs : Sl w Z au ar) (hl : ar.length ≤ 100000) (hA : Blk w A #[.string s, .slice none 0 0] T) :
  ∃ g cap w', (Builtin.append_ #[46, 46] 46 #[.slice au ar.length ar.length, .slice (some ⟨A, 0, none⟩) 1 1]).run Tryz.prog w = .ok (.slice (some ⟨g, 0, none⟩) (ar.length + 1) cap) w' ∧
   Sl w' (fun b => Z b ∨ b = g) (some ⟨g, 0, none⟩) (ar ++ [⟨s, []⟩]) ∧ Below w.heap.size w w' ∧ w.heap.size ≤ g ∧ ar.length + 1 ≤ cap := by
 obtain ⟨i0, hi, hz0, hz1, hz2⟩ := info_parts Tryz.infoTerm
 have fin : ∀ (v' : Value) (w' : World) (xs : List Value), w'.ownsRow w.heap.size 48 2 v' (ar.length + 1) (xs ++ [.string s, .slice none 0 0]) → w.grownBy w' none → RowT w Z ar xs →
   ∃ g cap, v' = .slice (some ⟨g, 0, none⟩) (ar.length + 1) cap ∧ Sl w' (fun b => Z b ∨ b = g) (some ⟨g, 0, none⟩) (ar ++ [⟨s, []⟩]) ∧ Below w.heap.size w w' ∧ w.heap.size ≤ g ∧ ar.length + 1 ≤ cap := by
  intro v' w' xs ho hg hr
  obtain ⟨g, cap, rfl, hg1, _, _⟩ := owned_val ho (by omega)
  have hb : Below w.heap.size w w' := (Below.refl _ _).grown hg (Nat.le_refl _) (fun k hk => by cases hk)
  have hcap : ar.length + 1 ≤ cap := by
   rcases ho.2 with ⟨_, h0⟩ | ⟨g1, cap1, cur, e, _, _, h1, _⟩
   ·omega
   ·cases e; exact h1
  refine ⟨g, cap, rfl, sl_owned (Y := fun b => Z b ∨ b = g) ho (by omega) (l := ar ++ [⟨s, []⟩]) (RowT.append hr ⟨none, 0, [], rfl, ⟨by simp, Or.inl rfl⟩, rfl⟩) (fun a k h => (h.later hb).mono fun b h _ => Or.inl h) (Or.inr rfl) (by simp; omega), hb, hg1, hcap⟩
 rcases hs with ⟨hml, rfl | ⟨b, o, rfl, hl2⟩⟩
 ·cases au with
  | none =>
   obtain ⟨g, cap, w', hr, ho, hg, _, _⟩ := run_append_lies (P := Tryz.prog) (w := w) 46 46 w.heap.size 48 i0 _ 2 40 Tryz.underlying46 hi hz0 hz1 hz2 rfl (by decide) (.slice none 0 0) 0 [] (World.ownsRow_nil _ _ _ _) ⟨A, 0, none⟩ 1 1 [.string s, .slice none 0 0] rfl (cells_two hA) (fun x hx => by simp at hx; rcases hx with rfl | rfl <;> rfl) (by decide) (by unfold maxLen; omega) (by omega) (Nat.le_refl _) _ rfl
   obtain ⟨g2, cap2, e, h1, h2, h3, h4⟩ := fin _ w' [] (by simpa using ho) (by simpa [Value.ownBlock] using hg) rfl
   simp only [List.length_nil] at e h4 ⊢
   rw [e] at hr
   exact ⟨g2, cap2, w', by simpa using hr, h1, h2, h3, h4⟩
  | some ad =>
   obtain ⟨v', w', hr, ho, hg⟩ := run_append_arg_grows (P := Tryz.prog) (w := w) 46 46 48 i0 _ 2 40 Tryz.underlying46 hi hz0 hz1 hz2 rfl (by decide) ad 0 0 [] rfl (by simp) ⟨A, 0, none⟩ 1 1 [.string s, .slice none 0 0] rfl (cells_two hA) (by omega) (by unfold maxLen; omega) (by omega)
   obtain ⟨g2, cap2, e, h1, h2, h3, h4⟩ := fin v' w' [] (by simpa using ho) hg rfl
   simp only [List.length_nil] at e h4 ⊢
   rw [e] at hr
   exact ⟨g2, cap2, w', by simpa using hr, h1, h2, h3, h4⟩
 ·obtain ⟨xs, hr0, hc⟩ := rowT_of_lies ar b o hl2
  obtain ⟨v', w', hr, ho, hg⟩ := run_append_arg_grows (P := Tryz.prog) (w := w) 46 46 48 i0 _ 2 40 Tryz.underlying46 hi hz0 hz1 hz2 rfl (by decide) ⟨b, o, none⟩ ar.length ar.length xs hr0.len (fun j u hj => by
   have := hc j u hj
   by_cases h0 : j = 0
   ·subst h0; simpa [Addr.add] using this
   ·simpa [Addr.add, h0] using this) ⟨A, 0, none⟩ 1 1 [.string s, .slice none 0 0] rfl (cells_two hA) (by omega) (by unfold maxLen; omega) (by omega)
  obtain ⟨g2, cap2, e, h1, h2, h3, h4⟩ := fin v' w' xs ho hg hr0
  rw [e] at hr
  exact ⟨g2, cap2, w', hr, h1, h2, h3, h4⟩
open Go.RowKit Go.Shelf
theorem RowT.put {w : World} {X : Nat → Prop} {y : Tm} {a : Option Addr} {c : Nat} (hy : Sl w X a y.args) : ∀ {l : List Tm} {xs : List Value} (k : Nat), RowT w X l xs → k < l.length → RowT w X (l.set k y) ((xs.set (k * 2) (.string y.name)).set (k * 2 + 1) (.slice a y.args.length c))
 | [], xs, k, h, hk => by simp at hk
 | t :: l, xs, 0, h, _ => by
  obtain ⟨a', c', r, rfl, h1, h2⟩ := h
  exact ⟨a, c, r, by simp, hy, h2⟩
 | t :: l, xs, k + 1, h, hk => by
  obtain ⟨a', c', r, rfl, h1, h2⟩ := h
  refine ⟨a', c', (r.set (k * 2) (.string y.name)).set (k * 2 + 1) (.slice a y.args.length c), ?_, h1, RowT.put hy k h2 (by simpa using hk)⟩
  have e : (k + 1) * 2 = k * 2 + 1 + 1 := by omega
  rw [e]
  simp
theorem Bld.alloc {w : World} {B b : Nat} {bs : List Value} {v : Value} (h : Bld w B b bs v) (o : Obj) : Bld (w.alloc o) B b bs v := by
 obtain ⟨hB, ⟨p, hp, hb⟩, hown⟩ := h
 exact ⟨hB, ⟨p, hp, by rw [Below.heap_alloc _ _ _ (bd_lt hb)]; exact hb⟩, hown.alloc o⟩
theorem Bld.lt {w : World} {B b : Nat} {bs : List Value} {v : Value} (h : Bld w B b bs v) : b < w.heap.size := by
 obtain ⟨_, ⟨p, _, hb⟩, _⟩ := h
 exact bd_lt hb
theorem Bld.old {w : World} {B b : Nat} {bs : List Value} {v : Value} (h : Bld w B b bs v) {x : Nat} (hx : x < B) : x ≠ b ∧ some x ≠ v.ownBlock := by
 refine ⟨by have := h.1; omega, fun e => ?_⟩
 have := (h.2.2.lt x e.symm).1; omega
def bytesV (l : List UInt8) : List Value := l.map fun b => Value.int .u8 b.toNat
theorem bytesV_len (l : List UInt8) : (bytesV l).length = l.length := by simp [bytesV]
theorem bytesV_one (pre : List UInt8) (c : UInt8) : bytesV pre ++ [.int .u8 c.toNat] = bytesV (pre ++ [c]) := by simp [bytesV]
theorem Bld.box {w : World} {B b : Nat} {bs : List Value} {v : Value} (h : Bld w B b bs v) : w.heap.size ≠ b ∧ some w.heap.size ≠ v.ownBlock := by
 refine ⟨by have := h.lt; omega, fun e => ?_⟩
 have := (h.2.2.lt _ e.symm).2; omega
theorem Sl.grown {w w' : World} {X : Nat → Prop} {a : Option Addr} {l : List Tm} {r : Option Nat} (h : Sl w X a l) (hg : w.grownBy w' r) (hX : ∀ b, X b → some b ≠ r) : Sl w' X a l := by
 have h1 : Sl w (fun b => X b ∧ b < w.heap.size) a l := h.mono fun b h1 h2 => ⟨h1, h2⟩
 have h2 : Sl w' (fun b => X b ∧ b < w.heap.size) a l := h1.kept fun b hx => hg.block b hx.2 (hX b hx.1)
 exact h2.mono fun b hx _ => hx.1
theorem NamesAt.lv {w0 w1 : World} {B : Nat} {q0 q1 : Value} {acc1 : List ByteArray} (h : NamesAt w0 B q0 acc1 q1 w1) : LV Value.string w1 (fun b => B ≤ b) q1 acc1 := LV.of_own h.1
theorem NamesAt.refl {w : World} {B : Nat} {q : Value} {acc : List ByteArray} (h : w.ownsRow B 9 1 q acc.length (acc.map Value.string)) : NamesAt w B q acc q w :=
 ⟨h, grown_of_below (Below.refl _ _) _, fun _ h => Or.inl h⟩
theorem bytes_cells (l : List UInt8) : bytesV l = Lib.byteCells l := rfl
def txK (x : Int) (l : List Ty) (ts : List (List UInt8)) : List UInt8 := match l, ts with
 | [a, b], [p, q] => (if a.subs.length = 0 then p else 40 :: p ++ [41]) ++ 62 :: q
 | _, _ => 97 :: Lib.decDigits x.toNat
def txYL : List Ty → List (List UInt8)
 | [] => []
 | ⟨x, l⟩ :: r => txK x l (txYL l) :: txYL r
def txY (t : Ty) : List UInt8 := txK t.base t.subs (txYL t.subs)
theorem txYL_cons (t : Ty) (r : List Ty) : txYL (t :: r) = txY t :: txYL r := by
 obtain ⟨x, l⟩ := t
 simp only [txYL, txY]
theorem txY_base (x : Int) : txY ⟨x, []⟩ = 97 :: Lib.decDigits x.toNat := by simp [txY, txK]
theorem txY_arrow (x : Int) (a b : Ty) : txY ⟨x, [a, b]⟩ = (if a.subs.length = 0 then txY a else 40 :: txY a ++ [41]) ++ 62 :: txY b := by
 unfold txY
 simp only [txYL_cons, txYL, txK]
 rfl
theorem txY_len (t : Ty) : errY [t] = 0 → (txY t).length ≤ 1001 * sizeY [t] := by
 induction t using Ty.ind with
 | h x l ih =>
  intro he
  rcases ty_look he with ⟨rfl, h1, h2⟩ | ⟨rfl, a, b, rfl, ha, hb⟩
  ·rw [txY_base]
   have := dec_len x.toNat
   simp [sizeY]
   omega
  ·rw [txY_arrow]
   have i1 := ih a (by simp) ha
   have i2 := ih b (by simp) hb
   have e : sizeY [(⟨0, [a, b]⟩ : Ty)] = 1 + (sizeY [a] + sizeY [b]) := by
    have := sizeY_append [a] [b]
    simp only [List.cons_append, List.nil_append] at this
    simp only [sizeY, this]
    omega
   rw [e]
   split <;> simp <;> omega
theorem Bld.later {w w' : World} {B b : Nat} {bs : List Value} {v : Value} (h : Bld w B b bs v) (hb : Below w.heap.size w w') : Bld w' B b bs v := by
 have hlt := h.lt
 obtain ⟨hB, ⟨p, hp, hbk⟩, hown⟩ := h
 exact ⟨hB, ⟨p, hp, by rw [hb.block b hlt]; exact hbk⟩, hown.kept (row := some w.heap.size) ⟨hb.os, hb.tape, hb.output, hb.size, fun k hk _ => hb.block k hk⟩ (Or.inr fun e => by have := (hown.lt _ e).2; omega)⟩
theorem Bld.fr {w w' : World} {B b : Nat} {bs : List Value} {v v' : Value} (h : Bld w B b bs v) (hf : BFr w w' b v v') (hB : B ≤ w.heap.size) : Below B w w' := by
 obtain ⟨f1, f2, f3, f4, f5, f6⟩ := hf
 refine ⟨f1, f2, f3, f4, fun k hk => f5 k (by omega) (by have := h.1; omega) (fun e => ?_)⟩
 have := (h.2.2.lt _ e.symm).1
 omega
def WrY (w : World) (B b : Nat) (q0 : Value) (cs : Array Value) (pre : List UInt8) (q : Value) (w' : World) : Prop :=
 Bld w' B b (bytesV pre) q ∧ BFr w w' b q0 q ∧ Blk w' w.heap.size cs 30 ∧ w.heap.size ≠ b ∧ some w.heap.size ≠ q.ownBlock ∧ Below B w w'
theorem WrY.step {w : World} {B b : Nat} {q0 : Value} {cs : Array Value} {pre pre' : List UInt8} {q q' : Value} {w1 w2 : World} (h : WrY w B b q0 cs pre q w1) (hB : B ≤ w.heap.size) (hb : Bld w2 B b (bytesV pre') q') (hf : BFr w1 w2 b q q') : WrY w B b q0 cs pre' q' w2 := by
 obtain ⟨h1, h2, h3, h4, h5, h6⟩ := h
 refine ⟨hb, h2.trans hf, blk_bfr h3 hf h4 h5, h4, own_bfr hf h3.lt h5, h6.trans (h1.fr hf (Nat.le_trans hB h6.size))⟩
theorem WrY.later {w : World} {B b : Nat} {q0 : Value} {cs : Array Value} {pre : List UInt8} {q : Value} {w1 w2 : World} (h : WrY w B b q0 cs pre q w1) (hB : B ≤ w.heap.size) (hb : Below w1.heap.size w1 w2) : WrY w B b q0 cs pre q w2 :=
 h.step hB (h.1.later hb) (BFr.of_below hb b q)
theorem WrY.start {w : World} {B b : Nat} {q0 : Value} {pre : List UInt8} (h : Bld w B b (bytesV pre) q0) (hB : B ≤ w.heap.size) (cs : Array Value) : WrY w B b q0 cs pre q0 (w.alloc (.cells cs 30)) :=
 ⟨h.alloc _, BFr.of_below ((Below.refl _ _).alloc (Nat.le_refl _) _) b q0, Blk.new _ _ _, h.box.1, h.box.2, (Below.refl _ _).alloc hB _⟩
theorem ba_app (a b : List UInt8) : (⟨a.toArray⟩ ++ ⟨b.toArray⟩ : ByteArray) = ⟨(a ++ b).toArray⟩ := by
 apply ByteArray.ext
 simp
theorem by_str (pre : List UInt8) (s : List UInt8) : bytesV pre ++ Lib.strCells ⟨s.toArray⟩ = bytesV (pre ++ s) := by simp [bytesV, Lib.strCells]
theorem slY_two {w : World} {X : Nat → Prop} {B : Nat} {a : Option Addr} {p r : Ty} (h : SlY w X a [p, r]) (hX : ∀ x, X x → x < B) :
  ∃ b' o' a1 c1 a2 c2, a = some ⟨b', o', none⟩ ∧ ∀ w', Below B w w' → (w'.cell? ⟨b', o', none⟩ = some (.int .i64 p.base) ∧ w'.cell? ⟨b', o' + 1, none⟩ = some (.slice a1 p.subs.length c1) ∧ w'.cell? ⟨b', o' + 2, none⟩ = some (.int .i64 r.base) ∧ w'.cell? ⟨b', o' + 2 + 1, none⟩ = some (.slice a2 r.subs.length c2)) ∧ YV w' X (.agg #[.int .i64 p.base, .slice a1 p.subs.length c1]) p ∧ YV w' X (.agg #[.int .i64 r.base, .slice a2 r.subs.length c2]) r := by
 obtain ⟨_, h | ⟨b', o', rfl, hl⟩⟩ := h
 ·simp at h
 obtain ⟨hx, d0, a1, c1, d1, hs1⟩ := liesY_get _ _ _ hl 0 (by simp)
 obtain ⟨_, d2, a2, c2, d3, hs2⟩ := liesY_get _ _ _ hl 1 (by simp)
 refine ⟨b', o', a1, c1, a2, c2, rfl, fun w' hb => ⟨?_, ⟨a1, c1, rfl, hs1.below hb fun x hx _ => hX x hx⟩, ⟨a2, c2, rfl, hs2.below hb fun x hx _ => hX x hx⟩⟩⟩
 have e : ∀ o, w'.cell? ⟨b', o, none⟩ = w.cell? ⟨b', o, none⟩ := fun o => World.cell?_of_block (hb.block b' (hX _ hx))
 rw [e, e, e, e]
 exact ⟨by simpa using d0, by simpa using d1, by simpa using d2, by simpa using d3⟩
set_option maxHeartbeats 4000000 in
theorem tyWrite_any (t : Ty) : ∀ (v q0 : Value) (pre : List UInt8) (B b : Nat) (w : World) (X : Nat → Prop), errY [t] = 0 → YV w X v t → (∀ x, X x → x < B) → Bld w B b (bytesV pre) q0 → Tb B w → B ≤ w.heap.size → pre.length + (txY t).length ≤ 900000000 →
  Calls Tryz.prog 57 #[.pointer (some ⟨b, 0, none⟩), v] w fun e w' => e = .returned (.tuple #[]) ∧ ∃ q, Bld w' B b (bytesV (pre ++ txY t)) q ∧ BFr w w' b q0 q := by
 induction t using Ty.ind with
 | h x l ih =>
  intro v q0 pre B b w X he hv hX hbd hT hB hsm
  have IH := hide ih
  clear ih
  obtain ⟨a, c, rfl, hs⟩ := hv
  have HT := hide hT
  have HE := hide he
  rcases ty_look he with ⟨rfl, h1, h2⟩ | ⟨rfl, p, r, rfl, hp, hr⟩
  ·clear he hT
   have W1 := hide (WrY.start hbd hB #[.int .i64 x, .slice a ([] : List Ty).length c])
   obtain ⟨n, rfl⟩ : ∃ n : Nat, x = (n : Int) := ⟨x.toNat, by omega⟩
   have HX := hide (txY_base (n : Int))
   have HN : Hid (n ≤ 999) := by unfold Hid; omega
   rw [HX.out] at hsm
   clear hbd h1 h2
   simp only [List.length_nil] at *
   go_enter Tryz.func57, Tryz.ntmps57
   go_upto_region 2 with fail
   generalize w.alloc (.cells #[.int .i64 (n : Int), .slice a 0 c] 30) = w1 at *
   have hsz1 : B ≤ w1.heap.size := Nat.le_trans hB W1.out.2.2.2.2.2.size
   go_wp2_with fail
   refine (writeByte_any B b _ q0 97 _ (by exact W1.out.1) (by rw [bytesV_len]; omega) hsz1).mono ?_
   rintro e w2 ⟨rfl, q2, hbd2, hfr2⟩
   have W2 := hide (W1.out.step hB (pre' := pre ++ [97]) (by rw [← bytesV_one]; exact hbd2) hfr2)
   have x0 := W2.out.2.2.1.c0
   clear hbd2 hfr2
   go_wp2_with fail
   refine (itoa_any n B (by have := HN.out; omega) _ (HT.out.on W2.out.2.2.2.2.2)).mono ?_
   rintro e w3 ⟨rfl, hb3⟩
   have W3 := hide (W2.out.later hB hb3)
   have hsz3 : B ≤ w3.heap.size := Nat.le_trans hB W3.out.2.2.2.2.2.size
   clear hb3 x0
   go_wp2_with fail
   refine (writeString_any B b _ q2 _ _ (by exact W3.out.1) (by rw [bytesV_len]; have e : (⟨(Lib.decDigits n).toArray⟩ : ByteArray).size = (Lib.decDigits n).length := (by simp [ByteArray.size]); rw [e]; simp at hsm ⊢; omega) hsz3).mono ?_
   rintro e w4 ⟨rfl, q4, hbd4, hfr4⟩
   have W4 := hide (W3.out.step hB (pre' := pre ++ [97] ++ Lib.decDigits n) (by rw [← by_str]; exact hbd4) hfr4)
   clear hbd4 hfr4
   go_wp2_with fail
   refine bodyPost_ret (v := .tuple #[]) (by simp [results, Tryz.results57, go_sem]) rfl ?_
   refine ⟨rfl, q4, ?_, W4.out.2.1⟩
   rw [HX.out]
   have := W4.out.1
   simpa using this
  ·clear he hT
   obtain ⟨b', o', a1, c1, a2, c2, rfl, hKP⟩ := slY_two hs hX
   have KP := hide hKP
   have IP := hide (fun v q0 pre w' h1 h2 h3 h4 h5 => IH.out p (by simp) v q0 pre B b w' X hp h1 hX h2 h3 h4 h5)
   have IR := hide (fun v q0 pre w' h1 h2 h3 h4 h5 => IH.out r (by simp) v q0 pre B b w' X hr h1 hX h2 h3 h4 h5)
   have W1 := hide (WrY.start hbd hB #[.int .i64 0, .slice (some ⟨b', o', none⟩) ([p, r] : List Ty).length c])
   have e2 : ([p, r] : List Ty).length = 2 := rfl
   rw [e2] at *
   clear hbd hKP hs e2 IH HE
   by_cases hz : p.subs.length = 0
   ·have HX : Hid (txY ⟨0, [p, r]⟩ = txY p ++ 62 :: txY r) := by unfold Hid; rw [txY_arrow, if_pos hz]
    rw [HX.out] at hsm
    have hlen := hsm
    have hz2 : ((p.subs.length : Int) == 0) = true := by simp [hz]
    clear hsm hz
    go_enter Tryz.func57, Tryz.ntmps57
    go_upto_region 1 with fail
    generalize w.alloc (.cells #[.int .i64 0, .slice (some ⟨b', o', none⟩) 2 c] 30) = w1 at *
    have x1 := W1.out.2.2.1.c1
    obtain ⟨⟨y0, y1, y2, y3⟩, hyp, hyr⟩ := KP.out _ W1.out.2.2.2.2.2
    have HYP := hide hyp
    have HYR := hide hyr
    have hsz1 : B ≤ w1.heap.size := Nat.le_trans hB W1.out.2.2.2.2.2.size
    clear hyp hyr
    go_wp2_with fail
    refine (IP.out _ q0 _ _ HYP.out W1.out.1 (HT.out.on W1.out.2.2.2.2.2) hsz1 (by simp at hlen ⊢; omega)).mono ?_
    rintro e w2 ⟨rfl, q2, hbd, hfr⟩
    have W2 := hide (W1.out.step hB (pre' := pre ++ txY p) hbd hfr)
    clear hbd hfr
    clear x1 y0 y1 y2 y3 HYP HYR
    have x1 := W2.out.2.2.1.c1
    obtain ⟨⟨y0, y1, y2, y3⟩, hyp, hyr⟩ := KP.out _ W2.out.2.2.2.2.2
    have HYP := hide hyp
    have HYR := hide hyr
    have hsz2 : B ≤ w2.heap.size := Nat.le_trans hB W2.out.2.2.2.2.2.size
    clear hyp hyr
    go_wp2_with fail
    refine (writeByte_any B b _ q2 62 _ (by exact W2.out.1) (by rw [bytesV_len]; simp at hlen ⊢; omega) hsz2).mono ?_
    rintro e w3 ⟨rfl, q3, hbd, hfr⟩
    have W3 := hide (W2.out.step hB (pre' := pre ++ txY p ++ [62]) (by rw [← bytesV_one]; exact hbd) hfr)
    clear hbd hfr
    clear x1 y0 y1 y2 y3 HYP HYR
    have x1 := W3.out.2.2.1.c1
    obtain ⟨⟨y0, y1, y2, y3⟩, hyp, hyr⟩ := KP.out _ W3.out.2.2.2.2.2
    have HYP := hide hyp
    have HYR := hide hyr
    have hsz3 : B ≤ w3.heap.size := Nat.le_trans hB W3.out.2.2.2.2.2.size
    clear hyp hyr
    go_wp2_with fail
    refine (IR.out _ q3 _ _ HYR.out W3.out.1 (HT.out.on W3.out.2.2.2.2.2) hsz3 (by simp at hlen ⊢; omega)).mono ?_
    rintro e w4 ⟨rfl, q4, hbd, hfr⟩
    have W4 := hide (W3.out.step hB (pre' := (pre ++ txY p ++ [62]) ++ txY r) hbd hfr)
    clear hbd hfr
    clear x1 y0 y1 y2 y3 HYP HYR
    go_wp2_with fail
    go_end0
    refine ⟨rfl, q4, ?_, W4.out.2.1⟩
    rw [HX.out]
    have := W4.out.1
    simpa using this
   ·have HX : Hid (txY ⟨0, [p, r]⟩ = 40 :: txY p ++ [41] ++ 62 :: txY r) := by unfold Hid; rw [txY_arrow, if_neg hz]
    rw [HX.out] at hsm
    have hlen := hsm
    have hz2 : ((p.subs.length : Int) == 0) = false := by simp; exact fun h => hz (by simp [h])
    clear hsm hz
    go_enter Tryz.func57, Tryz.ntmps57
    go_upto_region 1 with fail
    generalize w.alloc (.cells #[.int .i64 0, .slice (some ⟨b', o', none⟩) 2 c] 30) = w1 at *
    have x1 := W1.out.2.2.1.c1
    obtain ⟨⟨y0, y1, y2, y3⟩, hyp, hyr⟩ := KP.out _ W1.out.2.2.2.2.2
    have HYP := hide hyp
    have HYR := hide hyr
    have hsz1 : B ≤ w1.heap.size := Nat.le_trans hB W1.out.2.2.2.2.2.size
    clear hyp hyr
    go_wp2_with fail
    refine (writeByte_any B b _ q0 40 _ (by exact W1.out.1) (by rw [bytesV_len]; simp at hlen ⊢; omega) hsz1).mono ?_
    rintro e w2 ⟨rfl, q2, hbd, hfr⟩
    have W2 := hide (W1.out.step hB (pre' := pre ++ [40]) (by rw [← bytesV_one]; exact hbd) hfr)
    clear hbd hfr
    clear x1 y0 y1 y2 y3 HYP HYR
    have x1 := W2.out.2.2.1.c1
    obtain ⟨⟨y0, y1, y2, y3⟩, hyp, hyr⟩ := KP.out _ W2.out.2.2.2.2.2
    have HYP := hide hyp
    have HYR := hide hyr
    have hsz2 : B ≤ w2.heap.size := Nat.le_trans hB W2.out.2.2.2.2.2.size
    clear hyp hyr
    go_wp2_with fail
    refine (IP.out _ q2 _ _ HYP.out W2.out.1 (HT.out.on W2.out.2.2.2.2.2) hsz2 (by simp at hlen ⊢; omega)).mono ?_
    rintro e w3 ⟨rfl, q3, hbd, hfr⟩
    have W3 := hide (W2.out.step hB (pre' := (pre ++ [40]) ++ txY p) hbd hfr)
    clear hbd hfr
    clear x1 y0 y1 y2 y3 HYP HYR
    have x1 := W3.out.2.2.1.c1
    obtain ⟨⟨y0, y1, y2, y3⟩, hyp, hyr⟩ := KP.out _ W3.out.2.2.2.2.2
    have HYP := hide hyp
    have HYR := hide hyr
    have hsz3 : B ≤ w3.heap.size := Nat.le_trans hB W3.out.2.2.2.2.2.size
    clear hyp hyr
    go_wp2_with fail
    refine (writeByte_any B b _ q3 41 _ (by exact W3.out.1) (by rw [bytesV_len]; simp at hlen ⊢; omega) hsz3).mono ?_
    rintro e w4 ⟨rfl, q4, hbd, hfr⟩
    have W4 := hide (W3.out.step hB (pre' := (pre ++ [40] ++ txY p) ++ [41]) (by rw [← bytesV_one]; exact hbd) hfr)
    clear hbd hfr
    clear x1 y0 y1 y2 y3 HYP HYR
    have x1 := W4.out.2.2.1.c1
    obtain ⟨⟨y0, y1, y2, y3⟩, hyp, hyr⟩ := KP.out _ W4.out.2.2.2.2.2
    have HYP := hide hyp
    have HYR := hide hyr
    have hsz4 : B ≤ w4.heap.size := Nat.le_trans hB W4.out.2.2.2.2.2.size
    clear hyp hyr
    go_wp2_with fail
    refine (writeByte_any B b _ q4 62 _ (by exact W4.out.1) (by rw [bytesV_len]; simp at hlen ⊢; omega) hsz4).mono ?_
    rintro e w5 ⟨rfl, q5, hbd, hfr⟩
    have W5 := hide (W4.out.step hB (pre' := (pre ++ [40] ++ txY p ++ [41]) ++ [62]) (by rw [← bytesV_one]; exact hbd) hfr)
    clear hbd hfr
    clear x1 y0 y1 y2 y3 HYP HYR
    have x1 := W5.out.2.2.1.c1
    obtain ⟨⟨y0, y1, y2, y3⟩, hyp, hyr⟩ := KP.out _ W5.out.2.2.2.2.2
    have HYP := hide hyp
    have HYR := hide hyr
    have hsz5 : B ≤ w5.heap.size := Nat.le_trans hB W5.out.2.2.2.2.2.size
    clear hyp hyr
    go_wp2_with fail
    refine (IR.out _ q5 _ _ HYR.out W5.out.1 (HT.out.on W5.out.2.2.2.2.2) hsz5 (by simp at hlen ⊢; omega)).mono ?_
    rintro e w6 ⟨rfl, q6, hbd, hfr⟩
    have W6 := hide (W5.out.step hB (pre' := (pre ++ [40] ++ txY p ++ [41] ++ [62]) ++ txY r) hbd hfr)
    clear hbd hfr
    clear x1 y0 y1 y2 y3 HYP HYR
    go_wp2_with fail
    go_end0
    refine ⟨rfl, q6, ?_, W6.out.2.1⟩
    rw [HX.out]
    have := W6.out.1
    simpa using this
set_option maxHeartbeats 4000000 in
theorem tyText_any (t : Ty) : ∀ (v : Value) (w : World) (X : Nat → Prop), errY [t] = 0 → sizeY [t] ≤ 100000 → YV w X v t →
  Calls Tryz.prog 20 #[v] w fun e w' => e = .returned (.string ⟨(txY t).toArray⟩) ∧ Below w.heap.size w w' := by
 induction t using Ty.ind with
 | h x l ih =>
  intro v w X he hz hv
  have IH := hide ih
  clear ih
  obtain ⟨a, c, rfl, hs⟩ := hv
  have HL := hide (txY_len _ he)
  rcases ty_look he with ⟨rfl, h1, h2⟩ | ⟨rfl, p, r, rfl, hp, hr⟩
  ·obtain ⟨n, rfl⟩ : ∃ n : Nat, x = (n : Int) := ⟨x.toNat, by omega⟩
   have HX := hide (txY_base (n : Int))
   have HN : Hid (n ≤ 999) := by unfold Hid; omega
   have hdl := dec_len n
   have B1 : Hid (Below w.heap.size w (w.alloc (.cells #[.int .i64 (n : Int), .slice a 0 c] 30))) := (Below.refl _ _).alloc (Nat.le_refl _) _
   simp only [List.length_nil] at *
   clear he h1 h2 hz
   go_enter Tryz.func20, Tryz.ntmps20
   go_wp2_with fail
   refine (dec_any n (by have := HN.out; omega) _).mono ?_
   rintro e w2 ⟨rfl, hb2⟩
   have B2 := hide (B1.out.trans (hb2.mono (by simp)))
   have hdl2 : ¬ 9223372036854775807 < 1 + (Lib.decDigits n).length := by have := HN.out; omega
   have hdl3 : 1 + (Lib.decDigits n).length ≤ 9223372036854775807 := by have := HN.out; omega
   clear hb2 hdl
   go_wp2_with fail
   go_ret
   exact ⟨by rw [HX.out, show (97 :: Lib.decDigits (n : Int).toNat) = [97] ++ Lib.decDigits n from rfl, ← ba_app]; rfl, B2.out⟩
  ·obtain ⟨b', o', a1, c1, a2, c2, rfl, hKP⟩ := slY_two (B := w.heap.size) (X := fun x => X x ∧ x < w.heap.size) (hs.mono fun b h1 h2 => ⟨h1, h2⟩) (fun x h => h.2)
   have KP := hide hKP
   have e : sizeY [(⟨0, [p, r]⟩ : Ty)] = 1 + (sizeY [p] + sizeY [r]) := by
    have := sizeY_append [p] [r]
    simp only [List.cons_append, List.nil_append] at this
    simp only [sizeY, this]
    omega
   rw [e] at hz
   have hlp : (txY p).length ≤ 1001 * 100000 := by have := txY_len _ hp; omega
   have hlr : (txY r).length ≤ 1001 * 100000 := by have := txY_len _ hr; omega
   have IP := hide (fun (v : Value) (w' : World) (h : YV w' (fun x => X x ∧ x < w.heap.size) v p) => IH.out p (by simp) v w' _ hp (by omega) h)
   have IR := hide (fun (v : Value) (w' : World) (h : YV w' (fun x => X x ∧ x < w.heap.size) v r) => IH.out r (by simp) v w' _ hr (by omega) h)
   have HX := hide (txY_arrow 0 p r)
   have e2 : ([p, r] : List Ty).length = 2 := rfl
   have K1 := hide (Blk.new w #[.int .i64 0, .slice (some ⟨b', o', none⟩) 2 c] 30)
   have B1 : Hid (Below w.heap.size w (w.alloc (.cells #[.int .i64 0, .slice (some ⟨b', o', none⟩) 2 c] 30))) := (Below.refl _ _).alloc (Nat.le_refl _) _
   rw [e2]
   clear hKP hs e2 IH he hz e hp hr HL
   go_enter Tryz.func20, Tryz.ntmps20
   go_upto_region 1 with fail
   generalize w.alloc (.cells #[.int .i64 0, .slice (some ⟨b', o', none⟩) 2 c] 30) = w1 at *
   have x1 := K1.out.c1
   obtain ⟨⟨y0, y1, y2, y3⟩, hyp, hyr⟩ := KP.out _ B1.out
   go_wp2_with fail
   refine (IP.out _ _ hyp).mono ?_
   rintro e w2 ⟨rfl, hb2⟩
   have B2 := hide (B1.out.trans (hb2.mono B1.out.size))
   have K2 := hide (K1.out.below hb2 K1.out.lt)
   clear x1 y0 y1 y2 y3 hyp hyr hb2
   have x1 := K2.out.c1
   obtain ⟨⟨y0, y1, y2, y3⟩, hyp, hyr⟩ := KP.out _ B2.out
   have HYR := hide hyr
   have q1 : ¬ 9223372036854775807 < 1 + (txY p).length := by omega
   have q1' : 1 + (txY p).length ≤ 9223372036854775807 := by omega
   have q2 : ¬ 9223372036854775807 < 1 + (txY p).length + 1 := by omega
   have q2' : 1 + (txY p).length + 1 ≤ 9223372036854775807 := by omega
   have q3 : ¬ 9223372036854775807 < (txY p).length + 1 := by omega
   have q3' : (txY p).length + 1 ≤ 9223372036854775807 := by omega
   have q4 : ¬ 9223372036854775807 < 1 + (txY p).length + 1 + 1 := by omega
   have q5 : ¬ 9223372036854775807 < (txY p).length + 1 + (txY r).length := by omega
   have q6 : ¬ 9223372036854775807 < 1 + (txY p).length + 1 + 1 + (txY r).length := by omega
   clear hyp hyr
   by_cases hz : p.subs.length = 0
   ·rw [if_pos hz] at HX
    have hz2 : decide ((0 : Int) < (p.subs.length : Int)) = false := by simp [hz]
    have hz3 : ¬ (0 : Int) < (p.subs.length : Int) := by omega
    clear hz
    go_wp2_with fail
    refine (IR.out _ _ HYR.out).mono ?_
    rintro e w3 ⟨rfl, hb3⟩
    have B3 := hide (B2.out.trans (hb3.mono B2.out.size))
    clear hb3
    go_wp2_with fail
    go_ret
    exact ⟨by rw [HX.out, show txY p ++ 62 :: txY r = (txY p ++ [62]) ++ txY r by simp, ← ba_app, ← ba_app]; rfl, B3.out⟩
   ·rw [if_neg hz] at HX
    have hz2 : decide ((0 : Int) < (p.subs.length : Int)) = true := by simp; omega
    have hz3 : (0 : Int) < (p.subs.length : Int) := by omega
    clear hz
    go_wp2_with fail
    refine (IR.out _ _ HYR.out).mono ?_
    rintro e w3 ⟨rfl, hb3⟩
    have B3 := hide (B2.out.trans (hb3.mono B2.out.size))
    clear hb3
    go_wp2_with fail
    go_ret
    exact ⟨by rw [HX.out, show 40 :: txY p ++ [41] ++ 62 :: txY r = ((([40] ++ txY p) ++ [41]) ++ [62]) ++ txY r by simp, ← ba_app, ← ba_app, ← ba_app, ← ba_app]; rfl, B3.out⟩
theorem run_lenI {P : Program} {w : World} {T kt et : TypeId} {r : Nat} {L : List (ByteArray × Value)} (hm : P.underlying T = some (.map kt et)) (h : MapAt w r L) (ty : TypeId) : (Builtin.len_ #[T] ty #[.map (some r)]).run P w = .ok (.int .i64 (L.length : Int)) w := by
 obtain ⟨es, clk, hb, he, _⟩ := h
 have hl : es.size = L.length := by have := congrArg List.length he; simpa using this
 simp [Builtin.len_, run_underlying hm, MapKept.run_getObj_map hb, goInt, Result.andThen, hl]
def nuS : Nat → List ByteArray → List (ByteArray × Value)
 | _, [] => []
 | k, n :: r => (n, .int .i64 (k : Int)) :: nuS (k + 1) r
theorem nuS_len : ∀ (k : Nat) (ns : List ByteArray), (nuS k ns).length = ns.length
 | _, [] => rfl
 | k, n :: r => by simp [nuS, nuS_len (k + 1) r]
theorem ixB_mem {s : ByteArray} : ∀ {l : List ByteArray}, ixB s l < l.length → s ∈ l
 | [], h => by simp [ixB] at h
 | n :: r, h => by
  rw [ixB] at h
  split at h
  ·rename_i e; simp [e]
  ·exact List.mem_cons_of_mem _ (ixB_mem (by simp at h; omega))
theorem nuS_get (s : ByteArray) : ∀ (k : Nat) (ns : List ByteArray), mapGet (nuS k ns) s = if ixB s ns < ns.length then some (.int .i64 ((k + ixB s ns : Nat) : Int)) else none
 | _, [] => by simp [nuS, mapGet]
 | k, n :: r => by
  have ih := nuS_get s (k + 1) r
  by_cases h : n = s
  ·have e : ixB s (n :: r) = 0 := by simp [ixB, h]
   rw [if_pos (show ixB s (n :: r) < (n :: r).length by rw [e]; simp), e]
   simp [nuS, mapGet, h]
  ·have e : ixB s (n :: r) = ixB s r + 1 := by simp [ixB, h]
   have e2 : mapGet (nuS k (n :: r)) s = mapGet (nuS (k + 1) r) s := by simp [nuS, mapGet, h]
   rw [e2, ih]
   by_cases h2 : ixB s r < r.length
   ·rw [if_pos h2, if_pos (show ixB s (n :: r) < (n :: r).length by rw [e]; simp; omega), e]
    rw [show k + 1 + ixB s r = k + (ixB s r + 1) by omega]
   ·rw [if_neg h2, if_neg (show ¬ ixB s (n :: r) < (n :: r).length by rw [e]; simp; omega)]
theorem nuS_push (s : ByteArray) : ∀ (k : Nat) (ns : List ByteArray), nuS k (ns ++ [s]) = nuS k ns ++ [(s, .int .i64 ((k + ns.length : Nat) : Int))]
 | k, [] => by simp [nuS]
 | k, n :: r => by
  simp only [List.cons_append, nuS, nuS_push s (k + 1) r, List.length_cons]
  rw [show k + 1 + r.length = k + (r.length + 1) by omega]
theorem ay_ext {ns : List ByteArray} (r : List ByteArray) (l : List Tm) : (∀ k ∈ preL l, k.args = [] → k.name ∈ ns) → ayL (ns ++ r) l = ayL ns l := by
 induction l using Tm.indL with
 | h0 => intro _; simp [ayL]
 | h s l q ihl ihr =>
  intro h
  simp only [ayL]
  rw [ihl fun k hk => h k (by simp [preL, hk]), ihr fun k hk => h k (by simp [preL, hk])]
  congr 1
  unfold ayK
  by_cases h0 : l.length = 0
  ·rw [if_pos h0, if_pos h0, ixB_app r (h ⟨s, l⟩ (by simp [preL]) (List.length_eq_zero_iff.1 h0))]
  ·rw [if_neg h0, if_neg h0]
theorem ayT_ext {ns : List ByteArray} (r : List ByteArray) {t : Tm} (h : ∀ k ∈ preL [t], k.args = [] → k.name ∈ ns) : ayT (ns ++ r) t = ayT ns t := by
 have h1 := ay_ext r [t] h
 rw [ayL_cons, ayL_cons, ayL_nil, ayL_nil] at h1
 exact (List.cons.inj h1).1
theorem vars_all (l : List Tm) : KnL l → ∀ ns, ∀ k ∈ preL l, k.args = [] → k.name ∈ varsP ns (preL l) := by
 intro hk ns
 have key : ∀ (ks : List Tm) (acc : List ByteArray), (∀ k ∈ ks, KnQ k.name k.args) → (∀ y ∈ acc, y ∈ varsP acc ks) ∧ ∀ k ∈ ks, k.args = [] → k.name ∈ varsP acc ks := by
  intro ks
  induction ks with
  | nil => intro acc _; exact ⟨fun y hy => by simpa [varsP] using hy, fun k hk => by simp at hk⟩
  | cons x q ih =>
   intro acc hq
   have h1 := ih (addV acc x.name) fun k hk => hq k (by simp [hk])
   rw [show varsP acc (x :: q) = varsP (addV acc x.name) q from rfl]
   refine ⟨fun y hy => h1.1 y (addV_sub hy), fun k hk ha => ?_⟩
   rcases List.mem_cons.1 hk with rfl | hk
   ·rcases hq k (by simp) with ⟨e, _⟩ | ⟨_, e⟩
    ·exact h1.1 _ (vars_mem e)
    ·rw [ha] at e; simp at e
   ·exact h1.2 k hk ha
 exact (key (preL l) ns hk).2
theorem varsP_two (ns : List ByteArray) (a b : Tm) : varsP ns (preL [arT a b]) = varsP (varsP ns (preL [a])) (preL [b]) := by
 have h : varB ⟨#[102]⟩ = false := by decide
 have e : preL [arT a b] = ⟨⟨#[102]⟩, [a, b]⟩ :: (preL [a] ++ preL [b]) := by
  have h1 : preL [a, b] = preL [a] ++ preL [b] := by
   have := preL_append [a] [b]
   simpa using this
  simp only [arT, preL, h1, List.append_nil]
 rw [e, show varsP ns (⟨⟨#[102]⟩, [a, b]⟩ :: (preL [a] ++ preL [b])) = varsP (addV ns ⟨#[102]⟩) (preL [a] ++ preL [b]) from rfl, addV_no h, varsP_append]
theorem varsP_one (ns : List ByteArray) (s : ByteArray) : varsP ns (preL [(⟨s, []⟩ : Tm)]) = addV ns s := by simp [preL, varsP]
theorem ayT_leaf (ns : List ByteArray) (s : ByteArray) : ayT ns ⟨s, []⟩ = ⟨(ixB s ns : Nat), []⟩ := by simp [ayT, ayK]
theorem ayT_ar (ns : List ByteArray) (a b : Tm) : ayT ns (arT a b) = ⟨0, [ayT ns a, ayT ns b]⟩ := by simp [ayT, ayK, arT, ayL_cons, ayL_nil]
theorem kn_look {t : Tm} (h : KnL [t]) : (varB t.name = true ∧ t = ⟨t.name, []⟩) ∨ ∃ a b, t = arT a b ∧ KnL [a] ∧ KnL [b] := by
 obtain ⟨s, l⟩ := t
 obtain ⟨h1, h2⟩ := KnL.one.1 h
 rcases h1 with ⟨e1, e2⟩ | ⟨e1, e2⟩
 ·have e3 : l = [] := e2
  subst e3
  exact Or.inl ⟨e1, rfl⟩
 ·have e3 : s = ⟨#[102]⟩ := e1
  subst e3
  match l, e2, h2 with
  | [a, b], _, h2 =>
   have h3 := KnL.all.1 h2
   exact Or.inr ⟨a, b, rfl, h3 a (by simp), h3 b (by simp)⟩
theorem slT_two {w : World} {X : Nat → Prop} {a : Option Addr} {p r : Tm} (h : Sl w X a [p, r]) :
  ∃ b' o' a1 c1 a2 c2, a = some ⟨b', o', none⟩ ∧ ∀ w' Q, ExQ Q w w' → (∀ b, X b → ¬ Q b) → (w'.cell? ⟨b', o', none⟩ = some (.string p.name) ∧ w'.cell? ⟨b', o' + 1, none⟩ = some (.slice a1 p.args.length c1) ∧ w'.cell? ⟨b', o' + 2, none⟩ = some (.string r.name) ∧ w'.cell? ⟨b', o' + 2 + 1, none⟩ = some (.slice a2 r.args.length c2)) ∧ TV w' X (.agg #[.string p.name, .slice a1 p.args.length c1]) p ∧ TV w' X (.agg #[.string r.name, .slice a2 r.args.length c2]) r := by
 obtain ⟨b1, o1, a1, c1, rfl, d0, d1, ⟨x1, y1, e1, hs1⟩⟩ := h.get (Below.refl w.heap.size w) (fun _ _ h => h) 0 (by simp)
 obtain ⟨b2, o2, a2, c2, e2, d2, d3, ⟨x2, y2, e3, hs2⟩⟩ := h.get (Below.refl w.heap.size w) (fun _ _ h => h) 1 (by simp)
 cases e2
 cases e1
 cases e3
 have hX : X b1 := by
  rcases h.2 with h0 | ⟨b, o, e, hl⟩
  ·simp at h0
  ·cases e
   obtain ⟨s, l⟩ := p
   simp only [Lies] at hl
   exact hl.1
 have hlt : b1 < w.heap.size := by
  apply Classical.byContradiction
  intro hn
  have e : w.heap[b1]? = none := Array.getElem?_eq_none (by omega)
  simp [World.cell?, e] at d0
 refine ⟨b1, o1, a1, c1, a2, c2, rfl, fun w' Q he hQ => ⟨?_, ⟨a1, c1, rfl, hs1.exq he hQ⟩, ⟨a2, c2, rfl, hs2.exq he hQ⟩⟩⟩
 have e : ∀ o, w'.cell? ⟨b1, o, none⟩ = w.cell? ⟨b1, o, none⟩ := fun o => World.cell?_of_block (he.block b1 hlt (hQ b1 hX))
 rw [e, e, e, e]
 exact ⟨by simpa using d0, by simpa using d1, by simpa using d2, by simpa using d3⟩
theorem liesY_two {w : World} {Y : Nat → Prop} {g T c c2 : Nat} {a a2 : Option Addr} {f x : Ty} (hB : Blk w g #[.int .i64 f.base, .slice a f.subs.length c, .int .i64 x.base, .slice a2 x.subs.length c2] T) (hY : Y g) (h1 : SlY w Y a f.subs) (h2 : SlY w Y a2 x.subs) : SlY w Y (some ⟨g, 0, none⟩) [f, x] := by
 obtain ⟨s, l⟩ := f
 obtain ⟨s2, l2⟩ := x
 refine ⟨by simp, Or.inr ⟨g, 0, rfl, ?_⟩⟩
 simp only [LiesY]
 exact ⟨hY, hB.cell 0, ⟨a, c, hB.cell 1, h1⟩, hY, hB.cell 2, ⟨a2, c2, hB.cell 3, h2⟩, trivial⟩
theorem SlY.exq {w w' : World} {Q X : Nat → Prop} {a : Option Addr} {l : List Ty} (h : SlY w X a l) (he : ExQ Q w w') (hX : ∀ b, X b → ¬ Q b) : SlY w' X a l :=
 ((h.mono (Y := fun b => X b ∧ b < w.heap.size) fun b h1 h2 => ⟨h1, h2⟩).kept fun b hb => he.block b hb.2 (hX b hb.1)).mono fun b hb _ => hb.1
theorem MapAt.exq {w w' : World} {Q : Nat → Prop} {r : Nat} {L : List (ByteArray × Value)} (h : MapAt w r L) (he : ExQ Q w w') (hr : ¬ Q r) : MapAt w' r L := h.kept (he.block r h.lt hr)
def NuP (t : Tm) (ns : List ByteArray) (r : Nat) (w : World) (e : Ending) (w' : World) : Prop :=
 ∃ a c, e = .returned (.agg #[.int .i64 (ayT (varsP ns (preL [t])) t).base, .slice a (ayT (varsP ns (preL [t])) t).subs.length c]) ∧ SlY w' (fun b => w.heap.size ≤ b) a (ayT (varsP ns (preL [t])) t).subs ∧ MapAt w' r (nuS 0 (varsP ns (preL [t]))) ∧ ExQ (fun b => b = r) w w'
set_option maxHeartbeats 8000000 in
theorem numbered_any (t : Tm) : ∀ (ns : List ByteArray) (v : Value) (r : Nat) (w : World) (X : Nat → Prop), KnL [t] → TV w X v t → (∀ b, X b → b ≠ r) → MapAt w r (nuS 0 ns) → ns.length + sizeL [t] ≤ 100000 →
  Calls Tryz.prog 67 #[v, .map (some r)] w fun e w' => NuP t ns r w e w' := by
 induction t using Tm.ind with
 | h s0 l0 ih =>
  intro ns v r w X hk hv hX hM hz
  have IH := hide ih
  clear ih
  obtain ⟨a, c, rfl, hs⟩ := hv
  have hMl := hM.lt
  have HX := hide hX
  have B2 : Hid (Below w.heap.size w ((w.alloc (.cells #[.string s0, .slice a l0.length c] 48)).alloc (.cells #[.int .i64 0, .slice none 0 0] 30))) := ((Below.refl _ _).alloc (Nat.le_refl _) _).alloc (by simp) _
  have A2 : Hid (Blk ((w.alloc (.cells #[.string s0, .slice a l0.length c] 48)).alloc (.cells #[.int .i64 0, .slice none 0 0] 30)) w.heap.size #[.string s0, .slice a l0.length c] 48) := (Blk.new _ _ _).alloc _
  have R2 : Hid (Blk ((w.alloc (.cells #[.string s0, .slice a l0.length c] 48)).alloc (.cells #[.int .i64 0, .slice none 0 0] 30)) (w.heap.size + 1) #[.int .i64 0, .slice none 0 0] 30) := by have h := Blk.new (w.alloc (.cells #[.string s0, .slice a l0.length c] 48)) #[.int .i64 0, .slice none 0 0] 30; rw [World.size_alloc] at h; exact h
  have M2 := hide (hM.below B2.out hM.lt)
  rcases kn_look hk with ⟨hvb, ht⟩ | ⟨p, q, ht, hkp, hkq⟩
  ·have hl0 : l0 = [] := by injection ht
   subst hl0
   have hvb' : varB s0 = true := hvb
   clear hk hvb ht hs IH
   simp only [List.length_nil] at *
   go_enter Tryz.func67, Tryz.ntmps67
   go_upto_region 1 with fail
   generalize ((w.alloc (.cells #[.string s0, .slice a 0 c] 48)).alloc (.cells #[.int .i64 0, .slice none 0 0] 30)) = w2 at *
   have x0 := A2.out.c0
   have r0 := R2.out.c0
   have r1 := R2.out.c1
   have f0 : w2.frozen? ⟨w.heap.size + 1, 0, none⟩ = false := R2.out.frozen 0
   have f1 : w2.frozen? ⟨w.heap.size + 1, 1, none⟩ = false := R2.out.frozen 1
   have HV := hide (isVariable_all s0 w2)
   have HVB := hide hvb'
   clear hvb'
   have hgt := nuS_get s0 0 ns
   have hz0 := Tryz.zeroValue3 w2
   by_cases hin : s0 ∈ ns
   ·rw [if_pos (ixB_lt hin)] at hgt
    have HA : Hid (varsP ns (preL [(⟨s0, []⟩ : Tm)]) = ns) := by unfold Hid; rw [varsP_one, addV_in HVB.out (inB_mem1.2 hin)]
    have hix := ixB_lt hin
    have hlook : (Instr.lookup 109 (.map (some r)) (.string s0) true).run Tryz.prog w2 = .ok (.tuple #[.int .i64 ((ixB s0 ns : Nat) : Int), .bool true]) w2 := by rw [run_look (P := Tryz.prog) Tryz.underlying109 Tryz.underlying9 hz0 M2.out _, hgt]; simp
    obtain ⟨k, hkk⟩ : ∃ k, k = ixB s0 ns := ⟨_, rfl⟩
    rw [← hkk] at hlook
    have HK := hide hkk
    clear hkk hgt hz0 hin hix
    go_wp2_with fail
    refine HV.out.mono ?_
    rintro e w3 ⟨rfl, rfl⟩
    rw [HVB.out]
    go_wp2_with fail
    have R3 : Hid (Blk ((w3.setCell ⟨w.heap.size + 1, 0, none⟩ (.int .i64 (k : Int))).setCell ⟨w.heap.size + 1, 1, none⟩ (.slice none 0 0)) (w.heap.size + 1) #[.int .i64 (k : Int), .slice none 0 0] 30) := (R2.out.set 0 _).set 1 _
    have M3 : Hid (MapAt ((w3.setCell ⟨w.heap.size + 1, 0, none⟩ (.int .i64 (k : Int))).setCell ⟨w.heap.size + 1, 1, none⟩ (.slice none 0 0)) r (nuS 0 ns)) := M2.out.kept (by rw [Below.heap_setCell _ _ _ _ (by simp; omega), Below.heap_setCell _ _ _ _ (by simp; omega)])
    have E3 : Hid (ExQ (fun b => b = r) w ((w3.setCell ⟨w.heap.size + 1, 0, none⟩ (.int .i64 (k : Int))).setCell ⟨w.heap.size + 1, 1, none⟩ (.slice none 0 0))) := ((ExQ.ofBelow B2.out).setNew (by omega) 0 _).setNew (by omega) 1 _
    generalize ((w3.setCell ⟨w.heap.size + 1, 0, none⟩ (.int .i64 (k : Int))).setCell ⟨w.heap.size + 1, 1, none⟩ (.slice none 0 0)) = w5 at *
    have c0 := R3.out.cell 0
    have c1 := R3.out.cell 1
    simp only [List.getElem?_toArray, List.getElem?_cons_zero, List.getElem?_cons_succ] at c0 c1
    refine bodyPost_ret (v := .agg #[.int .i64 (k : Int), .slice none 0 0]) (by simp [results, Tryz.results67, go_sem, c0, c1]) rfl ?_
    refine ⟨none, 0, ?_, ?_, ?_, E3.out⟩
    ·rw [HA.out, ayT_leaf, HK.out]; rfl
    ·rw [HA.out, ayT_leaf]; exact ⟨by simp, Or.inl rfl⟩
    ·rw [HA.out]; exact M3.out
   ·rw [if_neg (fun h => hin (ixB_mem h))] at hgt
    have HA : Hid (varsP ns (preL [(⟨s0, []⟩ : Tm)]) = ns ++ [s0]) := by unfold Hid; rw [varsP_one, addV_yes HVB.out (by cases h : inB s0 ns with | true => exact absurd (inB_mem1.1 h) hin | false => rfl)]
    have HK : Hid (ns.length = ixB s0 (ns ++ [s0])) := (ixB_new hin).symm
    have hlook : (Instr.lookup 109 (.map (some r)) (.string s0) true).run Tryz.prog w2 = .ok (.tuple #[.int .i64 0, .bool false]) w2 := by rw [run_look (P := Tryz.prog) Tryz.underlying109 Tryz.underlying9 hz0 M2.out _, hgt]; simp
    have hlen : (Builtin.len_ #[109] 3 #[.map (some r)]).run Tryz.prog w2 = .ok (.int .i64 (ns.length : Int)) w2 := by rw [run_lenI Tryz.underlying109 M2.out, nuS_len]
    obtain ⟨w4, hrun4, hM4, hz4, ho4, ht4, hu4, hkp⟩ := run_put (P := Tryz.prog) Tryz.underlying109 Tryz.underlying9 M2.out s0 (.int .i64 (ns.length : Int)) hgt
    have E4 : Hid (ExQ (fun b => b = r) w w4) := (ExQ.ofBelow B2.out).trans ⟨ho4, ht4, hu4, by omega, fun b _ hn => hkp b hn⟩
    have M4 : Hid (MapAt w4 r (nuS 0 (ns ++ [s0]))) := by unfold Hid; rw [nuS_push, show 0 + ns.length = ns.length by omega]; exact hM4
    have R4 : Hid (Blk w4 (w.heap.size + 1) #[.int .i64 0, .slice none 0 0] 30) := (hkp _ (by omega)).trans R2.out
    have q0 := R4.out.c0
    have q1 := R4.out.c1
    have g0 : w4.frozen? ⟨w.heap.size + 1, 0, none⟩ = false := R4.out.frozen 0
    have g1 : w4.frozen? ⟨w.heap.size + 1, 1, none⟩ = false := R4.out.frozen 1
    obtain ⟨k, hkk⟩ : ∃ k, k = ns.length := ⟨_, rfl⟩
    rw [← hkk] at hlen hrun4 HK
    have hrl : r < w4.heap.size := M4.out.lt
    clear hkk hgt hz0 hin hM4 hz4 ho4 ht4 hu4 hkp
    go_wp2_with fail
    refine HV.out.mono ?_
    rintro e w3 ⟨rfl, hw3⟩
    rw [hw3]
    rw [HVB.out]
    clear hw3
    go_wp2_with fail
    have R3 : Hid (Blk ((w4.setCell ⟨w.heap.size + 1, 0, none⟩ (.int .i64 (k : Int))).setCell ⟨w.heap.size + 1, 1, none⟩ (.slice none 0 0)) (w.heap.size + 1) #[.int .i64 (k : Int), .slice none 0 0] 30) := (R4.out.set 0 _).set 1 _
    have M3 : Hid (MapAt ((w4.setCell ⟨w.heap.size + 1, 0, none⟩ (.int .i64 (k : Int))).setCell ⟨w.heap.size + 1, 1, none⟩ (.slice none 0 0)) r (nuS 0 (ns ++ [s0]))) := M4.out.kept (by rw [Below.heap_setCell _ _ _ _ (by simp; omega), Below.heap_setCell _ _ _ _ (by simp; omega)])
    have E3 : Hid (ExQ (fun b => b = r) w ((w4.setCell ⟨w.heap.size + 1, 0, none⟩ (.int .i64 (k : Int))).setCell ⟨w.heap.size + 1, 1, none⟩ (.slice none 0 0))) := (E4.out.setNew (by omega) 0 _).setNew (by omega) 1 _
    generalize ((w4.setCell ⟨w.heap.size + 1, 0, none⟩ (.int .i64 (k : Int))).setCell ⟨w.heap.size + 1, 1, none⟩ (.slice none 0 0)) = w5 at *
    have c0 := R3.out.cell 0
    have c1 := R3.out.cell 1
    simp only [List.getElem?_toArray, List.getElem?_cons_zero, List.getElem?_cons_succ] at c0 c1
    refine bodyPost_ret (v := .agg #[.int .i64 (k : Int), .slice none 0 0]) (by simp [results, Tryz.results67, go_sem, c0, c1]) rfl ?_
    refine ⟨none, 0, ?_, ?_, ?_, E3.out⟩
    ·rw [HA.out, ayT_leaf, HK.out]; rfl
    ·rw [HA.out, ayT_leaf]; exact ⟨by simp, Or.inl rfl⟩
    ·rw [HA.out]; exact M3.out
  ·injection ht with e1 e2
   subst e1
   subst e2
   obtain ⟨b', o', a1, c1, a2, c2, rfl, hKP⟩ := slT_two hs
   have KP := hide hKP
   clear hKP hs hk
   have hzs : sizeL [(⟨⟨#[102]⟩, [p, q]⟩ : Tm)] = 1 + (sizeL [p] + sizeL [q]) := ar_size p q
   rw [hzs] at hz
   clear hzs
   have IP := hide (IH.out p (by simp))
   have IQ := hide (IH.out q (by simp))
   clear IH
   have e2 : ([p, q] : List Tm).length = 2 := rfl
   rw [e2] at *
   clear e2
   have HVF : Hid (varB ⟨#[102]⟩ = false) := by unfold Hid; decide
   have HVS := hide (varsP_two ns p q)
   have HAY := hide (fun N => ayT_ar N p q)
   change Calls Tryz.prog _ _ _ (fun e w' => NuP (arT p q) ns r w e w')
   go_enter Tryz.func67, Tryz.ntmps67
   go_upto_region 1 with fail
   generalize ((w.alloc (.cells #[.string ⟨#[102]⟩, .slice (some ⟨b', o', none⟩) 2 c] 48)).alloc (.cells #[.int .i64 0, .slice none 0 0] 30)) = w2 at *
   have HV := hide (isVariable_all ⟨#[102]⟩ w2)
   have x0 := A2.out.c0
   have x1 := A2.out.c1
   obtain ⟨⟨y0, y1, y2, y3⟩, hp, hq⟩ := KP.out w2 (fun b => b = r) (ExQ.ofBelow B2.out) HX.out
   go_wp2_with fail
   refine HV.out.mono ?_
   rintro e w3 ⟨rfl, hw3⟩
   rw [hw3, HVF.out]
   clear hw3
   go_wp2_with fail
   refine (IP.out ns _ r w2 X hkp hp HX.out M2.out (by omega)).mono ?_
   rintro e w4 ⟨a4, c4, rfl, hs4, hm4, he4⟩
   obtain ⟨N1, hN1⟩ : ∃ N1, N1 = varsP ns (preL [p]) := ⟨_, rfl⟩
   rw [← hN1] at hs4 hm4 HVS ⊢
   have HP1 : Hid (∀ k ∈ preL [p], k.args = [] → k.name ∈ N1) := by rw [hN1]; exact vars_all [p] hkp ns
   have hNl : N1.length ≤ ns.length + sizeL [p] := by rw [hN1]; have h := varsP_len (preL [p]) ns; rw [preL_length] at h; exact h
   clear hN1
   obtain ⟨TP, hTP⟩ : ∃ TP, TP = ayT N1 p := ⟨_, rfl⟩
   rw [← hTP] at hs4 ⊢
   have HTP := hide hTP
   clear hTP
   have W4 := hide (And.intro hs4 (And.intro hm4 he4))
   clear hs4 hm4 he4 y0 y1 y2 y3 hp hq x0 x1
   have O5 : Hid (Below w4.heap.size w4 (w4.alloc (.cells #[.int .i64 TP.base, .slice a4 TP.subs.length c4] 30))) := (Below.refl _ _).alloc (Nat.le_refl _) _
   have V5 : Hid (Blk (w4.alloc (.cells #[.int .i64 TP.base, .slice a4 TP.subs.length c4] 30)) w4.heap.size #[.int .i64 TP.base, .slice a4 TP.subs.length c4] 30) := Blk.new _ _ _
   have S5 := hide (W4.out.1.later O5.out)
   have M5 := hide (W4.out.2.1.below O5.out W4.out.2.1.lt)
   have E5 : Hid (ExQ (fun b => b = r) w2 (w4.alloc (.cells #[.int .i64 TP.base, .slice a4 TP.subs.length c4] 30))) := W4.out.2.2.trans (ExQ.ofBelow O5.out)
   have A5 := hide (A2.out.exq E5.out (by omega))
   have R5 := hide (R2.out.exq E5.out (by omega))
   have gR : Hid (w.heap.size + 1 < w2.heap.size) := R2.out.lt
   have g24 : Hid (w2.heap.size ≤ w4.heap.size) := W4.out.2.2.size
   clear W4 O5 M2 A2 R2
   go_upto_region 8 with fail
   generalize w4.heap.size = V at *
   generalize w4.alloc (.cells #[.int .i64 TP.base, .slice a4 TP.subs.length c4] 30) = w5 at *
   have HRV : Hid (r < V) := by have h2 := g24.out; have h3 := gR.out; unfold Hid; omega
   have KS : Hid (∀ w', (Blk w' V #[.int .i64 TP.base, .slice a4 TP.subs.length c4] 30 ∧ Blk w' w.heap.size #[.string ⟨#[102]⟩, .slice (some ⟨b', o', none⟩) 2 c] 48 ∧ ExQ (fun b => b = r ∨ b = w.heap.size + 1) w w') → (w'.cell? ⟨V, 0, none⟩ = some (.int .i64 TP.base) ∧ w'.cell? ⟨V, 1, none⟩ = some (.slice a4 TP.subs.length c4)) ∧ w'.cell? ⟨w.heap.size, 1, none⟩ = some (.slice (some ⟨b', o', none⟩) 2 c) ∧ w'.cell? ⟨b', o' + 2, none⟩ = some (.string q.name) ∧ w'.cell? ⟨b', o' + 2 + 1, none⟩ = some (.slice a2 q.args.length c2)) := fun w' h => by
    have h1 := (KP.out w' (fun b => b = r) (h.2.2.mono fun i hi hlt => hi.elim id (fun e => by omega)) HX.out).1
    exact ⟨⟨h.1.cell 0, h.1.cell 1⟩, h.2.1.cell 1, h1.2.2.1, h1.2.2.2⟩
   have EW : Hid (∀ w', ExQ (fun b => b = r) w2 w' → ExQ (fun b => b = r ∨ b = w.heap.size + 1) w w') := fun w' h => ((ExQ.ofBelow B2.out).trans h).mono fun i hi _ => Or.inl hi
   have kd : Blk w5.drew V #[.int .i64 TP.base, .slice a4 TP.subs.length c4] 30 ∧ Blk w5.drew w.heap.size #[.string ⟨#[102]⟩, .slice (some ⟨b', o', none⟩) 2 c] 48 ∧ ExQ (fun b => b = r ∨ b = w.heap.size + 1) w w5.drew := ⟨V5.out, A5.out, (EW.out w5 E5.out).drew⟩
   refine wp_region_held_drew (S := fun w' => Blk w' V #[.int .i64 TP.base, .slice a4 TP.subs.length c4] 30 ∧ Blk w' w.heap.size #[.string ⟨#[102]⟩, .slice (some ⟨b', o', none⟩) 2 c] 48 ∧ ExQ (fun b => b = r ∨ b = w.heap.size + 1) w w') (by kernel_rfl) kd (fun hHeld => ?_)
   refine tkq (v := ?_) 0 rfl ?_ ?_
   rotate_left
   ·intro w' hSw
    obtain ⟨⟨y0, y1⟩, y2, y3, y4⟩ := KS.out w' hSw
    go_simp <;> with_reducible rfl
   try simp only [Act.put, sq]
   refine tkq (v := ?_) 1 rfl ?_ ?_
   rotate_left
   ·intro w' hSw
    go_simp <;> with_reducible rfl
   try simp only [Act.put, sq]
   refine tkq (v := ?_) 2 rfl ?_ ?_
   rotate_left
   ·intro w' hSw
    obtain ⟨⟨y0, y1⟩, y2, y3, y4⟩ := KS.out w' hSw
    go_simp <;> with_reducible rfl
   try simp only [Act.put, sq]
   refine tkq (v := ?_) 3 rfl ?_ ?_
   rotate_left
   ·intro w' hSw
    go_simp <;> with_reducible rfl
   try simp only [Act.put, sq]
   refine tkq (v := ?_) 4 rfl ?_ ?_
   rotate_left
   ·intro w' hSw
    obtain ⟨⟨y0, y1⟩, y2, y3, y4⟩ := KS.out w' hSw
    go_simp <;> with_reducible rfl
   try simp only [Act.put, sq]
   refine tkq (v := ?_) 5 rfl ?_ ?_
   rotate_left
   ·intro w' hSw
    go_simp <;> with_reducible rfl
   try simp only [Act.put, sq]
   refine rdq 6 rfl fun K hK => ?_
   go_simp
   go_at_call 67
   refine (IQ.out N1 _ r w5.drew X hkq (KP.out w5.drew (fun b => b = r) (((ExQ.ofBelow B2.out).trans E5.out).drew) HX.out).2.2 HX.out (M5.out.exq ((ExQ.refl (fun _ => False) w5).drew) (fun h => h)) (by omega)).mono ?_
   rintro e w6 ⟨a6, c6, rfl, hs6, hm6, he6⟩
   obtain ⟨N2, hN2⟩ : ∃ N2, N2 = varsP N1 (preL [q]) := ⟨_, rfl⟩
   rw [← hN2] at hs6 hm6 HVS ⊢
   obtain ⟨rr, hrr⟩ := varsP_pre (preL [q]) N1
   rw [← hN2] at hrr
   have HTP2 : Hid (TP = ayT N2 p) := by unfold Hid; rw [HTP.out, hrr, ayT_ext rr HP1.out]
   clear hN2 hrr
   obtain ⟨TQ, hTQ⟩ : ∃ TQ, TQ = ayT N2 q := ⟨_, rfl⟩
   rw [← hTQ] at hs6 ⊢
   have HTQ := hide hTQ
   clear hTQ
   have E6 : Hid (ExQ (fun b => b = r) w2 w6) := (E5.out.drew).trans he6
   have V6 : Hid (Blk w6 V #[.int .i64 TP.base, .slice a4 TP.subs.length c4] 30) := (show Blk w5.drew V #[.int .i64 TP.base, .slice a4 TP.subs.length c4] 30 from V5.out).exq he6 (fun e => by have h1 := HRV.out; omega)
   have A6 : Hid (Blk w6 w.heap.size #[.string ⟨#[102]⟩, .slice (some ⟨b', o', none⟩) 2 c] 48) := (show Blk w5.drew w.heap.size #[.string ⟨#[102]⟩, .slice (some ⟨b', o', none⟩) 2 c] 48 from A5.out).exq he6 (by omega)
   have R6 : Hid (Blk w6 (w.heap.size + 1) #[.int .i64 0, .slice none 0 0] 30) := (show Blk w5.drew (w.heap.size + 1) #[.int .i64 0, .slice none 0 0] 30 from R5.out).exq he6 (by omega)
   have SP6 : Hid (SlY w6 (fun b => w2.heap.size ≤ b) a4 TP.subs) := (S5.out.later ((Below.refl _ _).drew)).exq he6 (fun b hb e => by have h1 := gR.out; omega)
   have SQ6 : Hid (SlY w6 (fun b => w2.heap.size ≤ b) a6 TQ.subs) := hs6.mono fun b hb _ => Nat.le_trans E5.out.size hb
   have M6 := hide hm6
   have k6 : Blk w6 V #[.int .i64 TP.base, .slice a4 TP.subs.length c4] 30 ∧ Blk w6 w.heap.size #[.string ⟨#[102]⟩, .slice (some ⟨b', o', none⟩) 2 c] 48 ∧ ExQ (fun b => b = r ∨ b = w.heap.size + 1) w w6 := ⟨V6.out, A6.out, EW.out w6 E6.out⟩
   clear hs6 hm6 he6 S5 M5 V5 A5 R5
   go_simp
   refine hK.out _ _ (by exact k6) (fun hHeld => ?_)
   clear hK K
   try simp only [Act.put, sq]
   have k7 : Blk (w6.alloc (.cells #[.int .i64 TP.base, .slice a4 TP.subs.length c4, .int .i64 TQ.base, .slice a6 TQ.subs.length c6] 30)) V #[.int .i64 TP.base, .slice a4 TP.subs.length c4] 30 ∧ Blk (w6.alloc (.cells #[.int .i64 TP.base, .slice a4 TP.subs.length c4, .int .i64 TQ.base, .slice a6 TQ.subs.length c6] 30)) w.heap.size #[.string ⟨#[102]⟩, .slice (some ⟨b', o', none⟩) 2 c] 48 ∧ ExQ (fun b => b = r ∨ b = w.heap.size + 1) w (w6.alloc (.cells #[.int .i64 TP.base, .slice a4 TP.subs.length c4, .int .i64 TQ.base, .slice a6 TQ.subs.length c6] 30)) := ⟨k6.1.alloc _, k6.2.1.alloc _, k6.2.2.alloc _⟩
   have C7 : Hid (Blk (w6.alloc (.cells #[.int .i64 TP.base, .slice a4 TP.subs.length c4, .int .i64 TQ.base, .slice a6 TQ.subs.length c6] 30)) w6.heap.size #[.int .i64 TP.base, .slice a4 TP.subs.length c4, .int .i64 TQ.base, .slice a6 TQ.subs.length c6] 30) := Blk.new _ _ _
   have O7 : Hid (Below w6.heap.size w6 (w6.alloc (.cells #[.int .i64 TP.base, .slice a4 TP.subs.length c4, .int .i64 TQ.base, .slice a6 TQ.subs.length c6] 30))) := (Below.refl _ _).alloc (Nat.le_refl _) _
   refine rdq 7 rfl fun K hK => ?_
   go_simp
   refine hK.out _ _ (by exact k7) (fun hHeld => ?_)
   clear hK K
   try simp only [Act.put, sq]
   refine tkq (v := ?_) 8 rfl ?_ ?_
   rotate_left
   ·intro w' hSw
    go_simp <;> with_reducible rfl
   try simp only [Act.put, sq]
   have R7 := hide (R6.out.below O7.out R6.out.lt)
   have M7 := hide (M6.out.below O7.out M6.out.lt)
   have SP7 := hide (SP6.out.later O7.out)
   have SQ7 := hide (SQ6.out.later O7.out)
   have E7 : Hid (ExQ (fun b => b = r) w2 (w6.alloc (.cells #[.int .i64 TP.base, .slice a4 TP.subs.length c4, .int .i64 TQ.base, .slice a6 TQ.subs.length c6] 30))) := E6.out.trans (ExQ.ofBelow O7.out)
   have g67 : Hid (w2.heap.size ≤ w6.heap.size) := E6.out.size
   generalize w6.alloc (.cells #[.int .i64 TP.base, .slice a4 TP.subs.length c4, .int .i64 TQ.base, .slice a6 TQ.subs.length c6] 30) = w7 at *
   generalize w6.heap.size = G at *
   have r0 := R7.out.c0
   have r1 := R7.out.c1
   have f0 : w7.frozen? ⟨w.heap.size + 1, 0, none⟩ = false := R7.out.frozen 0
   have f1 : w7.frozen? ⟨w.heap.size + 1, 1, none⟩ = false := R7.out.frozen 1
   have k8 : Blk ((w7.setCell ⟨w.heap.size + 1, 0, none⟩ (.int .i64 0)).setCell ⟨w.heap.size + 1, 1, none⟩ (.slice (some ⟨G, 0, none⟩) 2 2)) V #[.int .i64 TP.base, .slice a4 TP.subs.length c4] 30 ∧ Blk ((w7.setCell ⟨w.heap.size + 1, 0, none⟩ (.int .i64 0)).setCell ⟨w.heap.size + 1, 1, none⟩ (.slice (some ⟨G, 0, none⟩) 2 2)) w.heap.size #[.string ⟨#[102]⟩, .slice (some ⟨b', o', none⟩) 2 c] 48 ∧ ExQ (fun b => b = r ∨ b = w.heap.size + 1) w ((w7.setCell ⟨w.heap.size + 1, 0, none⟩ (.int .i64 0)).setCell ⟨w.heap.size + 1, 1, none⟩ (.slice (some ⟨G, 0, none⟩) 2 2)) := ⟨(k7.1.setOther 0 _ (by have h1 := gR.out; have h2 := g24.out; omega)).setOther 1 _ (by have h1 := gR.out; have h2 := g24.out; omega), (k7.2.1.setOther 0 _ (by omega)).setOther 1 _ (by omega), (k7.2.2.set (Or.inr rfl) 0 _).set (Or.inr rfl) 1 _⟩
   refine rdq 9 rfl fun K hK => ?_
   go_simp
   refine hK.out _ _ (by exact k8) (fun hHeld => ?_)
   clear hK K
   try simp only [Act.put, sq]
   refine wpAnyH_done (by kernel_rfl) ?_ _
   have R8 : Hid (Blk ((w7.setCell ⟨w.heap.size + 1, 0, none⟩ (.int .i64 0)).setCell ⟨w.heap.size + 1, 1, none⟩ (.slice (some ⟨G, 0, none⟩) 2 2)) (w.heap.size + 1) #[.int .i64 0, .slice (some ⟨G, 0, none⟩) 2 2] 30) := (R7.out.set 0 _).set 1 _
   have M8 : Hid (MapAt ((w7.setCell ⟨w.heap.size + 1, 0, none⟩ (.int .i64 0)).setCell ⟨w.heap.size + 1, 1, none⟩ (.slice (some ⟨G, 0, none⟩) 2 2)) r (nuS 0 N2)) := M7.out.kept (by rw [Below.heap_setCell _ _ _ _ (by simp; omega), Below.heap_setCell _ _ _ _ (by simp; omega)])
   have E8 : Hid (ExQ (fun b => b = r) w ((w7.setCell ⟨w.heap.size + 1, 0, none⟩ (.int .i64 0)).setCell ⟨w.heap.size + 1, 1, none⟩ (.slice (some ⟨G, 0, none⟩) 2 2))) := ((((ExQ.ofBelow B2.out).trans E7.out).setNew (by omega) 0 _).setNew (by omega) 1 _)
   have SE : Hid (∀ (x : Option Addr) (l : List Ty), SlY w7 (fun b => w2.heap.size ≤ b) x l → SlY ((w7.setCell ⟨w.heap.size + 1, 0, none⟩ (.int .i64 0)).setCell ⟨w.heap.size + 1, 1, none⟩ (.slice (some ⟨G, 0, none⟩) 2 2)) (fun b => w2.heap.size ≤ b) x l) := fun x l h => h.kept fun b hb => by have h1 := gR.out; rw [Below.heap_setCell _ _ _ _ (by simp; omega), Below.heap_setCell _ _ _ _ (by simp; omega)]
   have S8 : Hid (SlY ((w7.setCell ⟨w.heap.size + 1, 0, none⟩ (.int .i64 0)).setCell ⟨w.heap.size + 1, 1, none⟩ (.slice (some ⟨G, 0, none⟩) 2 2)) (fun b => w.heap.size ≤ b) (some ⟨G, 0, none⟩) [TP, TQ]) := liesY_two ((C7.out.setOther 0 _ (by have h1 := gR.out; have h2 := g67.out; omega)).setOther 1 _ (by have h1 := gR.out; have h2 := g67.out; omega)) (by have h1 := gR.out; have h2 := g67.out; omega) ((SE.out _ _ SP7.out).mono fun b hb _ => by have h1 := gR.out; omega) ((SE.out _ _ SQ7.out).mono fun b hb _ => by have h1 := gR.out; omega)
   generalize ((w7.setCell ⟨w.heap.size + 1, 0, none⟩ (.int .i64 0)).setCell ⟨w.heap.size + 1, 1, none⟩ (.slice (some ⟨G, 0, none⟩) 2 2)) = w8 at *
   clear r0 r1 f0 f1
   go_wp2_with fail
   have c0 := R8.out.cell 0
   have c1 := R8.out.cell 1
   simp only [List.getElem?_toArray, List.getElem?_cons_zero, List.getElem?_cons_succ] at c0 c1
   refine bodyPost_ret (v := .agg #[.int .i64 0, .slice (some ⟨G, 0, none⟩) 2 2]) (by simp [results, Tryz.results67, go_sem, c0, c1]) rfl ?_
   refine ⟨some ⟨G, 0, none⟩, 2, ?_, ?_, ?_, E8.out⟩
   ·rw [HVS.out, HAY.out]; rfl
   ·rw [HVS.out, HAY.out]; rw [← HTP2.out, ← HTQ.out]; exact S8.out
   ·rw [HVS.out]; exact M8.out
end Go.Proofs.YthnncjgjmohinaaGreatDoor
