/- Several texts in one. -/
import Derived.Test.YtglcijkhlppjfaaDoorZTopPlotkinOwn
import Derived.Laws.EntriesVeiled
/- Walks: what stands for variables, in a map; what is looked for there. -/
namespace Go.Proofs.YtglcijkhlppjfaaDoor
open Go.RowKit
set_option linter.unusedSimpArgs false
set_option linter.unusedVariables false
set_option maxRecDepth 8000

/-- No variable twice. -/
def Once (ls : List Bd) : Prop := ∀ k (h : k < ls.length), forT (ls.take k) ls[k].nm = none

/-- The map's values are the bindings' terms. -/
def PairsL (w : World) (X : Nat → Prop) : List Bd → List (ByteArray × Value) → Prop
  | [], L => L = []
  | d :: r, L => ∃ a c L', L = (d.nm, .agg #[.string d.t.name, .slice a d.t.args.length c]) :: L' ∧ Sl w X a d.t.args ∧ PairsL w X r L'
theorem PairsL.imp {w w' : World} {X Y : Nat → Prop} (hs : ∀ a l, Sl w X a l → Sl w' Y a l) : ∀ {l : List Bd} {L : List (ByteArray × Value)}, PairsL w X l L → PairsL w' Y l L
  | [], L, h => h
  | d :: r, L, h => by obtain ⟨a, c, L', e, h1, h2⟩ := h; exact ⟨a, c, L', e, hs _ _ h1, PairsL.imp hs h2⟩
theorem PairsL.push {w : World} {X : Nat → Prop} {d : Bd} {a : Option Addr} {c : Nat} (hs : Sl w X a d.t.args) : ∀ {l : List Bd} {L : List (ByteArray × Value)}, PairsL w X l L → PairsL w X (l ++ [d]) (L ++ [(d.nm, .agg #[.string d.t.name, .slice a d.t.args.length c])])
  | [], L, h => by
    have e : L = [] := h
    subst e
    exact ⟨a, c, [], rfl, hs, rfl⟩
  | d' :: r, L, h => by obtain ⟨a', c', L', e, h1, h2⟩ := h; subst e; exact ⟨a', c', _, rfl, h1, PairsL.push hs h2⟩
theorem PairsL.get {w : World} {X : Nat → Prop} (n : ByteArray) : ∀ {l : List Bd} {L : List (ByteArray × Value)}, PairsL w X l L → (forT l n = none → mapGet L n = none) ∧ (∀ t, forT l n = some t → ∃ a c, mapGet L n = some (.agg #[.string t.name, .slice a t.args.length c]) ∧ Sl w X a t.args)
  | [], L, h => by
    have e : L = [] := h
    subst e
    exact ⟨fun _ => rfl, fun t h => by simp [forT] at h⟩
  | d :: r, L, h => by
    obtain ⟨a, c, L', rfl, h1, h2⟩ := h
    obtain ⟨g1, g2⟩ := PairsL.get n h2
    by_cases hd : d.nm = n
    · refine ⟨fun h => by simp [forT, hd] at h, fun t h => ?_⟩
      rw [forT, if_pos hd] at h
      cases h
      exact ⟨a, c, by simp [mapGet, hd], h1⟩
    · refine ⟨fun h => ?_, fun t h => ?_⟩
      · rw [forT, if_neg hd] at h
        simp only [mapGet, hd, if_false]
        exact g1 h
      · rw [forT, if_neg hd] at h
        simp only [mapGet, hd, if_false]
        exact g2 t h

def ByInv (w : World) (X : Nat → Prop) (ls : List Bd) (v : Value) (wr : World) : Prop := ∃ (k : Nat) (L : List (ByteArray × Value)), v = .int .i64 (k : Int) ∧ k ≤ ls.length ∧ MapAt wr w.heap.size L ∧ PairsL wr (fun b => X b ∧ b < w.heap.size) (ls.take k) L ∧ Below w.heap.size w wr

set_option maxHeartbeats 1000000 in
theorem byName_any (ls : List Bd) (ho : Once ls) (u : Value) (w : World) (X : Nat → Prop) (hu : BV w X u ls) :
    Calls Tryd.prog 25 #[u] w fun e w' => ∃ L, e = .returned (.map (some w.heap.size)) ∧ MapAt w' w.heap.size L ∧ PairsL w' (fun b => X b ∧ b < w.heap.size) ls L ∧ Below w.heap.size w w' := by
  have HU := hide hu
  obtain ⟨a, c, rfl, hl, hu2⟩ := hu
  clear hu2
  have hmm := @run_makeMap Tryd.prog
  go_enter Tryd.func25, Tryd.ntmps25
  go_wp2_with fail
  go_loopw [9] (fun v wr => ByInv w X ls v wr) (fun v wr => ls.length - (intOf v).toNat)
  case atStart => exact ⟨0, [], rfl, Nat.zero_le _, MapAt.new w, rfl, (Below.refl _ _).alloc (Nat.le_refl _) _⟩
  case round =>
    obtain ⟨k, L, rfl, hk, hM, hP, hb⟩ := hrel
    have HM := hide hM
    have HP := hide hP
    have HB := hide hb
    by_cases hlt : k < ls.length
    · obtain ⟨b, o, a', c', rfl, d0, d1, d2, hs⟩ := ((HU.out.mono (Y := fun b => X b ∧ b < w.heap.size) fun b h1 h2 => ⟨h1, h2⟩).later hb).get k hlt
      have hlt2 : (k : Int) < (ls.length : Int) := by omega
      have HX := hide hs
      have hno := (hP.get ls[k].nm).1 (ho k hlt)
      have htk : ls.take (k + 1) = ls.take k ++ [ls[k]] := List.take_succ_eq_append_getElem hlt
      have HTK := hide htk
      have hMr := hM.lt
      clear hb hs hM hP htk
      generalize ls[k] = d at *
      obtain ⟨w2, hrun, hM2, hz2, ho2, ht2, hu2, hk2⟩ := run_put (P := Tryd.prog) (w := wr.alloc (.cells #[.string d.nm, .string d.t.name, .slice a' d.t.args.length c'] 51)) Tryd.underlying55 Tryd.underlying9 (HM.out.kept (Below.heap_alloc _ _ _ hMr)) d.nm (.agg #[.string d.t.name, .slice a' d.t.args.length c']) hno
      have HM2 := hide hM2
      have HB2 : Hid (Below w.heap.size w w2) := by
        have h0 := HB.out.alloc HB.out.size (.cells #[.string d.nm, .string d.t.name, .slice a' d.t.args.length c'] 51)
        exact ⟨ho2.trans h0.os, ht2.trans h0.tape, hu2.trans h0.output, by rw [hz2]; exact h0.size, fun j hj => (hk2 j (by omega)).trans (h0.block j hj)⟩
      have HP2 : Hid (PairsL w2 (fun b => X b ∧ b < w.heap.size) (ls.take (k + 1)) (L ++ [(d.nm, .agg #[.string d.t.name, .slice a' d.t.args.length c'])])) := by
        have hkp : ∀ q l, Sl wr (fun b => X b ∧ b < w.heap.size) q l → Sl w2 (fun b => X b ∧ b < w.heap.size) q l := fun q l h => h.kept fun j hj => (hk2 j (by have := hj.2; omega)).trans (Below.heap_alloc _ _ _ (by have := hj.2; omega))
        unfold Hid
        rw [HTK.out]
        exact PairsL.push (hkp _ _ HX.out) (HP.out.imp hkp)
      clear hM2 hz2 ho2 ht2 hu2 hk2 hno
      go_wp2_with fail
      go_roundw
      case rel => exact ⟨k + 1, _, by go_num, by omega, HM2.out, HP2.out, HB2.out⟩
      case measure => simp [intOf]; omega
    · have htk : ls.take k = ls := List.take_of_length_le (by omega)
      rw [htk] at HP
      clear hP htk
      go_wp2_with fail
      go_ret
      exact ⟨L, rfl, HM.out, HP.out, HB.out⟩
end Go.Proofs.YtglcijkhlppjfaaDoor

/- Walks: bindings looked for by a closure. -/
namespace Go.Proofs.YtglcijkhlppjfaaDoor
open Go.RowKit
set_option linter.unusedSimpArgs false
set_option linter.unusedVariables false
set_option maxRecDepth 8000

theorem look_any (r : Nat) (w : World) :
    Calls Tryd.prog 24 #[.map (some r)] w fun e w' => e = .returned (.func (.func 44) #[] #[.pointer (some ⟨w.heap.size, 0, none⟩)]) ∧ w' = w.alloc (.cells #[.map (some r)] 55) := by
  have hmf : ∀ (fn : Fn) (first cap : Array Value) (w : World), (Instr.makeFunc fn first cap).run Tryd.prog w = .ok (.func fn first cap) w := fun _ _ _ _ => rfl
  go_enter Tryd.func24, Tryd.ntmps24
  go_wp2_with fail
  go_ret
  exact ⟨rfl, rfl⟩

set_option maxHeartbeats 1000000 in
theorem look1_any (ls : List Bd) (n : ByteArray) (B r : Nat) (L : List (ByteArray × Value)) (w : World) (X : Nat → Prop) (hB : Blk w B #[.map (some r)] 55) (hM : MapAt w r L) (hP : PairsL w X ls L) :
    Calls Tryd.prog 44 #[.string n, .pointer (some ⟨B, 0, none⟩)] w fun e w' => Below w.heap.size w w' ∧ ((∃ t a c, forT ls n = some t ∧ e = .returned (.tuple #[.agg #[.string t.name, .slice a t.args.length c], .bool true]) ∧ Sl w X a t.args) ∨ (forT ls n = none ∧ e = .returned (.tuple #[.agg #[.string ⟨#[]⟩, .slice none 0 0], .bool false]))) := by
  have c0 : ∀ o, (w.alloc o).cell? ⟨B, 0, none⟩ = some (.map (some r)) := fun o => (hB.alloc o).cell 0
  have hlt : B < w.heap.size := hB.lt
  have hz : ∀ w', (zeroValue 25).run Tryd.prog w' = .ok (.agg #[.string ⟨#[]⟩, .slice none 0 0]) w' := fun w' => Tryd.zeroValue25 w'
  have hM' := fun o : Obj => hM.kept (Below.heap_alloc w o _ hM.lt)
  cases hf : forT ls n with
  | none =>
    have hg := (hP.get n).1 hf
    have hlook : ∀ o, (Instr.lookup 55 (.map (some r)) (.string n) true).run Tryd.prog (w.alloc o) = .ok (.tuple #[.agg #[.string ⟨#[]⟩, .slice none 0 0], .bool false]) (w.alloc o) := fun o => by
      rw [run_look (P := Tryd.prog) Tryd.underlying55 Tryd.underlying9 (hz _) (hM' o) n, hg]; rfl
    have HF := hide hf
    clear hf hg hM' hP hM hB
    go_enter Tryd.func44, Tryd.ntmps44
    go_wp2_with fail
    have q0 := ((Blk.new w #[.string ⟨#[]⟩, .slice none 0 0] 25).alloc (.cells #[.string ⟨#[]⟩, .slice none 0 0] 25)).cell 0
    have q1 := ((Blk.new w #[.string ⟨#[]⟩, .slice none 0 0] 25).alloc (.cells #[.string ⟨#[]⟩, .slice none 0 0] 25)).cell 1
    simp at q0 q1
    refine bodyPost_ret (v := .tuple #[.agg #[.string ⟨#[]⟩, .slice none 0 0], .bool false]) (by simp [results, Tryd.results44, go_sem, q0, q1]) rfl ?_
    exact ⟨((Below.refl _ _).alloc (Nat.le_refl _) _).alloc (by simp) _, Or.inr ⟨by trivial, rfl⟩⟩
  | some t =>
    obtain ⟨a, c, hg, hs⟩ := (hP.get n).2 t hf
    have hlook : ∀ o, (Instr.lookup 55 (.map (some r)) (.string n) true).run Tryd.prog (w.alloc o) = .ok (.tuple #[.agg #[.string t.name, .slice a t.args.length c], .bool true]) (w.alloc o) := fun o => by
      rw [run_look (P := Tryd.prog) Tryd.underlying55 Tryd.underlying9 (hz _) (hM' o) n, hg]; rfl
    have HF := hide hf
    have HS := hide hs
    clear hf hg hs hM' hP hM hB
    go_enter Tryd.func44, Tryd.ntmps44
    go_wp2_with fail
    have q0 := ((Blk.new w #[.string t.name, .slice a t.args.length c] 25).alloc (.cells #[.string t.name, .slice a t.args.length c] 25)).cell 0
    have q1 := ((Blk.new w #[.string t.name, .slice a t.args.length c] 25).alloc (.cells #[.string t.name, .slice a t.args.length c] 25)).cell 1
    simp at q0 q1
    refine bodyPost_ret (v := .tuple #[.agg #[.string t.name, .slice a t.args.length c], .bool true]) (by simp [results, Tryd.results44, go_sem, q0, q1]) rfl ?_
    exact ⟨((Below.refl _ _).alloc (Nat.le_refl _) _).alloc (by simp) _, Or.inl ⟨t, a, c, rfl, rfl, HS.out⟩⟩
end Go.Proofs.YtglcijkhlppjfaaDoor

/- Walks: a term is filled. -/
namespace Go.Proofs.YtglcijkhlppjfaaDoor
open Go.RowKit
set_option linter.unusedSimpArgs false
set_option linter.unusedVariables false
set_option maxRecDepth 8000

def fN (ls : List Bd) (s : ByteArray) (bs : List Tm) : Tm := if varB s = true then (match forT ls s with | some x => x | none => ⟨s, bs⟩) else ⟨s, bs⟩
def fL (ls : List Bd) : List Tm → List Tm
  | [] => []
  | ⟨s, a⟩ :: r => fN ls s (fL ls a) :: fL ls r
def fT (ls : List Bd) (t : Tm) : Tm := fN ls t.name (fL ls t.args)

/-- What is looked at while a term is filled. -/
def Env (w : World) (B r : Nat) (X : Nat → Prop) (ls : List Bd) (L : List (ByteArray × Value)) : Prop := Blk w B #[.map (some r)] 55 ∧ MapAt w r L ∧ PairsL w X ls L
theorem Env.ex {w w' : World} {B r F : Nat} {X : Nat → Prop} {ls : List Bd} {L : List (ByteArray × Value)} (h : Env w B r X ls L) (he : Ex F w w') (hB : B ≠ F) (hr : r ≠ F) (hX : ∀ b, X b → b ≠ F) : Env w' B r X ls L :=
  ⟨h.1.ex he hB, h.2.1.kept (he.block r h.2.1.lt hr), h.2.2.imp fun a l hs => hs.ex he hX⟩
theorem Env.later {w w' : World} {B r : Nat} {X : Nat → Prop} {ls : List Bd} {L : List (ByteArray × Value)} (h : Env w B r X ls L) (hb : Below w.heap.size w w') : Env w' B r X ls L :=
  ⟨h.1.below hb h.1.lt, h.2.1.below hb h.2.1.lt, h.2.2.imp fun a l hs => hs.later hb⟩

theorem way1 {w0 w1 : World} (h : Below w0.drew.heap.size w0.drew w1) : Below w0.heap.size w0 w1 := ((Below.refl w0.heap.size w0).drew).trans h
theorem way2 {w0 w1 : World} {o : Obj} (h : Below (w0.alloc o).drew.heap.size (w0.alloc o).drew w1) : Below w0.heap.size w0 w1 := (((Below.refl w0.heap.size w0).alloc (Nat.le_refl _) o).drew).trans (h.mono (by simp))
theorem way2b {w0 w1 : World} {cs : Array Value} {T : Nat} (h : Below (w0.alloc (.cells cs T)).drew.heap.size (w0.alloc (.cells cs T)).drew w1) : Blk w1 w0.heap.size cs T := ((Blk.new w0 cs T).drewN 1).below h (by simp)

theorem ff_end {w W w9 : World} {F : Nat} {sv : Value} {t : Tm} {n : Nat} {s' : ByteArray} {a' : Option Addr} {l' c' : Nat} {m : Int} {v0 v1 : Value} (hF : F < w.heap.size) (hW : w.heap.size + 2 ≤ W.heap.size) (h1 : Blk w9 F #[.int .i64 m, sv] 89) (hx : Ex F w w9) (hy : sizeL [t] ≤ n → m = (n : Int) - sizeL [t] ∧ s' = t.name ∧ l' = t.args.length ∧ Sl w9 (fun b => W.heap.size ≤ b) a' t.args) (hn : n < sizeL [t] → m = -1) :
    CpPost w F sv t n (.returned (.agg #[.string s', .slice a' l' c'])) ((w9.setCell ⟨w.heap.size + 1, 0, none⟩ v0).setCell ⟨w.heap.size + 1, 1, none⟩ v1) := by
  refine ⟨s', a', l', c', m, rfl, (h1.setOther _ _ (by omega)).setOther _ _ (by omega), (hx.setNew (by omega) _ _).setNew (by omega) _ _, fun h => ?_, hn⟩
  obtain ⟨e1, e2, e3, e4⟩ := hy h
  refine ⟨e1, e2, e3, (e4.kept fun b hb => ?_).mono fun b hb _ => by omega⟩
  rw [Below.heap_setCell _ _ _ _ (by simp; omega), Below.heap_setCell _ _ _ _ (by simp; omega)]

theorem Ex.ofBelow {B : Nat} {w w' : World} (h : Below w.heap.size w w') : Ex B w w' := ⟨h.os, h.tape, h.output, h.size, fun k hk _ => h.block k hk⟩
theorem two_keep {w : World} {F T b : Nat} {u v x : Value} {i j k : Nat} (h : w.cell? ⟨F, i, none⟩ = some u ∧ w.cell? ⟨T, j, none⟩ = some v) (h1 : b ≠ F) (h2 : b ≠ T) : (w.setCell ⟨b, k, none⟩ x).cell? ⟨F, i, none⟩ = some u ∧ (w.setCell ⟨b, k, none⟩ x).cell? ⟨T, j, none⟩ = some v :=
  ⟨(World.cell?_setCell_other _ _ _ _ (fun e => h1 (by injection e))).trans h.1, (World.cell?_setCell_other _ _ _ _ (fun e => h2 (by injection e))).trans h.2⟩

set_option maxHeartbeats 1000000 in
theorem ffill_of (F B r : Nat) (ls : List Bd) (L : List (ByteArray × Value)) (t : Tm) (n : Nat) (a : Option Addr) (c : Nat) (w : World) (X : Nat → Prop) (hn : n ≤ 1000000) (hXF : ∀ b, X b → b ≠ F) (hBF : B ≠ F) (hrF : r ≠ F) (hs : Sl w X a t.args) (hF : Blk w F #[.int .i64 (n : Int), .func (.func 44) #[] #[.pointer (some ⟨B, 0, none⟩)]] 89) (hE : Env w B r X ls L)
    (h : ∀ w', Sl w' X a t.args → Blk w' F #[.int .i64 (n : Int), .func (.func 44) #[] #[.pointer (some ⟨B, 0, none⟩)]] 89 → Env w' B r X ls L → Calls Tryd.prog 73 #[.pointer (some ⟨F, 0, none⟩), .agg #[.string t.name, .slice a t.args.length c], .func (.func 58) #[.pointer (some ⟨F, 0, none⟩)] #[]] w' fun e w'' => CpPost w' F (.func (.func 44) #[] #[.pointer (some ⟨B, 0, none⟩)]) ⟨t.name, fL ls t.args⟩ n e w'') :
    Calls Tryd.prog 58 #[.pointer (some ⟨F, 0, none⟩), .agg #[.string t.name, .slice a t.args.length c]] w fun e w' => CpPost w F (.func (.func 44) #[] #[.pointer (some ⟨B, 0, none⟩)]) (fT ls t) n e w' := by
  have hmf : ∀ (fn : Fn) (first cap : Array Value) (w : World), (Instr.makeFunc fn first cap).run Tryd.prog w = .ok (.func fn first cap) w := fun _ _ _ _ => rfl
  have H := hide h
  have HS := hide hs
  have HF := hide hF
  have HE := hide hE
  have hFl : F < w.heap.size := hF.lt
  clear h hs hF hE
  have HB0 := hide (((Below.refl w.heap.size w).alloc (Nat.le_refl _) (.cells #[.string t.name, .slice a t.args.length c] 25)).alloc (by simp) (.cells #[.string ⟨#[]⟩, .slice none 0 0] 25))
  have f1 : ∀ o o', ((w.alloc o).alloc o').cell? ⟨F, 1, none⟩ = some (.func (.func 44) #[] #[.pointer (some ⟨B, 0, none⟩)]) := fun o o' => ((HF.out.alloc o).alloc o').cell 1
  cases hv : varB t.name with
  | false =>
    have HV := hide hv
    have HT : Hid (fT ls t = ⟨t.name, fL ls t.args⟩) := by unfold Hid fT fN; rw [hv]; rfl
    clear hv
    go_enter Tryd.func58, Tryd.ntmps58
    go_wp2_with (go_at_call 42; refine (isVariable_all _ _).mono ?_; rintro e w' ⟨rfl, rfl⟩; rw [HV.out])
    have RW : Hid (Blk ((w.alloc (.cells #[.string t.name, .slice a t.args.length c] 25)).alloc (.cells #[.string ⟨#[]⟩, .slice none 0 0] 25)) (w.heap.size + 1) #[.string ⟨#[]⟩, .slice none 0 0] 25) := by
      have h := Blk.new (w.alloc (.cells #[.string t.name, .slice a t.args.length c] 25)) #[.string ⟨#[]⟩, .slice none 0 0] 25
      unfold Hid
      simpa using h
    have EXW := hide (((Ex.refl F w).alloc (.cells #[.string t.name, .slice a t.args.length c] 25)).alloc (.cells #[.string ⟨#[]⟩, .slice none 0 0] 25))
    have hW2 : Hid (w.heap.size + 2 ≤ ((w.alloc (.cells #[.string t.name, .slice a t.args.length c] 25)).alloc (.cells #[.string ⟨#[]⟩, .slice none 0 0] 25)).heap.size) := by unfold Hid; simp
    refine (H.out _ (HS.out.later HB0.out) (by exact (HF.out.alloc _).alloc _) (HE.out.later HB0.out)).mono ?_
    rintro e w9 ⟨s', a', l', c', m, rfl, hF1, hx1, hy1, hn1⟩
    have R9 := hide (RW.out.ex hx1 (by omega))
    have HX9 := hide (EXW.out.trans hx1)
    have HF9 := hide hF1
    have HY := hide hy1
    have HN := hide hn1
    have HSZ := hide (EXW.out.size)
    clear hF1 hx1 hy1 hn1
    have r0 : w9.cell? ⟨w.heap.size + 1, 0, none⟩ = some (.string ⟨#[]⟩) := R9.out.cell 0
    have r1 : w9.cell? ⟨w.heap.size + 1, 1, none⟩ = some (.slice none 0 0) := R9.out.cell 1
    have rf := R9.out.frozen
    go_wp2_with fail
    refine bodyPost_ret (v := .agg #[.string s', .slice a' l' c']) (by simp [results, Tryd.results58, go_sem, World.cell?_setCell_same, World.cell?_setCell_other, r0, r1]) rfl ?_
    rw [HT.out]
    exact ff_end (by omega) hW2.out HF9.out HX9.out HY.out HN.out
  | true =>
    have HV := hide hv
    clear hv
    have RW : Hid (Blk ((w.alloc (.cells #[.string t.name, .slice a t.args.length c] 25)).alloc (.cells #[.string ⟨#[]⟩, .slice none 0 0] 25)) (w.heap.size + 1) #[.string ⟨#[]⟩, .slice none 0 0] 25) := by
      have h := Blk.new (w.alloc (.cells #[.string t.name, .slice a t.args.length c] 25)) #[.string ⟨#[]⟩, .slice none 0 0] 25
      unfold Hid
      simpa using h
    have EXW := hide (((Ex.refl F w).alloc (.cells #[.string t.name, .slice a t.args.length c] 25)).alloc (.cells #[.string ⟨#[]⟩, .slice none 0 0] 25))
    have hW2 : Hid (w.heap.size + 2 ≤ ((w.alloc (.cells #[.string t.name, .slice a t.args.length c] 25)).alloc (.cells #[.string ⟨#[]⟩, .slice none 0 0] 25)).heap.size) := by unfold Hid; simp
    have E0 := hide (HE.out.later HB0.out)
    have F0 := hide ((HF.out.alloc (.cells #[.string t.name, .slice a t.args.length c] 25)).alloc (.cells #[.string ⟨#[]⟩, .slice none 0 0] 25))
    have S0 := hide (HS.out.later HB0.out)
    have T0 := hide ((Blk.new w #[.string t.name, .slice a t.args.length c] 25).alloc (.cells #[.string ⟨#[]⟩, .slice none 0 0] 25))
    have g1 := F0.out.cell 1
    have g0 := T0.out.cell 0
    simp only [List.getElem?_toArray, List.getElem?_cons_succ, List.getElem?_cons_zero] at g1 g0
    cases hf : forT ls t.name with
    | some x =>
      have HT : Hid (fT ls t = x) := by unfold Hid fT fN; rw [HV.out, hf]; rfl
      have LKA : Hid (∀ w', Below ((w.alloc (.cells #[.string t.name, .slice a t.args.length c] 25)).alloc (.cells #[.string ⟨#[]⟩, .slice none 0 0] 25)).heap.size ((w.alloc (.cells #[.string t.name, .slice a t.args.length c] 25)).alloc (.cells #[.string ⟨#[]⟩, .slice none 0 0] 25)) w' → Calls Tryd.prog 44 #[.string t.name, .pointer (some ⟨B, 0, none⟩)] w' fun e w'' => ∃ ax cx, e = .returned (.tuple #[.agg #[.string x.name, .slice ax x.args.length cx], .bool true]) ∧ Below w'.heap.size w' w'' ∧ Sl w'' (fun b => X b ∧ b < w.heap.size) ax x.args) := fun w' hb => by
        have E1 : Env w B r (fun b => X b ∧ b < w.heap.size) ls L := ⟨HE.out.1, HE.out.2.1, HE.out.2.2.imp fun a l hs => hs.mono fun b h1 h2 => ⟨h1, h2⟩⟩
        obtain ⟨h1, h2, h3⟩ := (E1.later HB0.out).later hb
        refine (look1_any ls t.name B r L w' _ h1 h2 h3).mono fun e w'' hp => ?_
        obtain ⟨hb2, hc⟩ := hp
        rcases hc with ⟨y, ay, cy, hy, he, hsy⟩ | ⟨hy, _⟩
        · rw [hf] at hy; cases hy; exact ⟨ay, cy, he, hb2, hsy.later hb2⟩
        · rw [hf] at hy; cases hy
      have HKP : Hid (∀ w', Below ((w.alloc (.cells #[.string t.name, .slice a t.args.length c] 25)).alloc (.cells #[.string ⟨#[]⟩, .slice none 0 0] 25)).heap.size ((w.alloc (.cells #[.string t.name, .slice a t.args.length c] 25)).alloc (.cells #[.string ⟨#[]⟩, .slice none 0 0] 25)) w' → w'.cell? ⟨F, 1, none⟩ = some (.func (.func 44) #[] #[.pointer (some ⟨B, 0, none⟩)]) ∧ w'.cell? ⟨w.heap.size, 0, none⟩ = some (.string t.name)) := fun w' hb => ⟨(F0.out.below hb F0.out.lt).cell 1, (T0.out.below hb T0.out.lt).cell 0⟩
      have nF : ((w.alloc (.cells #[.string t.name, .slice a t.args.length c] 25)).alloc (.cells #[.string ⟨#[]⟩, .slice none 0 0] 25)).heap.size ≠ F := by have := hW2.out; omega
      have nT : ((w.alloc (.cells #[.string t.name, .slice a t.args.length c] 25)).alloc (.cells #[.string ⟨#[]⟩, .slice none 0 0] 25)).heap.size ≠ w.heap.size := by have := hW2.out; omega
      clear hf f1
      go_enter Tryd.func58, Tryd.ntmps58
      go_wp2_with (go_at_call 42; refine (isVariable_all _ _).mono ?_; rintro e w' ⟨rfl, rfl⟩; rw [HV.out])
      generalize ((w.alloc (.cells #[.string t.name, .slice a t.args.length c] 25)).alloc (.cells #[.string ⟨#[]⟩, .slice none 0 0] 25)) = w0 at *
      go_region_held3 (fun w' => w'.cell? ⟨F, 1, none⟩ = some (.func (.func 44) #[] #[.pointer (some ⟨B, 0, none⟩)]) ∧ w'.cell? ⟨w.heap.size, 0, none⟩ = some (.string t.name)) (first | exact hS | exact ⟨g1, g0⟩ | exact two_keep hS nF nT | exact two_keep (two_keep hS nF nT) nF nT | go_keep)
        ((go_at_call 44; refine (LKA.out _ (by first | exact (Below.refl _ _).drew | exact ((Below.refl _ _).alloc (Nat.le_refl _) _).drew)).mono ?_; rintro e w1 ⟨ax, cx, rfl, hb1, hsx⟩; have HSX := hide hsx; clear hsx; (first | (have hB0 := way1 hb1; have hS := HKP.out _ hB0) | (have hB0 := way2 hb1; have xb := hide (way2b hb1); have x0 := xb.out.cell 0; have x1 := xb.out.cell 1; have xf := xb.out.frozen; have hS := HKP.out _ hB0))))
      · generalize hz : (w1.alloc (Obj.cells #[Value.string x.name, Value.slice ax x.args.length cx] 25)) = wz at *
        have hbz : Below w0.heap.size w0 wz := by rw [← hz]; exact hB0.alloc hB0.size _
        have HSZ : Hid (Sl wz (fun b => X b ∧ b < w.heap.size) ax x.args) := by rw [← hz]; exact HSX.out.later ((Below.refl _ _).alloc (Nat.le_refl _) _)
        have q0 : wz.cell? ⟨w1.heap.size, 0, none⟩ = some (.string x.name) := by rw [← hz]; exact (Blk.new w1 _ _).cell 0
        have q1 : wz.cell? ⟨w1.heap.size, 1, none⟩ = some (.slice ax x.args.length cx) := by rw [← hz]; exact (Blk.new w1 _ _).cell 1
        have hwz : Hid (w.heap.size + 2 ≤ wz.heap.size) := Nat.le_trans hW2.out hbz.size
        have HBZ := hide hbz
        clear hbz hz
        go_wp2_with fail
        refine (knotC_any F _ x n _ wz (fun b => X b ∧ b < w.heap.size) ⟨ax, cx, rfl, HSZ.out⟩ (fun b hb => hXF b hb.1) hn (F0.out.below HBZ.out F0.out.lt)).mono ?_
        rintro e w9 ⟨s', a', l', c', m, rfl, hF1, hx1, hy1, hn1⟩
        have R9 := hide ((RW.out.below HBZ.out RW.out.lt).ex hx1 (by omega))
        have HX9 := hide ((EXW.out.trans (Ex.ofBelow HBZ.out)).trans hx1)
        have HF9 := hide hF1
        have HY := hide hy1
        have HN := hide hn1
        clear hF1 hx1 hy1 hn1
        have r0 : w9.cell? ⟨w.heap.size + 1, 0, none⟩ = some (.string ⟨#[]⟩) := R9.out.cell 0
        have r1 : w9.cell? ⟨w.heap.size + 1, 1, none⟩ = some (.slice none 0 0) := R9.out.cell 1
        have rf := R9.out.frozen
        go_wp2_with fail
        refine bodyPost_ret (v := .agg #[.string s', .slice a' l' c']) (by simp [results, Tryd.results58, go_sem, World.cell?_setCell_same, World.cell?_setCell_other, r0, r1]) rfl ?_
        rw [HT.out]
        exact ff_end (by omega) hwz.out HF9.out HX9.out HY.out HN.out
      · generalize hz : ((w1.setCell { block := w0.heap.size, off := 0 } (Value.string x.name)).setCell { block := w0.heap.size, off := 1 } (Value.slice ax x.args.length cx)) = wz at *
        have hbz : Below w0.heap.size w0 wz := by rw [← hz]; exact (hB0.setCell (Nat.le_refl _) _).setCell (Nat.le_refl _) _
        have HSZ : Hid (Sl wz (fun b => X b ∧ b < w.heap.size) ax x.args) := by
          rw [← hz]
          refine HSX.out.kept fun b hb => ?_
          have hb2 := hb.2
          have hb3 := hW2.out
          rw [Below.heap_setCell _ _ _ _ (by simp; omega), Below.heap_setCell _ _ _ _ (by simp; omega)]
        have q0 : wz.cell? ⟨w0.heap.size, 0, none⟩ = some (.string x.name) := by rw [← hz]; simp [World.cell?_setCell_same, World.cell?_setCell_other, x0, x1]
        have q1 : wz.cell? ⟨w0.heap.size, 1, none⟩ = some (.slice ax x.args.length cx) := by rw [← hz]; simp [World.cell?_setCell_same, World.cell?_setCell_other, x0, x1]
        have hwz : Hid (w.heap.size + 2 ≤ wz.heap.size) := Nat.le_trans hW2.out hbz.size
        have HBZ := hide hbz
        clear hbz hz
        go_wp2_with fail
        refine (knotC_any F _ x n _ wz (fun b => X b ∧ b < w.heap.size) ⟨ax, cx, rfl, HSZ.out⟩ (fun b hb => hXF b hb.1) hn (F0.out.below HBZ.out F0.out.lt)).mono ?_
        rintro e w9 ⟨s', a', l', c', m, rfl, hF1, hx1, hy1, hn1⟩
        have R9 := hide ((RW.out.below HBZ.out RW.out.lt).ex hx1 (by omega))
        have HX9 := hide ((EXW.out.trans (Ex.ofBelow HBZ.out)).trans hx1)
        have HF9 := hide hF1
        have HY := hide hy1
        have HN := hide hn1
        clear hF1 hx1 hy1 hn1
        have r0 : w9.cell? ⟨w.heap.size + 1, 0, none⟩ = some (.string ⟨#[]⟩) := R9.out.cell 0
        have r1 : w9.cell? ⟨w.heap.size + 1, 1, none⟩ = some (.slice none 0 0) := R9.out.cell 1
        have rf := R9.out.frozen
        go_wp2_with fail
        refine bodyPost_ret (v := .agg #[.string s', .slice a' l' c']) (by simp [results, Tryd.results58, go_sem, World.cell?_setCell_same, World.cell?_setCell_other, r0, r1]) rfl ?_
        rw [HT.out]
        exact ff_end (by omega) hwz.out HF9.out HX9.out HY.out HN.out
    | none =>
      have HT : Hid (fT ls t = ⟨t.name, fL ls t.args⟩) := by unfold Hid fT fN; rw [HV.out, hf]; rfl
      have LKA : Hid (∀ w', Below ((w.alloc (.cells #[.string t.name, .slice a t.args.length c] 25)).alloc (.cells #[.string ⟨#[]⟩, .slice none 0 0] 25)).heap.size ((w.alloc (.cells #[.string t.name, .slice a t.args.length c] 25)).alloc (.cells #[.string ⟨#[]⟩, .slice none 0 0] 25)) w' → Calls Tryd.prog 44 #[.string t.name, .pointer (some ⟨B, 0, none⟩)] w' fun e w'' => e = .returned (.tuple #[.agg #[.string ⟨#[]⟩, .slice none 0 0], .bool false]) ∧ Below w'.heap.size w' w'') := fun w' hb => by
        obtain ⟨h1, h2, h3⟩ := E0.out.later hb
        refine (look1_any ls t.name B r L w' X h1 h2 h3).mono fun e w'' hp => ?_
        obtain ⟨hb2, hc⟩ := hp
        rcases hc with ⟨x, _, _, hx, _⟩ | ⟨_, he⟩
        · rw [hf] at hx; cases hx
        · exact ⟨he, hb2⟩
      have HKP : Hid (∀ w', Below ((w.alloc (.cells #[.string t.name, .slice a t.args.length c] 25)).alloc (.cells #[.string ⟨#[]⟩, .slice none 0 0] 25)).heap.size ((w.alloc (.cells #[.string t.name, .slice a t.args.length c] 25)).alloc (.cells #[.string ⟨#[]⟩, .slice none 0 0] 25)) w' → w'.cell? ⟨F, 1, none⟩ = some (.func (.func 44) #[] #[.pointer (some ⟨B, 0, none⟩)]) ∧ w'.cell? ⟨w.heap.size, 0, none⟩ = some (.string t.name)) := fun w' hb => ⟨(F0.out.below hb F0.out.lt).cell 1, (T0.out.below hb T0.out.lt).cell 0⟩
      have nF : ((w.alloc (.cells #[.string t.name, .slice a t.args.length c] 25)).alloc (.cells #[.string ⟨#[]⟩, .slice none 0 0] 25)).heap.size ≠ F := by have := hW2.out; omega
      have nT : ((w.alloc (.cells #[.string t.name, .slice a t.args.length c] 25)).alloc (.cells #[.string ⟨#[]⟩, .slice none 0 0] 25)).heap.size ≠ w.heap.size := by have := hW2.out; omega
      clear hf f1
      go_enter Tryd.func58, Tryd.ntmps58
      go_wp2_with (go_at_call 42; refine (isVariable_all _ _).mono ?_; rintro e w' ⟨rfl, rfl⟩; rw [HV.out])
      generalize ((w.alloc (.cells #[.string t.name, .slice a t.args.length c] 25)).alloc (.cells #[.string ⟨#[]⟩, .slice none 0 0] 25)) = w0 at *
      go_region_held3 (fun w' => w'.cell? ⟨F, 1, none⟩ = some (.func (.func 44) #[] #[.pointer (some ⟨B, 0, none⟩)]) ∧ w'.cell? ⟨w.heap.size, 0, none⟩ = some (.string t.name)) (first | exact hS | exact ⟨g1, g0⟩ | exact two_keep hS nF nT | exact two_keep (two_keep hS nF nT) nF nT | go_keep)
        ((go_at_call 44; refine (LKA.out _ (by first | exact (Below.refl _ _).drew | exact ((Below.refl _ _).alloc (Nat.le_refl _) _).drew)).mono ?_; rintro e w1 ⟨rfl, hb1⟩; (first | (have hB0 := way1 hb1; have hS := HKP.out _ hB0) | (have hB0 := way2 hb1; have xb := hide (way2b hb1); have x0 := xb.out.cell 0; have x1 := xb.out.cell 1; have xf := xb.out.frozen; have hS := HKP.out _ hB0))))
      · generalize hz : (w1.alloc (Obj.cells #[Value.string { data := #[] }, Value.slice none 0 0] 25)) = wz at *
        have hbz : Below w0.heap.size w0 wz := by rw [← hz]; exact hB0.alloc hB0.size _
        have t0 : wz.cell? ⟨w.heap.size, 0, none⟩ = some (.string t.name) := (T0.out.below hbz T0.out.lt).cell 0
        have t1 : wz.cell? ⟨w.heap.size, 1, none⟩ = some (.slice a t.args.length c) := (T0.out.below hbz T0.out.lt).cell 1
        have hwz : Hid (w.heap.size + 2 ≤ wz.heap.size) := Nat.le_trans hW2.out hbz.size
        have HBZ := hide hbz
        clear hbz
        go_wp2_with fail
        refine (H.out _ (S0.out.later HBZ.out) (F0.out.below HBZ.out F0.out.lt) (E0.out.later HBZ.out)).mono ?_
        rintro e w9 ⟨s', a', l', c', m, rfl, hF1, hx1, hy1, hn1⟩
        have R9 := hide ((RW.out.below HBZ.out RW.out.lt).ex hx1 (by omega))
        have HX9 := hide ((EXW.out.trans (Ex.ofBelow HBZ.out)).trans hx1)
        have HF9 := hide hF1
        have HY := hide hy1
        have HN := hide hn1
        clear hF1 hx1 hy1 hn1
        have r0 : w9.cell? ⟨w.heap.size + 1, 0, none⟩ = some (.string ⟨#[]⟩) := R9.out.cell 0
        have r1 : w9.cell? ⟨w.heap.size + 1, 1, none⟩ = some (.slice none 0 0) := R9.out.cell 1
        have rf := R9.out.frozen
        go_wp2_with fail
        refine bodyPost_ret (v := .agg #[.string s', .slice a' l' c']) (by simp [results, Tryd.results58, go_sem, World.cell?_setCell_same, World.cell?_setCell_other, r0, r1]) rfl ?_
        rw [HT.out]
        exact ff_end (by omega) hwz.out HF9.out HX9.out HY.out HN.out
      · generalize hz : ((w1.setCell { block := w0.heap.size, off := 0 } (Value.string { data := #[] })).setCell { block := w0.heap.size, off := 1 } (Value.slice none 0 0)) = wz at *
        have hbz : Below w0.heap.size w0 wz := by rw [← hz]; exact (hB0.setCell (Nat.le_refl _) _).setCell (Nat.le_refl _) _
        have t0 : wz.cell? ⟨w.heap.size, 0, none⟩ = some (.string t.name) := (T0.out.below hbz T0.out.lt).cell 0
        have t1 : wz.cell? ⟨w.heap.size, 1, none⟩ = some (.slice a t.args.length c) := (T0.out.below hbz T0.out.lt).cell 1
        have hwz : Hid (w.heap.size + 2 ≤ wz.heap.size) := Nat.le_trans hW2.out hbz.size
        have HBZ := hide hbz
        clear hbz
        go_wp2_with fail
        refine (H.out _ (S0.out.later HBZ.out) (F0.out.below HBZ.out F0.out.lt) (E0.out.later HBZ.out)).mono ?_
        rintro e w9 ⟨s', a', l', c', m, rfl, hF1, hx1, hy1, hn1⟩
        have R9 := hide ((RW.out.below HBZ.out RW.out.lt).ex hx1 (by omega))
        have HX9 := hide ((EXW.out.trans (Ex.ofBelow HBZ.out)).trans hx1)
        have HF9 := hide hF1
        have HY := hide hy1
        have HN := hide hn1
        clear hF1 hx1 hy1 hn1
        have r0 : w9.cell? ⟨w.heap.size + 1, 0, none⟩ = some (.string ⟨#[]⟩) := R9.out.cell 0
        have r1 : w9.cell? ⟨w.heap.size + 1, 1, none⟩ = some (.slice none 0 0) := R9.out.cell 1
        have rf := R9.out.frozen
        go_wp2_with fail
        refine bodyPost_ret (v := .agg #[.string s', .slice a' l' c']) (by simp [results, Tryd.results58, go_sem, World.cell?_setCell_same, World.cell?_setCell_other, r0, r1]) rfl ?_
        rw [HT.out]
        exact ff_end (by omega) hwz.out HF9.out HX9.out HY.out HN.out
end Go.Proofs.YtglcijkhlppjfaaDoor

/- Walks: what lies below a knot is filled. -/
namespace Go.Proofs.YtglcijkhlppjfaaDoor
open Go.RowKit
set_option linter.unusedSimpArgs false
set_option linter.unusedVariables false
set_option maxRecDepth 8000

theorem fL_map (ls : List Bd) : ∀ l : List Tm, fL ls l = l.map (fT ls)
  | [] => by simp [fL]
  | ⟨s, a⟩ :: r => by rw [fL, fL_map ls r]; rfl

set_option maxHeartbeats 1000000 in
theorem knotF_any (F B r : Nat) (ls : List Bd) (L : List (ByteArray × Value)) (hBF : B ≠ F) (hrF : r ≠ F) (t : Tm) : ∀ (n : Nat) (v : Value) (w : World) (X : Nat → Prop), TV w X v t → (∀ b, X b → b ≠ F) → n ≤ 1000000 → Blk w F #[.int .i64 (n : Int), .func (.func 44) #[] #[.pointer (some ⟨B, 0, none⟩)]] 89 → Env w B r X ls L →
    Calls Tryd.prog 73 #[.pointer (some ⟨F, 0, none⟩), v, .func (.func 58) #[.pointer (some ⟨F, 0, none⟩)] #[]] w fun e w' => CpPost w F (.func (.func 44) #[] #[.pointer (some ⟨B, 0, none⟩)]) ⟨t.name, fL ls t.args⟩ n e w' := by
  induction t using Tm.ind with
  | h s l ih =>
    intro n v w X hv hXF hn hF hE
    obtain ⟨a, c, rfl, hs⟩ := hv
    dsimp only
    generalize hsv : Value.func (.func 44) #[] #[.pointer (some ⟨B, 0, none⟩)] = sv at *
    obtain ⟨M, hM⟩ : ∃ M, fL ls l = M := ⟨_, rfl⟩
    rw [hM]
    have hML : M.length = l.length := by rw [← hM, fL_map]; simp
    have HMK : Hid (∀ k (h : k < M.length) (h' : k < l.length), M[k] = fT ls l[k]) := fun k h h' => by subst hM; simp [fL_map]
    have HE := hide hE
    clear hE hM
    have IH := hide ih
    clear ih
    obtain ⟨i0, hi0, hz0, hz1, hz2⟩ := info_parts Tryd.infoTerm
    have f0 : ∀ o, (w.alloc o).cell? ⟨F, 0, none⟩ = some (.int .i64 (n : Int)) := fun o => (hF.alloc o).cell 0
    have ff : ∀ o, (w.alloc o).frozen? ⟨F, 0, none⟩ = false := fun o => (hF.alloc o).frozen 0
    have hFl : F < w.heap.size := hF.lt
    go_enter Tryd.func73, Tryd.ntmps73
    go_wp2_with fail
    have E3 : Hid (KnSet w F (w.heap.size + 1 + 1) s (.slice none 0 0) #[.int .i64 ((n : Int) - 1), sv] ((((w.setCell ⟨F, 0, none⟩ (.int .i64 ((n : Int) - 1))).alloc (.cells #[.string s, .slice a l.length c] 25)).alloc (.cells #[.string ⟨#[]⟩, .slice none 0 0] 25)).alloc (.cells #[.string s, .slice none 0 0] 25))) := by
      refine ⟨((((Ex.refl F w).set 0 _).alloc _).alloc _).alloc _, ?_, ?_, (((hF.set 0 _).alloc _).alloc _).alloc _, by simp [World.setCell]⟩
      · have h := (Blk.new ((w.setCell ⟨F, 0, none⟩ (.int .i64 ((n : Int) - 1))).alloc (.cells #[.string s, .slice a l.length c] 25)) #[.string ⟨#[]⟩, .slice none 0 0] 25).alloc (.cells #[.string s, .slice none 0 0] 25)
        simpa [World.setCell] using h
      · have h := Blk.new (((w.setCell ⟨F, 0, none⟩ (.int .i64 ((n : Int) - 1))).alloc (.cells #[.string s, .slice a l.length c] 25)).alloc (.cells #[.string ⟨#[]⟩, .slice none 0 0] 25)) #[.string s, .slice none 0 0] 25
        simpa [World.setCell] using h
    generalize ((((w.setCell ⟨F, 0, none⟩ (.int .i64 ((n : Int) - 1))).alloc (.cells #[.string s, .slice a l.length c] 25)).alloc (.cells #[.string ⟨#[]⟩, .slice none 0 0] 25)).alloc (.cells #[.string s, .slice none 0 0] 25)) = w3 at *
    generalize hOe : w.heap.size + 1 + 1 = O at *
    have hO : w.heap.size + 2 ≤ O := by omega
    clear hOe
    clear f0 ff
    have HS := hide hs
    have hl := hs.1
    have HXF := hide hXF
    have hz : sizeL [(⟨s, M⟩ : Tm)] = 1 + sizeL M := by simp [sizeL]
    clear hs hXF
    go_loopw [23] (fun i wr => KnInv w F O s sv M n i wr) (fun i wr => l.length - (intOf i).toNat)
    case atStart =>
      refine ⟨0, .slice none 0 0, Nat.zero_le _, rfl, ?_⟩
      by_cases hn0 : n = 0
      · subst hn0
        exact Or.inr ⟨by omega, E3.out, none, 0, 0, rfl⟩
      · refine Or.inl ⟨n - 1, [], by simp [sizeL]; omega, ?_, Row.start _ _ _ _⟩
        rw [show ((n - 1 : Nat) : Int) = (n : Int) - 1 by omega]
        exact E3.out
    case round =>
      obtain ⟨k, u, hk, rfl, hcase⟩ := hrel
      rcases hcase with ⟨m, xs, hm, hset, hrow⟩ | ⟨hbig, hset, a9, l9, c9, rfl⟩
      · have XS := hide hset
        have XW := hide hrow
        have HMM := hide hm
        clear hset hrow
        by_cases hlt : k < l.length
        · obtain ⟨b, o, a', c', rfl, d0, d1, hx⟩ := (HS.out.ex XS.out.1 HXF.out).get (Below.refl _ _) (fun _ _ h => h) k hlt
          obtain ⟨av, cv, ev, hsx⟩ := hx
          simp at ev
          obtain ⟨rfl, rfl⟩ := ev
          have hltM : k < M.length := by omega
          obtain ⟨y, hy⟩ : ∃ y, fT ls l[k] = y := ⟨_, rfl⟩
          have hMy : Hid (M[k] = y) := by unfold Hid; rw [HMK.out k hltM hlt, hy]
          have hmn : m ≤ 1000000 := by omega
          have HOF : Hid (O ≠ F) := by unfold Hid; omega
          have HFO1 : Hid (F < O + 1) := by unfold Hid; omega
          have hlen := sizeL_len M
          have hsk : (M.take k).length = k := by simp; omega
          have hkn : k ≤ 1000000 := by have h1 := sizeL_len (M.take k); rw [hsk] at h1; omega
          have HL1 : Hid ((M.take k).length + 1 ≤ maxLen ∧ ((M.take k).length + 1) * 40 ≤ 140737488355328) := by unfold Hid; rw [hsk]; exact ⟨by unfold maxLen; omega, by omega⟩
          clear hsk
          have IHQ : Hid (Calls Tryd.prog 58 #[.pointer (some ⟨F, 0, none⟩), .agg #[.string l[k].name, .slice a' l[k].args.length c']] (wr.alloc (.cells #[.string l[k].name, .slice a' l[k].args.length c'] 25)).drew fun e w'' => CpPost (wr.alloc (.cells #[.string l[k].name, .slice a' l[k].args.length c'] 25)).drew F sv y m e w'') := by
            have hEr : Env (wr.alloc (.cells #[.string l[k].name, .slice a' l[k].args.length c'] 25)).drew B r X ls L := ((HE.out.ex XS.out.1 hBF hrF HXF.out).later ((Below.refl _ _).alloc (Nat.le_refl _) _)).later ((Below.refl _ _).drew)
            have hFr : Blk (wr.alloc (.cells #[.string l[k].name, .slice a' l[k].args.length c'] 25)).drew F #[.int .i64 (m : Int), sv] 89 := (XS.out.2.2.2.1.alloc _).drewN 1
            have hSr : Sl (wr.alloc (.cells #[.string l[k].name, .slice a' l[k].args.length c'] 25)).drew X a' l[k].args := (hsx.later ((Below.refl _ _).alloc (Nat.le_refl _) _)).later ((Below.refl _ _).drew)
            have IH2 := IH.out l[k] (List.getElem_mem hlt) m
            rw [← hy]
            clear HMM XS XW
            subst hsv
            exact ffill_of F B r ls L l[k] m a' c' _ X hmn HXF.out hBF hrF hSr hFr hEr (fun w' h1 h2 h3 => IH2 _ w' X ⟨a', c', rfl, h1⟩ HXF.out hmn h2 h3)
          have f0 : ∀ o, (wr.alloc o).cell? ⟨F, 0, none⟩ = some (.int .i64 (m : Int)) := fun o => (XS.out.2.2.2.1.alloc o).cell 0
          have o1 : ∀ o, (wr.alloc o).cell? ⟨O, 1, none⟩ = some u := fun o => (XS.out.2.2.1.alloc o).cell 1
          have hm0 : ¬ (m : Int) < 0 := by omega
          by_cases hle : sizeL [y] ≤ m
          · have IHG : Hid (Calls Tryd.prog 58 #[.pointer (some ⟨F, 0, none⟩), .agg #[.string l[k].name, .slice a' l[k].args.length c']] (wr.alloc (.cells #[.string l[k].name, .slice a' l[k].args.length c'] 25)).drew fun e w'' => ∃ a1 c1, e = .returned (.agg #[.string y.name, .slice a1 y.args.length c1]) ∧ Blk w'' F #[.int .i64 ((m : Int) - sizeL [y]), sv] 89 ∧ Ex F wr w'' ∧ Sl w'' (fun b => wr.heap.size ≤ b) a1 y.args) := IHQ.out.mono fun e w'' hp => by
              obtain ⟨s1, a1, l1, c1, m1, h1, h2, h3, h4, _⟩ := hp
              obtain ⟨rfl, rfl, rfl, h5⟩ := h4 hle
              exact ⟨a1, c1, h1, h2, (((Ex.refl F wr).alloc _).drew).trans h3, h5.mono fun b hb _ => by simp at hb; omega⟩
            clear IHQ
            go_wp2_with fail
            go_region_law (first
              | (go_simp; go_at_call 58; refine IHG.out.mono ?_; rintro e w1 ⟨a1, c1, rfl, hF1, he1, hs1⟩; have hc3 : ∀ o, (w1.alloc o).cell? ⟨O, 1, none⟩ = some u := fun o => ((Blk.ex XS.out.2.2.1 he1 HOF.out).alloc o).cell 1; have hc4 : w1.cell? ⟨O, 1, none⟩ = some u := (Blk.ex XS.out.2.2.1 he1 HOF.out).cell 1)
              | (refine step_append_lies _ rfl _ _ 23 rfl (O + 1) 25 i0 _ 2 40 Tryd.underlying23 hi0 hz0 hz1 hz2 rfl (by decide) u (M.take k).length xs rfl (by exact (Row.ex (B := F) XW.out he1 HFO1.out (fun h => h)).own.alloc _) ⟨w1.heap.size, 0, none⟩ 1 1 [.string y.name, .slice a1 y.args.length c1] rfl rfl (cell_two_new _ _ _ _) (fun x hx => by simp at hx; rcases hx with rfl | rfl <;> rfl) (by decide) HL1.out.1 HL1.out.2 (by have := he1.size; have := XS.out.2.2.2.2; simp; omega) _ rfl ?_; intro g cap w3 hown3 hgrow3 hat3 hlt3; have hB3 := hide (((Blk.ex XS.out.2.2.1 he1 HOF.out).alloc _).grown hgrow3 (XW.out.ne (Nat.lt_succ_self _))); have hc5 : w3.cell? ⟨O, 1, none⟩ = some u := hB3.out.cell 1; have hf5 := hB3.out.frozen 1))
            all_goals
              have HK := hide (kn_set (v := .slice (some ⟨g, 0, none⟩) ((M.take k).length + 1) cap) hFl hO XS.out (fun j hj => (XW.out.own.lt j hj).1) he1 hF1 hgrow3)
              have HRW := hide (kn_row (by omega) XS.out.2.2.2.2 XW.out he1 ⟨a1, c1, rfl, hs1⟩ hown3 hgrow3 hat3)
              clear hown3 hgrow3 hat3 hc3 hc4 hc5 hf5 hB3 hF1 he1 hs1 hlt3
              go_wp2_with fail
              go_roundw
              case rel =>
                have hkl : (M.take k).length = k := by simp; omega
                have h1 := HK.out
                have h2 := HRW.out
                have hmm := HMM.out
                simp only [hkl] at h1 h2
                have hmk : min k l.length = k := by omega
                simp only [hmk]
                refine ⟨k + 1, .slice (some ⟨g, 0, none⟩) (k + 1) cap, by omega, by go_num, Or.inl ⟨m - sizeL [y], xs ++ [.string y.name, .slice a1 y.args.length c1], by rw [sizeL_take M k hltM, hMy.out]; omega, ?_, ?_⟩⟩
                · rw [show ((m - sizeL [y] : Nat) : Int) = (m : Int) - sizeL [y] by omega]
                  exact h1
                · rw [List.take_succ_eq_append_getElem hltM, hMy.out]
                  exact h2
              case measure => simp [intOf]; omega
          · have IHG : Hid (Calls Tryd.prog 58 #[.pointer (some ⟨F, 0, none⟩), .agg #[.string l[k].name, .slice a' l[k].args.length c']] (wr.alloc (.cells #[.string l[k].name, .slice a' l[k].args.length c'] 25)).drew fun e w'' => ∃ s1 a1 l1 c1, e = .returned (.agg #[.string s1, .slice a1 l1 c1]) ∧ Blk w'' F #[.int .i64 (-1), sv] 89 ∧ Ex F wr w'') := IHQ.out.mono fun e w'' hp => by
              obtain ⟨s1, a1, l1, c1, m1, h1, h2, h3, _, h4⟩ := hp
              obtain rfl := h4 (by omega)
              exact ⟨s1, a1, l1, c1, h1, h2, (((Ex.refl F wr).alloc _).drew).trans h3⟩
            clear IHQ
            go_wp2_with fail
            go_region_law (first
              | (go_simp; go_at_call 58; refine IHG.out.mono ?_; rintro e w1 ⟨s1, a1, l1, c1, rfl, hF1, he1⟩; have hc3 : ∀ o, (w1.alloc o).cell? ⟨O, 1, none⟩ = some u := fun o => ((Blk.ex XS.out.2.2.1 he1 HOF.out).alloc o).cell 1; have hc4 : w1.cell? ⟨O, 1, none⟩ = some u := (Blk.ex XS.out.2.2.1 he1 HOF.out).cell 1)
              | (refine step_append_lies _ rfl _ _ 23 rfl (O + 1) 25 i0 _ 2 40 Tryd.underlying23 hi0 hz0 hz1 hz2 rfl (by decide) u (M.take k).length xs rfl (by exact (Row.ex (B := F) XW.out he1 HFO1.out (fun h => h)).own.alloc _) ⟨w1.heap.size, 0, none⟩ 1 1 [.string s1, .slice a1 l1 c1] rfl rfl (cell_two_new _ _ _ _) (fun x hx => by simp at hx; rcases hx with rfl | rfl <;> rfl) (by decide) HL1.out.1 HL1.out.2 (by have := he1.size; have := XS.out.2.2.2.2; simp; omega) _ rfl ?_; intro g cap w3 hown3 hgrow3 hat3 hlt3; have hB3 := hide (((Blk.ex XS.out.2.2.1 he1 HOF.out).alloc _).grown hgrow3 (XW.out.ne (Nat.lt_succ_self _))); have hc5 : w3.cell? ⟨O, 1, none⟩ = some u := hB3.out.cell 1; have hf5 := hB3.out.frozen 1))
            all_goals
              have HK := hide (kn_set (v := .slice (some ⟨g, 0, none⟩) ((M.take k).length + 1) cap) hFl hO XS.out (fun j hj => (XW.out.own.lt j hj).1) he1 hF1 hgrow3)
              clear hown3 hgrow3 hat3 hc3 hc4 hc5 hf5 hB3 hF1 he1 hlt3
              go_wp2_with fail
              go_roundw
              case rel =>
                have hkl : (M.take k).length = k := by simp; omega
                have h0 := HK.out
                have hmm := HMM.out
                simp only [hkl] at h0
                have hmk : min k l.length = k := by omega
                simp only [hmk]
                refine ⟨k + 1, .slice (some ⟨g, 0, none⟩) (k + 1) cap, by omega, by go_num, Or.inr ⟨?_, h0, _, _, _, rfl⟩⟩
                have h1 := sizeL_take M k hltM
                rw [hMy.out] at h1
                have h2 := sizeL_take_le M (k + 1)
                omega
              case measure => simp [intOf]; omega
        · have htk : M.take k = M := List.take_of_length_le (by omega)
          rw [htk] at XW HMM
          obtain ⟨a9, c9, hu9, hsl9⟩ := XW.out.sl
          subst hu9
          have S9 := hide hsl9
          clear hsl9
          have r0 : wr.cell? ⟨w.heap.size + 1, 0, none⟩ = some (.string ⟨#[]⟩) := XS.out.2.1.cell 0
          have r1 : wr.cell? ⟨w.heap.size + 1, 1, none⟩ = some (.slice none 0 0) := XS.out.2.1.cell 1
          have rf := XS.out.2.1.frozen
          have o0 : wr.cell? ⟨O, 0, none⟩ = some (.string s) := XS.out.2.2.1.cell 0
          have o1 : wr.cell? ⟨O, 1, none⟩ = some (.slice a9 M.length c9) := XS.out.2.2.1.cell 1
          go_wp2_with fail
          refine bodyPost_ret (v := .agg #[.string s, .slice a9 M.length c9]) (by simp [results, Tryd.results73, go_sem, World.cell?_setCell_same, World.cell?_setCell_other, r0, r1, hML]) rfl ?_
          have hmm := HMM.out
          refine ⟨s, a9, M.length, c9, m, rfl, (XS.out.2.2.2.1.setOther _ _ (by omega)).setOther _ _ (by omega), (XS.out.1.setNew (by omega) _ _).setNew (by omega) _ _, fun h => ⟨by rw [hz]; omega, rfl, rfl, (S9.out.kept fun b hb => ?_).mono fun b hb _ => ?_⟩, fun h => by omega⟩
          · have hb' : O + 1 ≤ b := hb.elim False.elim id
            rw [Below.heap_setCell _ _ _ _ (by simp; omega), Below.heap_setCell _ _ _ _ (by simp; omega)]
          · have hb' : O + 1 ≤ b := hb.elim False.elim id
            omega
      · have XS := hide hset
        clear hset
        have f0 : ∀ o, (wr.alloc o).cell? ⟨F, 0, none⟩ = some (.int .i64 (-1)) := fun o => (XS.out.2.2.2.1.alloc o).cell 0
        by_cases hlt : k < l.length
        · obtain ⟨b, o, a', c', rfl, d0, d1, hx⟩ := (HS.out.ex XS.out.1 HXF.out).get (Below.refl _ _) (fun _ _ h => h) k hlt
          clear hx
          have o0 : ∀ o, (wr.alloc o).cell? ⟨O, 0, none⟩ = some (.string s) := fun o => (XS.out.2.2.1.alloc o).cell 0
          have o1 : ∀ o, (wr.alloc o).cell? ⟨O, 1, none⟩ = some (.slice a9 l9 c9) := fun o => (XS.out.2.2.1.alloc o).cell 1
          have r0 : wr.cell? ⟨w.heap.size + 1, 0, none⟩ = some (.string ⟨#[]⟩) := XS.out.2.1.cell 0
          have r1 : wr.cell? ⟨w.heap.size + 1, 1, none⟩ = some (.slice none 0 0) := XS.out.2.1.cell 1
          have rf := XS.out.2.1.frozen
          have hRl : w.heap.size + 1 < wr.heap.size := XS.out.2.1.lt
          go_wp2_with fail
          refine bodyPost_ret (v := .agg #[.string s, .slice a9 l9 c9]) (by simp [results, Tryd.results73, go_sem, World.cell?_setCell_same, World.cell?_setCell_other, r0, r1, hRl, World.cell?_alloc_old]) rfl ?_
          exact ⟨s, a9, l9, c9, -1, rfl, ((XS.out.2.2.2.1.setOther _ _ (by omega)).setOther _ _ (by omega)).alloc _, ((XS.out.1.setNew (by omega) _ _).setNew (by omega) _ _).alloc _, fun h => by omega, fun _ => rfl⟩
        · have r0 : wr.cell? ⟨w.heap.size + 1, 0, none⟩ = some (.string ⟨#[]⟩) := XS.out.2.1.cell 0
          have r1 : wr.cell? ⟨w.heap.size + 1, 1, none⟩ = some (.slice none 0 0) := XS.out.2.1.cell 1
          have rf := XS.out.2.1.frozen
          have o0 : wr.cell? ⟨O, 0, none⟩ = some (.string s) := XS.out.2.2.1.cell 0
          have o1 : wr.cell? ⟨O, 1, none⟩ = some (.slice a9 l9 c9) := XS.out.2.2.1.cell 1
          go_wp2_with fail
          refine bodyPost_ret (v := .agg #[.string s, .slice a9 l9 c9]) (by simp [results, Tryd.results73, go_sem, World.cell?_setCell_same, World.cell?_setCell_other, r0, r1]) rfl ?_
          exact ⟨s, a9, l9, c9, -1, rfl, (XS.out.2.2.2.1.setOther _ _ (by omega)).setOther _ _ (by omega), (XS.out.1.setNew (by omega) _ _).setNew (by omega) _ _, fun h => by omega, fun _ => rfl⟩
end Go.Proofs.YtglcijkhlppjfaaDoor

/- Walks: Fill. -/
namespace Go.Proofs.YtglcijkhlppjfaaDoor
open Go.RowKit
set_option linter.unusedSimpArgs false
set_option linter.unusedVariables false
set_option maxRecDepth 8000

theorem ffill_any (F B r : Nat) (ls : List Bd) (L : List (ByteArray × Value)) (t : Tm) (n : Nat) (a : Option Addr) (c : Nat) (w : World) (X : Nat → Prop) (hn : n ≤ 1000000) (hXF : ∀ b, X b → b ≠ F) (hBF : B ≠ F) (hrF : r ≠ F) (hs : Sl w X a t.args) (hF : Blk w F #[.int .i64 (n : Int), .func (.func 44) #[] #[.pointer (some ⟨B, 0, none⟩)]] 89) (hE : Env w B r X ls L) :
    Calls Tryd.prog 58 #[.pointer (some ⟨F, 0, none⟩), .agg #[.string t.name, .slice a t.args.length c]] w fun e w' => CpPost w F (.func (.func 44) #[] #[.pointer (some ⟨B, 0, none⟩)]) (fT ls t) n e w' :=
  ffill_of F B r ls L t n a c w X hn hXF hBF hrF hs hF hE (fun w' h1 h2 h3 => knotF_any F B r ls L hBF hrF t n _ w' X ⟨a, c, rfl, h1⟩ hXF hn h2 h3)

set_option maxHeartbeats 1000000 in
theorem fill_any (B r : Nat) (ls : List Bd) (L : List (ByteArray × Value)) (t : Tm) (n : Nat) (a : Option Addr) (c : Nat) (w : World) (X : Nat → Prop) (hn : n ≤ 1000000) (hs : Sl w X a t.args) (hE : Env w B r X ls L) :
    Calls Tryd.prog 43 #[.agg #[.string t.name, .slice a t.args.length c], .int .i64 (n : Int), .func (.func 44) #[] #[.pointer (some ⟨B, 0, none⟩)]] w fun e w' => Below w.heap.size w w' ∧
      ((sizeL [fT ls t] ≤ n ∧ ∃ a' c', e = .returned (.tuple #[.agg #[.string (fT ls t).name, .slice a' (fT ls t).args.length c'], .bool true]) ∧ Sl w' (fun b => w.heap.size ≤ b) a' (fT ls t).args) ∨ (n < sizeL [fT ls t] ∧ e = .returned (.tuple #[.agg #[.string ⟨#[]⟩, .slice none 0 0], .bool false]))) := by
  have hmf : ∀ (fn : Fn) (first cap : Array Value) (w : World), (Instr.makeFunc fn first cap).run Tryd.prog w = .ok (.func fn first cap) w := fun _ _ _ _ => rfl
  have HS := hide (hs.mono (Y := fun b => X b ∧ b < w.heap.size) fun b h1 h2 => ⟨h1, h2⟩)
  have HE : Hid (Env w B r (fun b => X b ∧ b < w.heap.size) ls L) := ⟨hE.1, hE.2.1, hE.2.2.imp fun a l hs => hs.mono fun b h1 h2 => ⟨h1, h2⟩⟩
  have hBl : B < w.heap.size := hE.1.lt
  have hrl : r < w.heap.size := hE.2.1.lt
  clear hs hE
  go_enter Tryd.func43, Tryd.ntmps43
  go_wp2_with fail
  have HB3 : Hid (Below w.heap.size w (((w.alloc (.cells #[.string t.name, .slice a t.args.length c] 25)).alloc (.cells #[.string ⟨#[]⟩, .slice none 0 0] 25)).alloc (.cells #[.int .i64 (n : Int), .func (.func 44) #[] #[.pointer (some ⟨B, 0, none⟩)]] 89))) := ((((Below.refl w.heap.size w).alloc (Nat.le_refl _) _).alloc (by simp) _).alloc (by simp; omega) _)
  have F3 : Hid (Blk (((w.alloc (.cells #[.string t.name, .slice a t.args.length c] 25)).alloc (.cells #[.string ⟨#[]⟩, .slice none 0 0] 25)).alloc (.cells #[.int .i64 (n : Int), .func (.func 44) #[] #[.pointer (some ⟨B, 0, none⟩)]] 89)) (w.heap.size + 1 + 1) #[.int .i64 (n : Int), .func (.func 44) #[] #[.pointer (some ⟨B, 0, none⟩)]] 89) := by
    have h := Blk.new ((w.alloc (.cells #[.string t.name, .slice a t.args.length c] 25)).alloc (.cells #[.string ⟨#[]⟩, .slice none 0 0] 25)) #[.int .i64 (n : Int), .func (.func 44) #[] #[.pointer (some ⟨B, 0, none⟩)]] 89
    unfold Hid
    simpa using h
  have R3 : Hid (Blk (((w.alloc (.cells #[.string t.name, .slice a t.args.length c] 25)).alloc (.cells #[.string ⟨#[]⟩, .slice none 0 0] 25)).alloc (.cells #[.int .i64 (n : Int), .func (.func 44) #[] #[.pointer (some ⟨B, 0, none⟩)]] 89)) (w.heap.size + 1) #[.string ⟨#[]⟩, .slice none 0 0] 25) := by
    have h := (Blk.new (w.alloc (.cells #[.string t.name, .slice a t.args.length c] 25)) #[.string ⟨#[]⟩, .slice none 0 0] 25).alloc (.cells #[.int .i64 (n : Int), .func (.func 44) #[] #[.pointer (some ⟨B, 0, none⟩)]] 89)
    unfold Hid
    simpa using h
  have z3 : (((w.alloc (.cells #[.string t.name, .slice a t.args.length c] 25)).alloc (.cells #[.string ⟨#[]⟩, .slice none 0 0] 25)).alloc (.cells #[.int .i64 (n : Int), .func (.func 44) #[] #[.pointer (some ⟨B, 0, none⟩)]] 89)).heap.size = w.heap.size + 3 := by simp
  generalize (((w.alloc (.cells #[.string t.name, .slice a t.args.length c] 25)).alloc (.cells #[.string ⟨#[]⟩, .slice none 0 0] 25)).alloc (.cells #[.int .i64 (n : Int), .func (.func 44) #[] #[.pointer (some ⟨B, 0, none⟩)]] 89)) = w3 at *
  refine (ffill_any (w.heap.size + 1 + 1) B r ls L t n a c w3 (fun b => X b ∧ b < w.heap.size) hn (fun b hb => by have := hb.2; omega) (by omega) (by omega) (HS.out.later HB3.out) F3.out (HE.out.later HB3.out)).mono ?_
  rintro e w9 ⟨s', a', l', c', m, rfl, hF9, hx9, hy, hno⟩
  have HF9 := hide hF9
  have HX9 := hide hx9
  have R9 := hide (R3.out.ex hx9 (by omega))
  have hz9 := hx9.size
  clear hF9 hx9
  have r0 : w9.cell? ⟨w.heap.size + 1, 0, none⟩ = some (.string ⟨#[]⟩) := R9.out.cell 0
  have r1 : w9.cell? ⟨w.heap.size + 1, 1, none⟩ = some (.slice none 0 0) := R9.out.cell 1
  have rf := R9.out.frozen
  have hRl : w.heap.size + 1 < w9.heap.size := R9.out.lt
  have HBW : Hid (Below w.heap.size w w9) := ⟨HX9.out.os.trans HB3.out.os, HX9.out.tape.trans HB3.out.tape, HX9.out.output.trans HB3.out.output, by omega, fun k hk => (HX9.out.block k (by omega) (by omega)).trans (HB3.out.block k hk)⟩
  by_cases hle : sizeL [fT ls t] ≤ n
  · obtain ⟨rfl, rfl, rfl, hsl⟩ := hy hle
    have HSL := hide hsl
    clear hy hno hsl
    have f0 : ∀ o, (w9.alloc o).cell? ⟨w.heap.size + 1 + 1, 0, none⟩ = some (.int .i64 ((n : Int) - sizeL [fT ls t])) := fun o => (HF9.out.alloc o).cell 0
    have hlt : ¬ ((n : Int) - sizeL [fT ls t]) < 0 := by omega
    go_wp2_with fail
    refine bodyPost_ret (v := .tuple #[.agg #[.string (fT ls t).name, .slice a' (fT ls t).args.length c'], .bool true]) (by simp [results, Tryd.results43, go_sem, World.cell?_setCell_same, World.cell?_setCell_other, r0, r1, hRl, World.cell?_alloc_old]) rfl ?_
    refine ⟨((HBW.out.setCell (by simp) _).setCell (by simp) _).alloc (by simp [World.setCell]; omega) _, Or.inl ⟨hle, a', c', rfl, ((HSL.out.kept fun b hb => ?_).later ((Below.refl _ _).alloc (Nat.le_refl _) _)).mono fun b hb _ => by omega⟩⟩
    rw [Below.heap_setCell _ _ _ _ (by simp; omega), Below.heap_setCell _ _ _ _ (by simp; omega)]
  · obtain rfl := hno (by omega)
    clear hy hno
    have f0 : ∀ o, (w9.alloc o).cell? ⟨w.heap.size + 1 + 1, 0, none⟩ = some (.int .i64 (-1)) := fun o => (HF9.out.alloc o).cell 0
    go_wp2_with fail
    refine bodyPost_ret (v := .tuple #[.agg #[.string ⟨#[]⟩, .slice none 0 0], .bool false]) (by simp [results, Tryd.results43, go_sem, World.cell?_setCell_same, World.cell?_setCell_other, r0, r1, hRl, World.cell?_alloc_old]) rfl ?_
    exact ⟨((HBW.out.setCell (by simp) _).setCell (by simp) _).alloc (by simp [World.setCell]; omega) _, Or.inr ⟨by omega, rfl⟩⟩
end Go.Proofs.YtglcijkhlppjfaaDoor

/- Walks: subst's fill. -/
namespace Go.Proofs.YtglcijkhlppjfaaDoor
open Go.RowKit
set_option linter.unusedSimpArgs false
set_option linter.unusedVariables false
set_option maxRecDepth 8000

set_option maxHeartbeats 1000000 in
theorem sfill_any (B r : Nat) (ls : List Bd) (L : List (ByteArray × Value)) (t : Tm) (a : Option Addr) (c : Nat) (w : World) (X : Nat → Prop) (hs : Sl w X a t.args) (hE : Env w B r X ls L) :
    Calls Tryd.prog 23 #[.agg #[.string t.name, .slice a t.args.length c], .func (.func 44) #[] #[.pointer (some ⟨B, 0, none⟩)]] w fun e w' => Below w.heap.size w w' ∧
      ((sizeL [fT ls t] ≤ 2000 ∧ ∃ a' c', e = .returned (.tuple #[.agg #[.string (fT ls t).name, .slice a' (fT ls t).args.length c'], .int .i64 0]) ∧ Sl w' (fun b => w.heap.size ≤ b) a' (fT ls t).args) ∨ (2000 < sizeL [fT ls t] ∧ e = .returned (.tuple #[.agg #[.string ⟨#[]⟩, .slice none 0 0], .int .i64 8]))) := by
  have HS := hide hs
  have HE := hide hE
  clear hs hE
  go_enter Tryd.func23, Tryd.ntmps23
  go_wp2_with fail
  have HB3 : Hid (Below w.heap.size w ((w.alloc (.cells #[.string t.name, .slice a t.args.length c] 25)).alloc (.cells #[.string ⟨#[]⟩, .slice none 0 0] 25))) := (((Below.refl w.heap.size w).alloc (Nat.le_refl _) _).alloc (by simp) _)
  have R3 : Hid (Blk ((w.alloc (.cells #[.string t.name, .slice a t.args.length c] 25)).alloc (.cells #[.string ⟨#[]⟩, .slice none 0 0] 25)) (w.heap.size + 1) #[.string ⟨#[]⟩, .slice none 0 0] 25) := by
    have h := (Blk.new (w.alloc (.cells #[.string t.name, .slice a t.args.length c] 25)) #[.string ⟨#[]⟩, .slice none 0 0] 25)
    unfold Hid
    simpa using h
  have z3 : ((w.alloc (.cells #[.string t.name, .slice a t.args.length c] 25)).alloc (.cells #[.string ⟨#[]⟩, .slice none 0 0] 25)).heap.size = w.heap.size + 2 := by simp
  generalize ((w.alloc (.cells #[.string t.name, .slice a t.args.length c] 25)).alloc (.cells #[.string ⟨#[]⟩, .slice none 0 0] 25)) = w3 at *
  refine (fill_any B r ls L t 2000 a c w3 X (by decide) (HS.out.later HB3.out) (HE.out.later HB3.out)).mono ?_
  rintro e w9 ⟨hb9, hcase⟩
  have R9 := hide (R3.out.below hb9 R3.out.lt)
  have HBW := hide (HB3.out.trans (hb9.mono (by omega)))
  have hz9 := hb9.size
  clear hb9
  have r0 : w9.cell? ⟨w.heap.size + 1, 0, none⟩ = some (.string ⟨#[]⟩) := R9.out.cell 0
  have r1 : w9.cell? ⟨w.heap.size + 1, 1, none⟩ = some (.slice none 0 0) := R9.out.cell 1
  have rf := R9.out.frozen
  have hRl : w.heap.size + 1 < w9.heap.size := R9.out.lt
  rcases hcase with ⟨hle, a', c', rfl, hsl⟩ | ⟨hle, rfl⟩
  · have HSL := hide hsl
    clear hsl
    go_wp2_with fail
    refine bodyPost_ret (v := .tuple #[.agg #[.string (fT ls t).name, .slice a' (fT ls t).args.length c'], .int .i64 0]) (by simp [results, Tryd.results23, go_sem, World.cell?_setCell_same, World.cell?_setCell_other, r0, r1, hRl, World.cell?_alloc_old]) rfl ?_
    refine ⟨((HBW.out.setCell (by simp) _).setCell (by simp) _).alloc (by simp [World.setCell]; omega) _, Or.inl ⟨hle, a', c', rfl, ((HSL.out.kept fun b hb => ?_).later ((Below.refl _ _).alloc (Nat.le_refl _) _)).mono fun b hb _ => by omega⟩⟩
    rw [Below.heap_setCell _ _ _ _ (by simp; omega), Below.heap_setCell _ _ _ _ (by simp; omega)]
  · go_wp2_with fail
    refine bodyPost_ret (v := .tuple #[.agg #[.string ⟨#[]⟩, .slice none 0 0], .int .i64 8]) (by simp [results, Tryd.results23, go_sem, World.cell?_setCell_same, World.cell?_setCell_other, r0, r1, hRl, World.cell?_alloc_old]) rfl ?_
    exact ⟨((HBW.out.setCell (by simp) _).setCell (by simp) _).alloc (by simp [World.setCell]; omega) _, Or.inr ⟨hle, rfl⟩⟩
end Go.Proofs.YtglcijkhlppjfaaDoor
