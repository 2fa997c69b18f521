/- Walks: a term is filled by a function that may turn what it looks into. -/
import Derived.Test.YteojdfmdhgnmfaaGreatZTopEmbedOwn
import Derived.Test.YteojdfmdhgnmfaaGreatZDTopEmbedOwn
import Derived.Test.YteojdfmdhgnmfaaGreatU2
namespace Go.Proofs.YteojdfmdhgnmfaaGreat
open Go.RowKit
set_option linter.unusedSimpArgs false
set_option linter.unusedVariables false
set_option maxRecDepth 8000

/-- A term with what stands for its variables. -/
def gN (lk : ByteArray → Option Tm) (s : ByteArray) (bs : List Tm) : Tm := if varB s = true then (match lk s with | some x => x | none => ⟨s, bs⟩) else ⟨s, bs⟩
def gL (lk : ByteArray → Option Tm) : List Tm → List Tm
  | [] => []
  | ⟨s, a⟩ :: r => gN lk s (gL lk a) :: gL lk r
def gT (lk : ByteArray → Option Tm) (t : Tm) : Tm := gN lk t.name (gL lk t.args)
theorem gL_map (lk : ByteArray → Option Tm) : ∀ l : List Tm, gL lk l = l.map (gT lk)
  | [] => by simp [gL]
  | ⟨s, a⟩ :: r => by rw [gL, gL_map lk r]; rfl
theorem gL_append (lk : ByteArray → Option Tm) (a b : List Tm) : gL lk (a ++ b) = gL lk a ++ gL lk b := by simp [gL_map]

/-- What is looked at: whether it has become too great, the blocks that it is made of. -/
abbrev Ev := Bool → (Nat → Prop) → World → Prop
structure EvOk (E : Ev) (Mt : Nat → Prop) : Prop where
  keep : ∀ f Y w w', E f Y w → (∀ b, Y b → w'.heap[b]? = w.heap[b]?) → E f Y w'
  inY : ∀ f Y w, E f Y w → ∀ b, Y b → b < w.heap.size
  mt : ∀ f Y w, E f Y w → ∀ b, Mt b → Y b
theorem EvOk.below {E : Ev} {Mt : Nat → Prop} (h : EvOk E Mt) {f : Bool} {Y : Nat → Prop} {w w' : World} (he : E f Y w) (hb : Below w.heap.size w w') : E f Y w' := h.keep f Y w w' he fun b hy => hb.block b (h.inY f Y w he b hy)
def sV (S : Nat) : Value := .func (.func 89) #[.pointer (some ⟨S, 0, none⟩)] #[]
/-- What looking gives. -/
def LkPost (E : Ev) (Mt : Nat → Prop) (o : Option Tm) (f : Bool) (Y : Nat → Prop) (w : World) (e : Ending) (w' : World) : Prop :=
  ∃ (s : ByteArray) (a : Option Addr) (n c : Nat) (ok : Bool) (f' : Bool) (Y' : Nat → Prop), e = .returned (.tuple #[.agg #[.string s, .slice a n c], .bool ok]) ∧ E f' Y' w' ∧ (∀ b, Y' b → Y b ∨ w.heap.size ≤ b) ∧ (f = true → f' = true) ∧ ExQ Mt w w' ∧
    ((ok = true ∧ ∃ x : Tm, s = x.name ∧ n = x.args.length ∧ Sl w' Y' a x.args ∧ (f' = false → o = some x)) ∨ (ok = false ∧ (f' = false → o = none)))
def LkC (E : Ev) (Mt : Nat → Prop) (S : Nat) (o : Option Tm) (nm : ByteArray) : Prop :=
  ∀ (f : Bool) (Y : Nat → Prop) (w : World), E f Y w → Calls Tryz.prog 89 #[.pointer (some ⟨S, 0, none⟩), .string nm] w fun e w' => LkPost E Mt o f Y w e w'
/-- What a counted making gives. -/
def FlC (w : World) (tgt : Tm) (n : Nat) (f' : Bool) (s' : ByteArray) (a' : Option Addr) (l' : Nat) (m : Int) (k : Nat) (w' : World) : Prop :=
  (∃ y : Tm, s' = y.name ∧ l' = y.args.length ∧ m = (n : Int) - sizeL [y] ∧ sizeL [y] ≤ n ∧ Sl w' (fun b => w.heap.size + k ≤ b) a' y.args ∧ (f' = false → y = tgt)) ∨ (m = -1 ∧ (f' = false → n < sizeL [tgt]))
def FlPost (E : Ev) (Mt : Nat → Prop) (F : Nat) (sv : Value) (tgt : Tm) (n : Nat) (f : Bool) (Y : Nat → Prop) (w : World) (e : Ending) (w' : World) : Prop :=
  ∃ (s' : ByteArray) (a' : Option Addr) (l' c' : Nat) (m : Int) (f' : Bool) (Y' : Nat → Prop), e = .returned (.agg #[.string s', .slice a' l' c']) ∧ Blk w' F #[.int .i64 m, sv] 167 ∧ ExQ (fun b => b = F ∨ Mt b) w w' ∧ E f' Y' w' ∧ (∀ b, Y' b → Y b ∨ w.heap.size ≤ b) ∧ (f = true → f' = true) ∧ FlC w tgt n f' s' a' l' m 0 w'

theorem fl_end {E : Ev} {Mt : Nat → Prop} (hE : EvOk E Mt) {w w9 : World} {F : Nat} {sv : Value} {tgt : Tm} {n : Nat} {f f' : Bool} {Y Y' : Nat → Prop} {s' : ByteArray} {a' : Option Addr} {l' c' : Nat} {m : Int} {v0 v1 : Value} (hF : F < w.heap.size) (hY : ∀ b, Y b → b < w.heap.size)
    (h1 : Blk w9 F #[.int .i64 m, sv] 167) (hx : ExQ (fun b => b = F ∨ Mt b) w w9) (hE9 : E f' Y' w9) (hsub : ∀ b, Y' b → Y b ∨ w.heap.size + 2 ≤ b) (hff : f = true → f' = true) (hc : FlC w tgt n f' s' a' l' m 2 w9) :
    FlPost E Mt F sv tgt n f Y w (.returned (.agg #[.string s', .slice a' l' c'])) ((w9.setCell ⟨w.heap.size + 1, 0, none⟩ v0).setCell ⟨w.heap.size + 1, 1, none⟩ v1) := by
  have hk : ∀ b, b ≠ w.heap.size + 1 → ((w9.setCell ⟨w.heap.size + 1, 0, none⟩ v0).setCell ⟨w.heap.size + 1, 1, none⟩ v1).heap[b]? = w9.heap[b]? := fun b hb => by
    rw [Below.heap_setCell _ _ _ _ (by simpa using hb), Below.heap_setCell _ _ _ _ (by simpa using hb)]
  refine ⟨s', a', l', c', m, f', Y', rfl, (h1.setOther _ _ (by omega)).setOther _ _ (by omega), (hx.setNew (by omega) _ _).setNew (by omega) _ _, hE.keep _ _ _ _ hE9 fun b hb => hk b fun e => ?_, fun b hb => ?_, hff, ?_⟩
  · rcases hsub b hb with h | h
    · have := hY b h; omega
    · omega
  · rcases hsub b hb with h | h
    · exact Or.inl h
    · exact Or.inr (by omega)
  · rcases hc with ⟨y, e1, e2, e3, e4, e5, e6⟩ | hc
    · exact Or.inl ⟨y, e1, e2, e3, e4, (e5.kept fun b hb => hk b (by omega)).mono fun b hb _ => by omega, e6⟩
    · exact Or.inr hc

theorem wayq1 {Q : Nat → Prop} {w0 w1 : World} (h : ExQ Q w0.drew w1) : ExQ Q w0 w1 := ((ExQ.refl Q w0).drew).trans h
theorem wayq2 {Q : Nat → Prop} {w0 w1 : World} {o : Obj} (h : ExQ Q (w0.alloc o).drew w1) : ExQ Q w0 w1 := (((ExQ.refl Q w0).alloc o).drew).trans h
theorem wayq2b {Q : Nat → Prop} {w0 w1 : World} {cs : Array Value} {T : Nat} (h : ExQ Q (w0.alloc (.cells cs T)).drew w1) (hQ : ¬ Q w0.heap.size) : Blk w1 w0.heap.size cs T := ((Blk.new w0 cs T).drewN 1).exq h hQ

set_option maxHeartbeats 1000000 in
theorem ffillL_of {E : Ev} {Mt : Nat → Prop} (hE : EvOk E Mt) (F S : Nat) (lk : ByteArray → Option Tm) (t : Tm) (n : Nat) (a : Option Addr) (c : Nat) (w : World) (X Y : Nat → Prop) (f : Bool) (hn : n ≤ 1000000) (hXF : ∀ b, X b → b ≠ F ∧ ¬ Mt b) (hYF : ¬ Y F) (hs : Sl w X a t.args) (hF : Blk w F #[.int .i64 (n : Int), sV S] 167) (hEv : E f Y w)
    (hL : varB t.name = true → LkC E Mt S (lk t.name) t.name)
    (h : ∀ (w' : World) (f' : Bool) (Y' : Nat → Prop), Sl w' X a t.args → Blk w' F #[.int .i64 (n : Int), sV S] 167 → E f' Y' w' → ¬ Y' F → Calls Tryz.prog 113 #[.pointer (some ⟨F, 0, none⟩), .agg #[.string t.name, .slice a t.args.length c], .func (.func 99) #[.pointer (some ⟨F, 0, none⟩)] #[]] w' fun e w'' => FlPost E Mt F (sV S) ⟨t.name, gL lk t.args⟩ n f' Y' w' e w'') :
    Calls Tryz.prog 99 #[.pointer (some ⟨F, 0, none⟩), .agg #[.string t.name, .slice a t.args.length c]] w fun e w' => FlPost E Mt F (sV S) (gT lk t) n f Y w e w' := by
  have hmf : ∀ (fn : Fn) (first cap : Array Value) (w : World), (Instr.makeFunc fn first cap).run Tryz.prog w = .ok (.func fn first cap) w := fun _ _ _ _ => rfl
  have H := hide h
  have HS := hide hs
  have HF := hide hF
  have HE := hide hEv
  have HL := hide hL
  have HXF := hide hXF
  have hFl : F < w.heap.size := hF.lt
  have HYW : Hid (∀ b, Y b → b < w.heap.size) := hE.inY _ _ _ hEv
  have HMT : Hid (∀ b, Mt b → Y b) := hE.mt _ _ _ hEv
  have hFM : ¬ Mt F := fun h => hYF (HMT.out F h)
  clear h hs hF hEv hL hXF
  have HB0 := hide (((Below.refl w.heap.size w).alloc (Nat.le_refl _) (.cells #[.string t.name, .slice a t.args.length c] 25)).alloc (by simp) (.cells #[.string ⟨#[]⟩, .slice none 0 0] 25))
  have f1 : ∀ o o', ((w.alloc o).alloc o').cell? ⟨F, 1, none⟩ = some (sV S) := fun o o' => ((HF.out.alloc o).alloc o').cell 1
  have RW : Hid (Blk ((w.alloc (.cells #[.string t.name, .slice a t.args.length c] 25)).alloc (.cells #[.string ⟨#[]⟩, .slice none 0 0] 25)) (w.heap.size + 1) #[.string ⟨#[]⟩, .slice none 0 0] 25) := by
    have h := Blk.new (w.alloc (.cells #[.string t.name, .slice a t.args.length c] 25)) #[.string ⟨#[]⟩, .slice none 0 0] 25
    unfold Hid
    simpa using h
  have EXW := hide (((ExQ.refl (fun b => b = F ∨ Mt b) w).alloc (.cells #[.string t.name, .slice a t.args.length c] 25)).alloc (.cells #[.string ⟨#[]⟩, .slice none 0 0] 25))
  have hW2 : Hid (((w.alloc (.cells #[.string t.name, .slice a t.args.length c] 25)).alloc (.cells #[.string ⟨#[]⟩, .slice none 0 0] 25)).heap.size = w.heap.size + 2) := by unfold Hid; simp
  have hR1 : ¬ (w.heap.size + 1 = F ∨ Mt (w.heap.size + 1)) := fun h => by
    rcases h with h | h
    · omega
    · have := HYW.out _ (HMT.out _ h); omega
  cases hv : varB t.name with
  | false =>
    have HV := hide hv
    have HT : Hid (gT lk t = ⟨t.name, gL lk t.args⟩) := by unfold Hid gT gN; rw [hv]; rfl
    clear hv
    go_enter Tryz.func99, Tryz.ntmps99
    go_wp2_with (go_at_call 39; refine (isVariable_all _ _).mono ?_; rintro e w' ⟨rfl, rfl⟩; rw [HV.out])
    refine (H.out _ f Y (HS.out.later HB0.out) (by exact (HF.out.alloc _).alloc _) (hE.below HE.out HB0.out) hYF).mono ?_
    rintro e w9 ⟨s', a', l', c', m, f', Y', rfl, hF1, hx1, hE1, hsub1, hff1, hc1⟩
    have R9 := hide (RW.out.exq hx1 hR1)
    have HX9 := hide (EXW.out.trans hx1)
    have HF9 := hide hF1
    have HE9 := hide hE1
    have HSUB := hide hsub1
    have HFF := hide hff1
    have HC := hide hc1
    clear hF1 hx1 hE1 hsub1 hff1 hc1
    have r0 : w9.cell? ⟨w.heap.size + 1, 0, none⟩ = some (.string ⟨#[]⟩) := R9.out.cell 0
    have r1 : w9.cell? ⟨w.heap.size + 1, 1, none⟩ = some (.slice none 0 0) := R9.out.cell 1
    have rf := R9.out.frozen
    go_wp2_with fail
    refine bodyPost_ret (v := .agg #[.string s', .slice a' l' c']) (by simp [results, Tryz.results99, go_sem, World.cell?_setCell_same, World.cell?_setCell_other, r0, r1]) rfl ?_
    rw [HT.out]
    refine fl_end hE (by omega) HYW.out HF9.out HX9.out HE9.out (fun b hb => (HSUB.out b hb).imp id fun h => by rw [hW2.out] at h; exact h) HFF.out ?_
    rcases HC.out with ⟨y, e1, e2, e3, e4, e5, e6⟩ | h
    · exact Or.inl ⟨y, e1, e2, e3, e4, e5.mono fun b hb _ => by have := hW2.out; omega, e6⟩
    · exact Or.inr h
  | true =>
    have HV := hide hv
    have HLK := hide (HL.out hv)
    clear hv HL
    have E0 := hide (hE.below HE.out HB0.out)
    have F0 := hide ((HF.out.alloc (.cells #[.string t.name, .slice a t.args.length c] 25)).alloc (.cells #[.string ⟨#[]⟩, .slice none 0 0] 25))
    have S0 := hide (HS.out.later HB0.out)
    have T0 := hide ((Blk.new w #[.string t.name, .slice a t.args.length c] 25).alloc (.cells #[.string ⟨#[]⟩, .slice none 0 0] 25))
    have g1 := F0.out.cell 1
    have g0 := T0.out.cell 0
    simp only [List.getElem?_toArray, List.getElem?_cons_succ, List.getElem?_cons_zero] at g1 g0
    have LKA : Hid (∀ w', Below ((w.alloc (.cells #[.string t.name, .slice a t.args.length c] 25)).alloc (.cells #[.string ⟨#[]⟩, .slice none 0 0] 25)).heap.size ((w.alloc (.cells #[.string t.name, .slice a t.args.length c] 25)).alloc (.cells #[.string ⟨#[]⟩, .slice none 0 0] 25)) w' → Calls Tryz.prog 89 #[.pointer (some ⟨S, 0, none⟩), .string t.name] w' fun e w'' => LkPost E Mt (lk t.name) f Y w' e w'') := fun w' hb => HLK.out f Y w' (hE.below E0.out hb)
    have HKP : Hid (∀ w', ExQ Mt ((w.alloc (.cells #[.string t.name, .slice a t.args.length c] 25)).alloc (.cells #[.string ⟨#[]⟩, .slice none 0 0] 25)) w' → w'.cell? ⟨F, 1, none⟩ = some (sV S) ∧ w'.cell? ⟨w.heap.size, 0, none⟩ = some (.string t.name)) := fun w' hb => ⟨(F0.out.exq hb hFM).cell 1, (T0.out.exq hb (fun h => by have := HYW.out _ (HMT.out _ h); omega)).cell 0⟩
    have nF : ((w.alloc (.cells #[.string t.name, .slice a t.args.length c] 25)).alloc (.cells #[.string ⟨#[]⟩, .slice none 0 0] 25)).heap.size ≠ F := by have := hW2.out; omega
    have nT : ((w.alloc (.cells #[.string t.name, .slice a t.args.length c] 25)).alloc (.cells #[.string ⟨#[]⟩, .slice none 0 0] 25)).heap.size ≠ w.heap.size := by have := hW2.out; omega
    have nM : ¬ Mt ((w.alloc (.cells #[.string t.name, .slice a t.args.length c] 25)).alloc (.cells #[.string ⟨#[]⟩, .slice none 0 0] 25)).heap.size := fun h => by have := HYW.out _ (HMT.out _ h); have := hW2.out; omega
    clear f1
    unfold sV at g1 HKP
    go_enter Tryz.func99, Tryz.ntmps99
    go_wp2_with (go_at_call 39; refine (isVariable_all _ _).mono ?_; rintro e w' ⟨rfl, rfl⟩; rw [HV.out])
    generalize ((w.alloc (.cells #[.string t.name, .slice a t.args.length c] 25)).alloc (.cells #[.string ⟨#[]⟩, .slice none 0 0] 25)) = w0 at *
    go_region_held3 (fun w' => w'.cell? ⟨F, 1, none⟩ = some (.func (.func 89) #[.pointer (some ⟨S, 0, none⟩)] #[]) ∧ w'.cell? ⟨w.heap.size, 0, none⟩ = some (.string t.name)) (first | exact hS | exact ⟨g1, g0⟩ | exact two_keep hS nF nT | exact two_keep (two_keep hS nF nT) nF nT | go_keep)
      ((go_at_call 89; refine (LKA.out _ (by first | exact (Below.refl _ _).drew | exact ((Below.refl _ _).alloc (Nat.le_refl _) _).drew)).mono ?_; rintro e w1 ⟨s1, a1, n1, c1, ok1, f1, Y1, rfl, hE1, hsub1, hff1, hx1, hc1⟩; have HE1 := hide hE1; have HSUB1 := hide hsub1; have HFF1 := hide hff1; have HC1 := hide hc1; clear hE1 hsub1 hff1 hc1; (first | (have hB0 := wayq1 hx1; have hS := HKP.out _ hB0) | (have hB0 := wayq2 hx1; have xb := hide (wayq2b hx1 nM); have x0 := xb.out.cell 0; have x1 := xb.out.cell 1; have xf := xb.out.frozen; have hS := HKP.out _ hB0)); have HX1 := hide hx1; clear hx1))
    · generalize hz : (w1.alloc (Obj.cells #[Value.string s1, Value.slice a1 n1 c1] 25)) = wz at *
      have hkz : ∀ b, b < w1.heap.size → wz.heap[b]? = w1.heap[b]? := fun b hb => by rw [← hz]; exact Below.heap_alloc _ _ _ hb
      have hxz : ExQ Mt w0 wz := by rw [← hz]; exact hB0.alloc _
      have HS1 : Hid (∀ b, Y1 b → wz.heap[b]? = w1.heap[b]?) := fun b hb => hkz b (hE.inY _ _ _ HE1.out b hb)
      have HU1 : Hid (∀ b, Y1 b → Y b ∨ w.heap.size + 2 ≤ b) := fun b hb => (HSUB1.out b hb).imp id fun h => by have h2 := hW2.out; have h3 : w0.heap.size ≤ b := h; omega
      have q0 : wz.cell? ⟨w1.heap.size, 0, none⟩ = some (.string s1) := by rw [← hz]; exact (Blk.new w1 _ _).cell 0
      have q1 : wz.cell? ⟨w1.heap.size, 1, none⟩ = some (.slice a1 n1 c1) := by rw [← hz]; exact (Blk.new w1 _ _).cell 1
      have HXZ := hide hxz
      have HEZ : Hid (E f1 Y1 wz) := hE.keep _ _ _ _ HE1.out HS1.out
      have HFZ := hide (F0.out.exq hxz hFM)
      have HRZ := hide (RW.out.exq hxz (fun h => hR1 (Or.inr h)))
      have HTZ := hide (T0.out.exq hxz (fun h => by have := HYW.out _ (HMT.out _ h); omega))
      have HY1F : Hid (¬ Y1 F) := fun h => by
        rcases HU1.out F h with h1 | h1
        · exact hYF h1
        · omega
      have HSZ2 : Hid (w.heap.size + 2 ≤ wz.heap.size) := by have := hxz.size; have := hW2.out; unfold Hid; omega
      clear hxz hz hS hB0
      rcases HC1.out with ⟨rfl, x, rfl, rfl, hsx, hox⟩ | ⟨rfl, hox⟩
      · have HSX : Hid (Sl wz Y1 a1 x.args) := hsx.kept HS1.out
        have HOX := hide hox
        clear hsx hox HC1
        go_wp2_with fail
        refine (knotC_any F _ x n _ wz Y1 ⟨a1, c1, rfl, HSX.out⟩ (fun b hb e => HY1F.out (e ▸ hb)) hn HFZ.out).mono ?_
        rintro e w9 ⟨s', a', l', c', m, rfl, hF1, hx1, hy1, hn1⟩
        have R9 := hide (HRZ.out.ex hx1 (by omega))
        have HX9 : Hid (ExQ (fun b => b = F ∨ Mt b) w w9) := (EXW.out.trans (HXZ.out.mono fun b hb _ => Or.inr hb)).trans (ExQ.ofEx hx1 (Or.inl rfl))
        have HE9 : Hid (E f1 Y1 w9) := hE.keep _ _ _ _ HEZ.out fun b hb => hx1.block b (hE.inY _ _ _ HEZ.out b hb) (fun e => HY1F.out (e ▸ hb))
        have HF9 := hide hF1
        have HCC : Hid (FlC w (gT lk t) n f1 s' a' l' m 2 w9) := by
          by_cases hle : sizeL [x] ≤ n
          · obtain ⟨e1, e2, e3, e4⟩ := hy1 hle
            exact Or.inl ⟨x, e2, e3, e1, hle, e4.mono fun b hb _ => by have := HSZ2.out; omega, fun hf => by unfold gT gN; rw [HV.out, HOX.out hf]; rfl⟩
          · exact Or.inr ⟨hn1 (by omega), fun hf => by unfold gT gN; rw [HV.out, HOX.out hf]; simpa using hle⟩
        clear hF1 hx1 hy1 hn1
        have r0 : w9.cell? ⟨w.heap.size + 1, 0, none⟩ = some (.string ⟨#[]⟩) := R9.out.cell 0
        have r1 : w9.cell? ⟨w.heap.size + 1, 1, none⟩ = some (.slice none 0 0) := R9.out.cell 1
        have rf := R9.out.frozen
        go_wp2_with fail
        refine bodyPost_ret (v := .agg #[.string s', .slice a' l' c']) (by simp [results, Tryz.results99, go_sem, World.cell?_setCell_same, World.cell?_setCell_other, r0, r1]) rfl ?_
        exact fl_end hE (by omega) HYW.out HF9.out HX9.out HE9.out HU1.out HFF1.out HCC.out
      · have HOX := hide hox
        clear hox HC1
        have t0 : wz.cell? ⟨w.heap.size, 0, none⟩ = some (.string t.name) := HTZ.out.cell 0
        have t1 : wz.cell? ⟨w.heap.size, 1, none⟩ = some (.slice a t.args.length c) := HTZ.out.cell 1
        go_wp2_with fail
        refine (H.out wz f1 Y1 (S0.out.exq HXZ.out (fun b hb => (HXF.out b hb).2)) HFZ.out HEZ.out HY1F.out).mono ?_
        rintro e w9 ⟨s', a', l', c', m, f', Y', rfl, hF1, hx1, hE1, hsub1, hff1, hc1⟩
        have R9 := hide (HRZ.out.exq hx1 hR1)
        have HX9 : Hid (ExQ (fun b => b = F ∨ Mt b) w w9) := (EXW.out.trans (HXZ.out.mono fun b hb _ => Or.inr hb)).trans hx1
        have HE9 := hide hE1
        have HF9 := hide hF1
        have HU9 : Hid (∀ b, Y' b → Y b ∨ w.heap.size + 2 ≤ b) := fun b hb => by
          rcases hsub1 b hb with h | h
          · exact HU1.out b h
          · right; have := HSZ2.out; omega
        have HFF9 : Hid (f = true → f' = true) := fun h => hff1 (HFF1.out h)
        have HCC : Hid (FlC w (gT lk t) n f' s' a' l' m 2 w9) := by
          have hT : f' = false → gT lk t = ⟨t.name, gL lk t.args⟩ := fun hf => by
            have hf1 : f1 = false := by
              cases h : f1 with
              | false => rfl
              | true => have := hff1 h; rw [hf] at this; cases this
            unfold gT gN; rw [HV.out, HOX.out hf1]; rfl
          rcases hc1 with ⟨y, e1, e2, e3, e4, e5, e6⟩ | ⟨e1, e2⟩
          · exact Or.inl ⟨y, e1, e2, e3, e4, e5.mono fun b hb _ => by have := HSZ2.out; omega, fun hf => by rw [hT hf]; exact e6 hf⟩
          · exact Or.inr ⟨e1, fun hf => by rw [hT hf]; exact e2 hf⟩
        clear hF1 hx1 hE1 hsub1 hff1 hc1
        have r0 : w9.cell? ⟨w.heap.size + 1, 0, none⟩ = some (.string ⟨#[]⟩) := R9.out.cell 0
        have r1 : w9.cell? ⟨w.heap.size + 1, 1, none⟩ = some (.slice none 0 0) := R9.out.cell 1
        have rf := R9.out.frozen
        go_wp2_with fail
        refine bodyPost_ret (v := .agg #[.string s', .slice a' l' c']) (by simp [results, Tryz.results99, go_sem, World.cell?_setCell_same, World.cell?_setCell_other, r0, r1]) rfl ?_
        exact fl_end hE (by omega) HYW.out HF9.out HX9.out HE9.out HU9.out HFF9.out HCC.out
    · generalize hz : ((w1.setCell { block := w0.heap.size, off := 0 } (Value.string s1)).setCell { block := w0.heap.size, off := 1 } (Value.slice a1 n1 c1)) = wz at *
      have hxz : ExQ Mt w0 wz := by rw [← hz]; exact (hB0.setNew (Nat.le_refl _) _ _).setNew (Nat.le_refl _) _ _
      have HU1 : Hid (∀ b, Y1 b → Y b ∨ w.heap.size + 2 ≤ b) := fun b hb => (HSUB1.out b hb).imp id fun h => by have h2 := hW2.out; simp at h; omega
      have HS1 : Hid (∀ b, Y1 b → wz.heap[b]? = w1.heap[b]?) := fun b hb => by
        have hne : b ≠ w0.heap.size := fun e => by
          rcases HSUB1.out b hb with h | h
          · have := HYW.out b h; have := hW2.out; omega
          · simp at h; omega
        rw [← hz, Below.heap_setCell _ _ _ _ (by simpa using hne), Below.heap_setCell _ _ _ _ (by simpa using hne)]
      have q0 : wz.cell? ⟨w0.heap.size, 0, none⟩ = some (.string s1) := by rw [← hz]; simp [World.cell?_setCell_same, World.cell?_setCell_other, x0, x1]
      have q1 : wz.cell? ⟨w0.heap.size, 1, none⟩ = some (.slice a1 n1 c1) := by rw [← hz]; simp [World.cell?_setCell_same, World.cell?_setCell_other, x0, x1]
      have HXZ := hide hxz
      have HEZ : Hid (E f1 Y1 wz) := hE.keep _ _ _ _ HE1.out HS1.out
      have HFZ := hide (F0.out.exq hxz hFM)
      have HRZ := hide (RW.out.exq hxz (fun h => hR1 (Or.inr h)))
      have HTZ := hide (T0.out.exq hxz (fun h => by have := HYW.out _ (HMT.out _ h); omega))
      have HY1F : Hid (¬ Y1 F) := fun h => by
        rcases HU1.out F h with h1 | h1
        · exact hYF h1
        · omega
      have HSZ2 : Hid (w.heap.size + 2 ≤ wz.heap.size) := by have := hxz.size; have := hW2.out; unfold Hid; omega
      clear hxz hz hS hB0
      rcases HC1.out with ⟨rfl, x, rfl, rfl, hsx, hox⟩ | ⟨rfl, hox⟩
      · have HSX : Hid (Sl wz Y1 a1 x.args) := hsx.kept HS1.out
        have HOX := hide hox
        clear hsx hox HC1
        go_wp2_with fail
        refine (knotC_any F _ x n _ wz Y1 ⟨a1, c1, rfl, HSX.out⟩ (fun b hb e => HY1F.out (e ▸ hb)) hn HFZ.out).mono ?_
        rintro e w9 ⟨s', a', l', c', m, rfl, hF1, hx1, hy1, hn1⟩
        have R9 := hide (HRZ.out.ex hx1 (by omega))
        have HX9 : Hid (ExQ (fun b => b = F ∨ Mt b) w w9) := (EXW.out.trans (HXZ.out.mono fun b hb _ => Or.inr hb)).trans (ExQ.ofEx hx1 (Or.inl rfl))
        have HE9 : Hid (E f1 Y1 w9) := hE.keep _ _ _ _ HEZ.out fun b hb => hx1.block b (hE.inY _ _ _ HEZ.out b hb) (fun e => HY1F.out (e ▸ hb))
        have HF9 := hide hF1
        have HCC : Hid (FlC w (gT lk t) n f1 s' a' l' m 2 w9) := by
          by_cases hle : sizeL [x] ≤ n
          · obtain ⟨e1, e2, e3, e4⟩ := hy1 hle
            exact Or.inl ⟨x, e2, e3, e1, hle, e4.mono fun b hb _ => by have := HSZ2.out; omega, fun hf => by unfold gT gN; rw [HV.out, HOX.out hf]; rfl⟩
          · exact Or.inr ⟨hn1 (by omega), fun hf => by unfold gT gN; rw [HV.out, HOX.out hf]; simpa using hle⟩
        clear hF1 hx1 hy1 hn1
        have r0 : w9.cell? ⟨w.heap.size + 1, 0, none⟩ = some (.string ⟨#[]⟩) := R9.out.cell 0
        have r1 : w9.cell? ⟨w.heap.size + 1, 1, none⟩ = some (.slice none 0 0) := R9.out.cell 1
        have rf := R9.out.frozen
        go_wp2_with fail
        refine bodyPost_ret (v := .agg #[.string s', .slice a' l' c']) (by simp [results, Tryz.results99, go_sem, World.cell?_setCell_same, World.cell?_setCell_other, r0, r1]) rfl ?_
        exact fl_end hE (by omega) HYW.out HF9.out HX9.out HE9.out HU1.out HFF1.out HCC.out
      · have HOX := hide hox
        clear hox HC1
        have t0 : wz.cell? ⟨w.heap.size, 0, none⟩ = some (.string t.name) := HTZ.out.cell 0
        have t1 : wz.cell? ⟨w.heap.size, 1, none⟩ = some (.slice a t.args.length c) := HTZ.out.cell 1
        go_wp2_with fail
        refine (H.out wz f1 Y1 (S0.out.exq HXZ.out (fun b hb => (HXF.out b hb).2)) HFZ.out HEZ.out HY1F.out).mono ?_
        rintro e w9 ⟨s', a', l', c', m, f', Y', rfl, hF1, hx1, hE1, hsub1, hff1, hc1⟩
        have R9 := hide (HRZ.out.exq hx1 hR1)
        have HX9 : Hid (ExQ (fun b => b = F ∨ Mt b) w w9) := (EXW.out.trans (HXZ.out.mono fun b hb _ => Or.inr hb)).trans hx1
        have HE9 := hide hE1
        have HF9 := hide hF1
        have HU9 : Hid (∀ b, Y' b → Y b ∨ w.heap.size + 2 ≤ b) := fun b hb => by
          rcases hsub1 b hb with h | h
          · exact HU1.out b h
          · right; have := HSZ2.out; omega
        have HFF9 : Hid (f = true → f' = true) := fun h => hff1 (HFF1.out h)
        have HCC : Hid (FlC w (gT lk t) n f' s' a' l' m 2 w9) := by
          have hT : f' = false → gT lk t = ⟨t.name, gL lk t.args⟩ := fun hf => by
            have hf1 : f1 = false := by
              cases h : f1 with
              | false => rfl
              | true => have := hff1 h; rw [hf] at this; cases this
            unfold gT gN; rw [HV.out, HOX.out hf1]; rfl
          rcases hc1 with ⟨y, e1, e2, e3, e4, e5, e6⟩ | ⟨e1, e2⟩
          · exact Or.inl ⟨y, e1, e2, e3, e4, e5.mono fun b hb _ => by have := HSZ2.out; omega, fun hf => by rw [hT hf]; exact e6 hf⟩
          · exact Or.inr ⟨e1, fun hf => by rw [hT hf]; exact e2 hf⟩
        clear hF1 hx1 hE1 hsub1 hff1 hc1
        have r0 : w9.cell? ⟨w.heap.size + 1, 0, none⟩ = some (.string ⟨#[]⟩) := R9.out.cell 0
        have r1 : w9.cell? ⟨w.heap.size + 1, 1, none⟩ = some (.slice none 0 0) := R9.out.cell 1
        have rf := R9.out.frozen
        go_wp2_with fail
        refine bodyPost_ret (v := .agg #[.string s', .slice a' l' c']) (by simp [results, Tryz.results99, go_sem, World.cell?_setCell_same, World.cell?_setCell_other, r0, r1]) rfl ?_
        exact fl_end hE (by omega) HYW.out HF9.out HX9.out HE9.out HU9.out HFF9.out HCC.out
#print axioms ffillL_of
end Go.Proofs.YteojdfmdhgnmfaaGreat
