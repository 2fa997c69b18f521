/- Several texts in one. -/
import Derived.Test.YtccbocefgoccdaaZBTopDownOwn
import Derived.Laws.EntriesVeiled
import Derived.Test.YtccbocefgoccdaaShelf
import Derived.Test.YtccbocefgoccdaaZTopDownOwn
import Derived.Ground.SlgnProg
import Derived.Shelf.SlicesE.Clone
import Derived.Deep.RegionHeld3
import Derived.Deep.DeepCutAuto
import Derived.Deep.RegionHeld
import Derived.Deep.RegionLaw
import Derived.Defers
import Derived.Recover
import Derived.Laws.Pointers
/- Walks: the steps that could be done, handed over one by one. -/
namespace Go.Proofs.Ytccbocefgoccdaa
open Go.RowKit Go.Shelf
attribute [local go_sem] Oper.semAt_some
set_option linter.unusedSimpArgs false
set_option linter.unusedVariables false
set_option maxRecDepth 8000

theorem downCS_any {J : Tk Dn} {K : Nat → Prop} {all : List Dn} (hJ : TkOk J K) (lp : Nat) {S : World → Prop} (RH : RndS lp LpD J all S) (t : Tm) (fs : List Int) (T F : Nat) (aa : Option Addr) (ca : Nat) (fv : Value) (pre : List Dn) (f : Nat → Prop) (w : World) (X : Nat → Prop) (hT : Blk w T #[.string t.name, .slice aa t.args.length ca] 27) (hs : Sl w X aa t.args) (hF : Blk w F #[fv] 22) (hfv : PV w X fv fs) (hat : (atT t fs).isSome = true) (hX : ∀ b, X b → b < w.heap.size ∧ ¬ f b) (hj : J pre true f w) (hz : sizeL [t] ≤ 800000) (hOk : (pre ++ dnT [] fs t) <+: all) :
    Calls Try.prog 44 #[.func (.yield lp) #[] #[], .pointer (some ⟨T, 0, none⟩), .pointer (some ⟨F, 0, none⟩)] w fun e w' => WentS J (dnT [] fs t) pre f S w e w' := by
  have t0 := hT.cell 0
  have t1 := hT.cell 1
  have f0 := hF.cell 0
  have hK : ∀ b, K b → b < w.heap.size := fun b hb => hJ.inside hj b (Or.inr hb)
  obtain ⟨fa, fc, rfl, hfl, hfc⟩ := hfv
  have HD := hide (downS_any hJ w.heap.size lp hK RH t (.agg #[.string t.name, .slice aa t.args.length ca]) (.slice none 0 0) (.slice fa fs.length fc) [] fs pre f w X ⟨aa, ca, rfl, hs⟩ ⟨fa, fc, rfl, hfl, hfc⟩ hat hX (Nat.le_refl _) (World.ownsRow_nil _ _ _ _) (by simp [Value.ownBlock]) hj (by simp; omega) hOk)
  simp only [List.getElem?_toArray, List.getElem?_cons_zero, List.getElem?_cons_succ] at t0 t1 f0
  clear hT hs hF hfl hfc hat hX hj hz hK RH hJ hOk
  go_enter Try.func44, Try.ntmps44
  go_wp2_with fail
  refine HD.out.mono ?_
  rintro e w1 ⟨b, rfl, hw, _, hS⟩
  go_wp2_with fail
  go_end0
  exact ⟨⟨_, rfl⟩, b, (hw.mono fun b hb _ => by simp [Value.ownBlock] at hb), hS⟩

theorem stepsFits_any (uv : Value) (hone : ∃ a n c, uv = .slice a n c) (s : ByteArray) (aa : Option Addr) (n ca : Nat) (w : World) :
    Calls Try.prog 43 #[uv, .agg #[.string s, .slice aa n ca]] w fun e w' => e = .returned (.func (.func 62) #[] #[.pointer (some ⟨w.heap.size, 0, none⟩), .pointer (some ⟨w.heap.size + 1, 0, none⟩)]) ∧ w' = (w.alloc (.cells #[uv] 23)).alloc (.cells #[.string s, .slice aa n ca] 27) := by
  obtain ⟨a, n1, c, rfl⟩ := hone
  have hmf : ∀ (fn : Fn) (first cap : Array Value) (w : World), (Instr.makeFunc fn first cap).run Try.prog w = .ok (.func fn first cap) w := fun _ _ _ _ => rfl
  go_enter Try.func43, Try.ntmps43
  go_wp2_with fail
  go_ret
  exact ⟨rfl, rfl⟩

/-- A step that could be done: the place, the term there; the rule, what stands for its variables. -/
abbrev Ch := Dn × Ft
def chG (rs : List Pr) (d : Dn) : List Ch := (fitsL rs d.2).map fun x => (d, x)
def chL (rs : List Pr) (t : Tm) (fs : List Int) : List Ch := (dnT [] fs t).flatMap (chG rs)
/-- How it is handed over. -/
def LpC (x : Ch) (args : Array Value) (W : World) (Z : Nat → Prop) : Prop :=
  ∃ ua uc xa xc ra rc q L, args = #[.agg #[.slice ua x.1.1.length uc, .string x.1.2.name, .slice xa x.1.2.args.length xc, .string x.2.1.r.name, .slice ra x.2.1.r.args.length rc, .map (some q)]] ∧ PV W Z (.slice ua x.1.1.length uc) x.1.1 ∧ Sl W Z xa x.1.2.args ∧ Sl W Z ra x.2.1.r.args ∧ Z q ∧ EnvR W q Z x.2.2 L

set_option maxHeartbeats 2000000 in
theorem chances1S_any {J : Tk Ch} {K : Nat → Prop} {all : List Ch} (hJ : TkOk J K) (lp : Nat) {S : World → Prop} (hSt : StopOk S) (RH : RndS lp LpC J all S) (rs : List Pr) (t : Tm) (fs : List Int) (P R T F : Nat) (uv : Value) (aa : Option Addr) (ca : Nat) (fv : Value) (pre : List Ch) (f : Nat → Prop) (w : World) (X : Nat → Prop) (hP : Blk w P #[.func (.func 44) #[] #[.pointer (some ⟨T, 0, none⟩), .pointer (some ⟨F, 0, none⟩)]] 65) (hR : Blk w R #[uv] 23) (hu : QV w X uv rs) (hT : Blk w T #[.string t.name, .slice aa t.args.length ca] 27) (hs : Sl w X aa t.args) (hF : Blk w F #[fv] 22) (hfv : PV w X fv fs) (hat : (atT t fs).isSome = true) (hX : ∀ b, X b → b < w.heap.size ∧ ¬ f b) (hRf : ¬ f R) (hj : J pre true f w) (hz : sizeL [t] ≤ 800000) (hOk : (pre ++ chL rs t fs) <+: all) :
    Calls Try.prog 42 #[.func (.yield lp) #[] #[], .pointer (some ⟨P, 0, none⟩), .pointer (some ⟨R, 0, none⟩)] w fun e w' => WentS J (chL rs t fs) pre f S w e w' := by
  have HST := hide hSt
  clear hSt
  have p0 := hP.cell 0
  have hPl := hP.lt
  have hRl := hR.lt
  have hXa : Hid (∀ b, X b → b < w.heap.size ∧ ¬ f b) := hX
  simp only [List.getElem?_toArray, List.getElem?_cons_zero, List.getElem?_cons_succ] at p0
  have p1 : ∀ o, (w.alloc o).cell? ⟨P, 0, none⟩ = some (.func (.func 44) #[] #[.pointer (some ⟨T, 0, none⟩), .pointer (some ⟨F, 0, none⟩)]) := fun o => (hP.alloc o).cell 0
  have HI : Hid (∀ b, f b ∨ K b → b < w.heap.size) := hJ.inside hj
  have HAP : Hid (∀ b, K b → ¬ f b) := hJ.apart hj
  have hB1 : Below w.heap.size w (w.alloc (.cells #[.func (.yield lp) #[] #[]] 93)) := (Below.refl _ _).alloc (Nat.le_refl _) _
  have HJ := hide hJ
  have HRH := hide RH
  have HR := hide hR
  have HU := hide hu
  have HT := hide hT
  have HS := hide hs
  have HF := hide hF
  have HFV := hide hfv
  have HJ0 := hide hj
  clear hJ RH hR hu hT hs hF hfv hj hX hP
  refine (callsIn_wide (n := 3)).1 ?_
  refine callsIn_of_wp_marks Try.func42 rfl trivial ?_ rfl
  simp only [Try.ntmps42, List.size_toArray, List.length_cons, List.length_nil, Nat.reduceAdd, Nat.reduceSub, Array.replicate_succ, Array.replicate_zero, List.push_toArray, List.append_toArray, List.nil_append, List.cons_append]
  gi_wp2
  refine wp_range2 (gf := 44) (lb := #[.pointer (some ⟨T, 0, none⟩), .pointer (some ⟨F, 0, none⟩)]) rfl (enters_of Try.func44 (by kernel_rfl) rfl) ?_
  intro r hr1 hr2 hr3 hr4 hr5 hr6
  have hz1 : (w.alloc (.cells #[.func (.yield lp) #[] #[]] 93)).heap.size = w.heap.size + 1 := by simp
  rw [hz1]
  have hz5 : (((w.alloc (.cells #[.func (.yield lp) #[] #[]] 93)).alloc (.deferred (some []))).alloc (.loop r)).heap.size = w.heap.size + 3 := by simp
  have hB5 : Below w.heap.size w (((w.alloc (.cells #[.func (.yield lp) #[] #[]] 93)).alloc (.deferred (some []))).alloc (.loop r)) := below3 _ _ _
  have hY5 : Blk (((w.alloc (.cells #[.func (.yield lp) #[] #[]] 93)).alloc (.deferred (some []))).alloc (.loop r)) w.heap.size #[.func (.yield lp) #[] #[]] 93 := ((Blk.new w #[.func (.yield lp) #[] #[]] 93).alloc _).alloc _
  have hD5 : (((w.alloc (.cells #[.func (.yield lp) #[] #[]] 93)).alloc (.deferred (some []))).alloc (.loop r)).heap[w.heap.size + 1]? = some (.deferred (some [])) := by
    have h1 := (Below.heap_alloc ((w.alloc (.cells #[.func (.yield lp) #[] #[]] 93)).alloc (.deferred (some []))) (.loop r) (w.alloc (.cells #[.func (.yield lp) #[] #[]] 93)).heap.size (by simp)).trans (World.alloc_heap_new (w.alloc (.cells #[.func (.yield lp) #[] #[]] 93)) (.deferred (some [])))
    rw [hz1] at h1
    exact h1
  have hL5 : (((w.alloc (.cells #[.func (.yield lp) #[] #[]] 93)).alloc (.deferred (some []))).alloc (.loop r)).heap[w.heap.size + 1 + 1]? = some (.loop r) := by
    have h1 := World.alloc_heap_new ((w.alloc (.cells #[.func (.yield lp) #[] #[]] 93)).alloc (.deferred (some []))) (.loop r)
    rw [World.size_alloc, hz1] at h1
    exact h1
  generalize (((w.alloc (.cells #[.func (.yield lp) #[] #[]] 93)).alloc (.deferred (some []))).alloc (.loop r)) = W5 at *
  have e5 : ∀ b, b < w.heap.size → W5.heap[b]? = w.heap[b]? := fun b hb => hB5.block b hb
  obtain ⟨K2, hK2⟩ : ∃ K2 : Nat → Prop, K2 = fun b => K b ∨ X b ∨ b = R ∨ b = w.heap.size ∨ b = w.heap.size + 1 := ⟨_, rfl⟩
  have HKK : Hid (∀ b, K b → K2 b) := fun b hb => by rw [hK2]; exact Or.inl hb
  have HKX : Hid (∀ b, X b → K2 b) := fun b hb => by rw [hK2]; exact Or.inr (Or.inl hb)
  have HKR : Hid (K2 R) := by unfold Hid; rw [hK2]; exact Or.inr (Or.inr (Or.inl rfl))
  have HKY : Hid (K2 w.heap.size) := by unfold Hid; rw [hK2]; exact Or.inr (Or.inr (Or.inr (Or.inl rfl)))
  have HKD : Hid (K2 (w.heap.size + 1)) := by unfold Hid; rw [hK2]; exact Or.inr (Or.inr (Or.inr (Or.inr rfl)))
  have HK5 : Hid (∀ b, K2 b → b < W5.heap.size ∧ ¬ f b ∧ b ≠ w.heap.size + 1 + 1) := fun b hb => by
    rw [hK2] at hb
    have hfs := HI.out
    rcases hb with h | h | h | h | h
    · have := HI.out b (Or.inr h); exact ⟨by omega, HAP.out b h, by omega⟩
    · have := hXa.out b h; exact ⟨by omega, this.2, by omega⟩
    · subst h; exact ⟨by omega, hRf, by omega⟩
    · subst h; exact ⟨by omega, fun h => by have := hfs _ (Or.inl h); omega, by omega⟩
    · subst h; exact ⟨by omega, fun h => by have := hfs _ (Or.inl h); omega, by omega⟩
  clear hK2
  obtain ⟨rd, hrd⟩ : ∃ rd : Loop, rd = { r with state := .done, pending := some .ret } := ⟨_, rfl⟩
  obtain ⟨rb, hrb⟩ : ∃ rb : Loop, rb = { r with state := .busy } := ⟨_, rfl⟩
  have hok : TkOk (JL J K2 (chG rs) pre (w.heap.size + 1 + 1) r rd W5) K2 := JL.ok HJ.out HKK.out
  have HY5 := hide hY5
  have HR5 : Hid (Blk W5 R #[uv] 23) := (e5 R hRl).trans HR.out
  have HU5 := hide (HU.out.later hB5)
  obtain ⟨un, ul, uc0, huv⟩ : ∃ a n c, uv = .slice a n c := by obtain ⟨a, c, e, _⟩ := HU.out; exact ⟨a, _, c, e⟩
  have HOK := hide hOk
  clear hOk
  have RH2 : RndS (w.heap.size + 1 + 1) LpD (JL J K2 (chG rs) pre (w.heap.size + 1 + 1) r rd W5) (dnT [] fs t) S := by
    have HR1 := hide hr1
    have HR2 := hide hr2
    have HR3 := hide hr3
    have HR4 := hide hr4
    have HRR5 := hide hr5
    have HR6 := hide hr6
    clear hr1 hr2 hr3 hr4 hr5 hr6 p0 p1 hD5 hL5 hok hB1 hB5 hat hz
    intro n pre2 x args Z f2 W hokx hjj hl hZ
    have HOKX := hide hokx
    clear hokx
    obtain ⟨f1, m, hf2, hm, hm2, hj1, hfL, hL, hK1, hzW, hC⟩ := hjj
    obtain ⟨u, v, rfl, hu1, hv1⟩ := hl
    obtain ⟨ua, uc, rfl, hul, huc⟩ := hu1
    obtain ⟨xa, xc, rfl, hxs⟩ := hv1
    have HPU : Hid (PV W Z (.slice ua x.1.length uc) x.1) := ⟨ua, uc, rfl, hul, huc⟩
    have HXS := hide hxs
    have em := hm2 rfl
    subst em
    rw [List.take_length] at hj1
    simp only [if_true] at hL
    have HJ1 := hide hj1
    have HIN1 := hide (HJ.out.inside hj1)
    have HF2 := hide hf2
    have HK1 := hide hK1
    have HC := hide hC
    have HZ := hide hZ
    have HL := hide hL
    have hlL : w.heap.size + 1 + 1 < W.heap.size := (Array.getElem?_eq_some_iff.1 hL).1
    clear hul huc hxs hj1 hf2 hK1 hC hZ hm hm2
    refine yield_two hrb hrd HRR5.out HR6.out HR4.out HR3.out hL HR1.out HR2.out rfl ?_
    have hL2 : ((W.alloc (.cells #[.slice ua x.1.length uc] 22)).alloc (.cells #[.string x.2.name, .slice xa x.2.args.length xc] 27)).heap[w.heap.size + 1 + 1]? = some (.loop r) := (Below.heap_alloc _ _ _ (by simp; omega)).trans ((Below.heap_alloc _ _ _ hlL).trans hL)
    have kV : ∀ b, b < W.heap.size → b ≠ w.heap.size + 1 + 1 → (((W.alloc (.cells #[.slice ua x.1.length uc] 22)).alloc (.cells #[.string x.2.name, .slice xa x.2.args.length xc] 27)).putObj (w.heap.size + 1 + 1) (.loop rb)).heap[b]? = W.heap[b]? := fun b hb hne => (World.putObj_heap_other hne).trans ((Below.heap_alloc _ _ _ (by simp; omega)).trans (Below.heap_alloc _ _ _ hb))
    have hzV : (((W.alloc (.cells #[.slice ua x.1.length uc] 22)).alloc (.cells #[.string x.2.name, .slice xa x.2.args.length xc] 27)).putObj (w.heap.size + 1 + 1) (.loop rb)).heap.size = W.heap.size + 2 := by simp
    have hP4 : Blk (((W.alloc (.cells #[.slice ua x.1.length uc] 22)).alloc (.cells #[.string x.2.name, .slice xa x.2.args.length xc] 27)).putObj (w.heap.size + 1 + 1) (.loop rb)) W.heap.size #[.slice ua x.1.length uc] 22 := (World.putObj_heap_other (by omega)).trans ((Blk.new W _ _).alloc _)
    have hP5 : Blk (((W.alloc (.cells #[.slice ua x.1.length uc] 22)).alloc (.cells #[.string x.2.name, .slice xa x.2.args.length xc] 27)).putObj (w.heap.size + 1 + 1) (.loop rb)) (W.heap.size + 1) #[.string x.2.name, .slice xa x.2.args.length xc] 27 := (World.putObj_heap_other (by omega)).trans (by
      have h := Blk.new (W.alloc (.cells #[.slice ua x.1.length uc] 22)) #[.string x.2.name, .slice xa x.2.args.length xc] 27
      rw [World.size_alloc] at h
      exact h)
    have hLV : (((W.alloc (.cells #[.slice ua x.1.length uc] 22)).alloc (.cells #[.string x.2.name, .slice xa x.2.args.length xc] 27)).putObj (w.heap.size + 1 + 1) (.loop rb)).heap[w.heap.size + 1 + 1]? = some (.loop rb) := World.putObj_heap_same (by simp; omega)
    have hRV : Blk (((W.alloc (.cells #[.slice ua x.1.length uc] 22)).alloc (.cells #[.string x.2.name, .slice xa x.2.args.length xc] 27)).putObj (w.heap.size + 1 + 1) (.loop rb)) R #[uv] 23 := (kV R (by have := HK1.out R HKR.out; omega) (HK1.out R HKR.out).2.2).trans ((HC.out R HKR.out).trans HR5.out)
    have cR : (((W.alloc (.cells #[.slice ua x.1.length uc] 22)).alloc (.cells #[.string x.2.name, .slice xa x.2.args.length xc] 27)).putObj (w.heap.size + 1 + 1) (.loop rb)).cell? ⟨R, 0, none⟩ = some uv := hRV.cell 0
    have cX0 : (((W.alloc (.cells #[.slice ua x.1.length uc] 22)).alloc (.cells #[.string x.2.name, .slice xa x.2.args.length xc] 27)).putObj (w.heap.size + 1 + 1) (.loop rb)).cell? ⟨W.heap.size + 1, 0, none⟩ = some (.string x.2.name) := hP5.cell 0
    have cX1 : (((W.alloc (.cells #[.slice ua x.1.length uc] 22)).alloc (.cells #[.string x.2.name, .slice xa x.2.args.length xc] 27)).putObj (w.heap.size + 1 + 1) (.loop rb)).cell? ⟨W.heap.size + 1, 1, none⟩ = some (.slice xa x.2.args.length xc) := hP5.cell 1
    have HOSV : Hid ((((W.alloc (.cells #[.slice ua x.1.length uc] 22)).alloc (.cells #[.string x.2.name, .slice xa x.2.args.length xc] 27)).putObj (w.heap.size + 1 + 1) (.loop rb)).os = W.os ∧ (((W.alloc (.cells #[.slice ua x.1.length uc] 22)).alloc (.cells #[.string x.2.name, .slice xa x.2.args.length xc] 27)).putObj (w.heap.size + 1 + 1) (.loop rb)).tape = W.tape ∧ (((W.alloc (.cells #[.slice ua x.1.length uc] 22)).alloc (.cells #[.string x.2.name, .slice xa x.2.args.length xc] 27)).putObj (w.heap.size + 1 + 1) (.loop rb)).output = W.output) := ⟨rfl, rfl, rfl⟩
    have HP4 := hide hP4
    have HP5 := hide hP5
    have HLV := hide hLV
    have HKV := hide kV
    clear hP4 hP5 hLV kV hRV hrb hrd
    have hf1 : (Fence.wide.inRound (w.heap.size + 1 + 1)).fn 43 := trivial
    subst huv
    gi_wp2
    generalize (((W.alloc (.cells #[.slice ua x.1.length uc] 22)).alloc (.cells #[.string x.2.name, .slice xa x.2.args.length xc] 27)).putObj (w.heap.size + 1 + 1) (.loop rb)) = V at *
    refine ⟨trivial, (fun h => by simp [Fence.wide] at h), ?_⟩
    refine (CallsIn.inRound _ (callsIn_wide.2 (stepsFits_any _ ⟨_, _, _, rfl⟩ _ _ _ _ _))).mono ?_
    rintro e w' ⟨rfl, rfl⟩
    gi_wp2
    clear cR cX0 cX1
    refine wp_rangeN (l₀ := w.heap.size + 1 + 1) (r₀ := rb) (by exact (Below.heap_alloc _ _ _ (by simp; omega)).trans ((Below.heap_alloc _ _ _ (by omega)).trans HLV.out)) (gf := 62) (lb := #[.pointer (some ⟨W.heap.size + 2, 0, none⟩), .pointer (some ⟨W.heap.size + 2 + 1, 0, none⟩)]) rfl (enters_of Try.func62 (by kernel_rfl) rfl) ?_
    intro r3 h31 h32 h33 h34 h35 h36
    have hz2 : ((V.alloc (.cells #[.slice un ul uc0] 23)).alloc (.cells #[.string x.2.name, .slice xa x.2.args.length xc] 27)).heap.size = W.heap.size + 4 := by simp; omega
    rw [hz2]
    have hz6 : (((V.alloc (.cells #[.slice un ul uc0] 23)).alloc (.cells #[.string x.2.name, .slice xa x.2.args.length xc] 27)).alloc (.loop r3)).heap.size = W.heap.size + 5 := by simp; omega
    have hB6 : Below V.heap.size V (((V.alloc (.cells #[.slice un ul uc0] 23)).alloc (.cells #[.string x.2.name, .slice xa x.2.args.length xc] 27)).alloc (.loop r3)) := below3 _ _ _
    have hR6 : Blk (((V.alloc (.cells #[.slice un ul uc0] 23)).alloc (.cells #[.string x.2.name, .slice xa x.2.args.length xc] 27)).alloc (.loop r3)) (W.heap.size + 2) #[.slice un ul uc0] 23 := by
      have h := ((Blk.new V #[.slice un ul uc0] 23).alloc (.cells #[.string x.2.name, .slice xa x.2.args.length xc] 27)).alloc (.loop r3)
      rw [hzV] at h
      exact h
    have hT6 : Blk (((V.alloc (.cells #[.slice un ul uc0] 23)).alloc (.cells #[.string x.2.name, .slice xa x.2.args.length xc] 27)).alloc (.loop r3)) (W.heap.size + 2 + 1) #[.string x.2.name, .slice xa x.2.args.length xc] 27 := by
      have h := (Blk.new (V.alloc (.cells #[.slice un ul uc0] 23)) #[.string x.2.name, .slice xa x.2.args.length xc] 27).alloc (.loop r3)
      rw [World.size_alloc, hzV] at h
      exact h
    have hL6 : (((V.alloc (.cells #[.slice un ul uc0] 23)).alloc (.cells #[.string x.2.name, .slice xa x.2.args.length xc] 27)).alloc (.loop r3)).heap[W.heap.size + 4]? = some (.loop r3) := by
      have h1 := World.alloc_heap_new ((V.alloc (.cells #[.slice un ul uc0] 23)).alloc (.cells #[.string x.2.name, .slice xa x.2.args.length xc] 27)) (.loop r3)
      rw [hz2] at h1
      exact h1
    have HOS6 : Hid ((((V.alloc (.cells #[.slice un ul uc0] 23)).alloc (.cells #[.string x.2.name, .slice xa x.2.args.length xc] 27)).alloc (.loop r3)).os = W.os ∧ (((V.alloc (.cells #[.slice un ul uc0] 23)).alloc (.cells #[.string x.2.name, .slice xa x.2.args.length xc] 27)).alloc (.loop r3)).tape = W.tape ∧ (((V.alloc (.cells #[.slice un ul uc0] 23)).alloc (.cells #[.string x.2.name, .slice xa x.2.args.length xc] 27)).alloc (.loop r3)).output = W.output) := HOSV.out
    generalize (((V.alloc (.cells #[.slice un ul uc0] 23)).alloc (.cells #[.string x.2.name, .slice xa x.2.args.length xc] 27)).alloc (.loop r3)) = W6 at *
    have e6 : ∀ b, b < W.heap.size → b ≠ w.heap.size + 1 + 1 → W6.heap[b]? = W.heap[b]? := fun b hb hne => (hB6.block b (by omega)).trans (HKV.out b hb hne)
    have hLb6 : W6.heap[w.heap.size + 1 + 1]? = some (.loop rb) := (hB6.block _ (by omega)).trans HLV.out
    have hP4 : Blk W6 W.heap.size #[.slice ua x.1.length uc] 22 := HP4.out.below hB6 (by omega)
    have hP5 : Blk W6 (W.heap.size + 1) #[.string x.2.name, .slice xa x.2.args.length xc] 27 := HP5.out.below hB6 (by omega)
    obtain ⟨K3, hK3⟩ : ∃ K3 : Nat → Prop, K3 = fun b => K2 b ∨ (Z b ∧ b ≠ w.heap.size + 1 + 1) ∨ b = w.heap.size + 1 + 1 ∨ b = W.heap.size ∨ b = W.heap.size + 1 := ⟨_, rfl⟩
    have k3a : Hid (∀ b, K2 b → K3 b) := fun b hb => by rw [hK3]; exact Or.inl hb
    have k3z : Hid (∀ b, Z b → K3 b) := fun b hb => by
      rw [hK3]
      by_cases h : b = w.heap.size + 1 + 1
      · exact Or.inr (Or.inr (Or.inl h))
      · exact Or.inr (Or.inl ⟨hb, h⟩)
    have k3l : Hid (K3 (w.heap.size + 1 + 1)) := by unfold Hid; rw [hK3]; exact Or.inr (Or.inr (Or.inl rfl))
    have k34 : Hid (K3 W.heap.size) := by unfold Hid; rw [hK3]; exact Or.inr (Or.inr (Or.inr (Or.inl rfl)))
    have k35 : Hid (K3 (W.heap.size + 1)) := by unfold Hid; rw [hK3]; exact Or.inr (Or.inr (Or.inr (Or.inr rfl)))
    have hZf : Hid (∀ b, Z b → b < W.heap.size ∧ ¬ f1 b ∧ b ≠ w.heap.size + 1 + 1) := fun b hb => ⟨(HZ.out b hb).1, fun h => (HZ.out b hb).2 ((HF2.out b).2 (Or.inl h)), fun h => (HZ.out b hb).2 ((HF2.out b).2 (Or.inr h))⟩
    have HK6 : Hid (∀ b, K3 b → b < W6.heap.size ∧ ¬ f1 b ∧ b ≠ W.heap.size + 4) := fun b hb => by
      rw [hK3] at hb
      have hfs := HIN1.out
      rcases hb with h | h | h | h | h
      · have := HK1.out b h; exact ⟨by omega, this.2.1, by omega⟩
      · have := hZf.out b h.1; exact ⟨by omega, this.2.1, by omega⟩
      · subst h; exact ⟨by omega, hfL, by omega⟩
      · subst h; exact ⟨by omega, fun h => by have := hfs _ (Or.inl h); omega, by omega⟩
      · subst h; exact ⟨by omega, fun h => by have := hfs _ (Or.inl h); omega, by omega⟩
    clear hK3
    obtain ⟨rd3, hrd3⟩ : ∃ rd : Loop, rd = { r3 with state := .done, pending := some .ret } := ⟨_, rfl⟩
    obtain ⟨rb3, hrb3⟩ : ∃ rb : Loop, rb = { r3 with state := .busy } := ⟨_, rfl⟩
    have hJ6 : J (pre ++ pre2.flatMap (chG rs)) true f1 W6 := HJ.out.abide HJ1.out (by omega) fun b hb => e6 b (HIN1.out b hb) (fun h => by
      rcases hb with hb | hb
      · rw [h] at hb; exact hfL hb
      · exact (HK1.out b (HKK.out b hb)).2.2 h)
    have hok3 : TkOk (JL J K3 (fun y : Ft => [((x, y) : Ch)]) (pre ++ pre2.flatMap (chG rs)) (W.heap.size + 4) r3 rd3 W6) K3 := JL.ok HJ.out fun b hb => k3a.out b (HKK.out b hb)
    have hU6 : QV W6 X (.slice un ul uc0) rs := ((HU5.out.mono (Y := fun b => X b ∧ b < W5.heap.size) fun b h1 h2 => ⟨h1, h2⟩).kept fun b hb => by
      have h1 := HK1.out b (HKX.out b hb.1)
      exact (e6 b (by omega) h1.2.2).trans (HC.out b (HKX.out b hb.1))).mono fun b hb _ => hb.1
    have HPU6 : Hid (PV W6 Z (.slice ua x.1.length uc) x.1) := HPU.out.kept fun b hb => e6 b (hZf.out b hb).1 (hZf.out b hb).2.2
    have hXS6 : Sl W6 Z xa x.2.args := HXS.out.kept fun b hb => e6 b (hZf.out b hb).1 (hZf.out b hb).2.2
    have HXS6 := hide hXS6
    have hY6 : Blk W6 w.heap.size #[.func (.yield lp) #[] #[]] 93 := (e6 _ (by omega) (by omega)).trans ((HC.out _ HKY.out).trans HY5.out)
    have HY6 := hide hY6
    have HP46 := hide hP4
    have HP56 := hide hP5
    have HLB6 := hide hLb6
    have HE6 := hide e6
    have HL6 := hide hL6
    have HJ6 := hide hJ6
    have HT6 := hide hT6
    have HR6' := hide hR6
    have HU6 := hide hU6
    have HOK3 := hide hok3
    clear hY6 hP4 hP5 hLb6 e6 hL6 hJ6 hT6 hR6 hU6 hXS6 hok3 hB6 hz2
    have RH3 : RndS (W.heap.size + 4) LpF (JL J K3 (fun y : Ft => [((x, y) : Ch)]) (pre ++ pre2.flatMap (chG rs)) (W.heap.size + 4) r3 rd3 W6) (fitsL rs x.2) S := by
      intro n3 pre3 y args Z3 f3 U hoky hjj hl hZ3
      have HOKY := hide hoky
      clear hoky
      obtain ⟨g1, m3, hg3, hm3, hm32, hj3, hgL, hL3, hK3', hzU, hC3⟩ := hjj
      obtain ⟨ra, rc, q, Lm, rfl, hra, hq, henv⟩ := hl
      have em3 := hm32 rfl
      subst em3
      rw [List.take_length] at hj3
      simp only [if_true] at hL3
      have HRA := hide hra
      have HQ := hide hq
      have HEN := hide henv
      have HJ3 := hide hj3
      have HING := hide (HJ.out.inside hj3)
      have HG3 := hide hg3
      have HK3' := hide hK3'
      have HC3 := hide hC3
      have HZ3 := hide hZ3
      have HL3 := hide hL3
      have hlL3 : W.heap.size + 4 < U.heap.size := (Array.getElem?_eq_some_iff.1 hL3).1
      clear hra hq henv hj3 hg3 hK3' hC3 hZ3 hm3 hm32
      refine yield_two hrb3 hrd3 h35 h36 h34 h33 hL3 h31 h32 rfl ?_
      have hL32 : (U.alloc (.cells #[.string y.1.r.name, .slice ra y.1.r.args.length rc, .map (some q)] 69)).heap[W.heap.size + 4]? = some (.loop r3) := (Below.heap_alloc _ _ _ hlL3).trans hL3
      have kU : ∀ b, b < U.heap.size → b ≠ W.heap.size + 4 → ((U.alloc (.cells #[.string y.1.r.name, .slice ra y.1.r.args.length rc, .map (some q)] 69)).putObj (W.heap.size + 4) (.loop rb3)).heap[b]? = U.heap[b]? := fun b hb hne => (World.putObj_heap_other hne).trans (Below.heap_alloc _ _ _ hb)
      have hzU2 : ((U.alloc (.cells #[.string y.1.r.name, .slice ra y.1.r.args.length rc, .map (some q)] 69)).putObj (W.heap.size + 4) (.loop rb3)).heap.size = U.heap.size + 1 := by simp
      have hFB : Blk ((U.alloc (.cells #[.string y.1.r.name, .slice ra y.1.r.args.length rc, .map (some q)] 69)).putObj (W.heap.size + 4) (.loop rb3)) U.heap.size #[.string y.1.r.name, .slice ra y.1.r.args.length rc, .map (some q)] 69 := (World.putObj_heap_other (by omega)).trans (Blk.new U _ _)
      have hLU : ((U.alloc (.cells #[.string y.1.r.name, .slice ra y.1.r.args.length rc, .map (some q)] 69)).putObj (W.heap.size + 4) (.loop rb3)).heap[W.heap.size + 4]? = some (.loop rb3) := World.putObj_heap_same (by simp; omega)
      have k6 : ∀ b, K3 b → ((U.alloc (.cells #[.string y.1.r.name, .slice ra y.1.r.args.length rc, .map (some q)] 69)).putObj (W.heap.size + 4) (.loop rb3)).heap[b]? = W6.heap[b]? := fun b hb => (kU b (by have := (HK3'.out b hb).1; omega) (HK3'.out b hb).2.2).trans (HC3.out b hb)
      have cY : ((U.alloc (.cells #[.string y.1.r.name, .slice ra y.1.r.args.length rc, .map (some q)] 69)).putObj (W.heap.size + 4) (.loop rb3)).cell? ⟨w.heap.size, 0, none⟩ = some (.func (.yield lp) #[] #[]) := Blk.cell (show Blk _ w.heap.size _ _ from (k6 _ (k3a.out _ HKY.out)).trans HY6.out) 0
      have cP : ((U.alloc (.cells #[.string y.1.r.name, .slice ra y.1.r.args.length rc, .map (some q)] 69)).putObj (W.heap.size + 4) (.loop rb3)).cell? ⟨W.heap.size, 0, none⟩ = some (.slice ua x.1.length uc) := Blk.cell (show Blk _ W.heap.size _ _ from (k6 _ k34.out).trans HP46.out) 0
      have cX0 : ((U.alloc (.cells #[.string y.1.r.name, .slice ra y.1.r.args.length rc, .map (some q)] 69)).putObj (W.heap.size + 4) (.loop rb3)).cell? ⟨W.heap.size + 1, 0, none⟩ = some (.string x.2.name) := Blk.cell (show Blk _ (W.heap.size + 1) _ _ from (k6 _ k35.out).trans HP56.out) 0
      have cX1 : ((U.alloc (.cells #[.string y.1.r.name, .slice ra y.1.r.args.length rc, .map (some q)] 69)).putObj (W.heap.size + 4) (.loop rb3)).cell? ⟨W.heap.size + 1, 1, none⟩ = some (.slice xa x.2.args.length xc) := Blk.cell (show Blk _ (W.heap.size + 1) _ _ from (k6 _ k35.out).trans HP56.out) 1
      have cF0 : ((U.alloc (.cells #[.string y.1.r.name, .slice ra y.1.r.args.length rc, .map (some q)] 69)).putObj (W.heap.size + 4) (.loop rb3)).cell? ⟨U.heap.size, 0, none⟩ = some (.string y.1.r.name) := hFB.cell 0
      have cF1 : ((U.alloc (.cells #[.string y.1.r.name, .slice ra y.1.r.args.length rc, .map (some q)] 69)).putObj (W.heap.size + 4) (.loop rb3)).cell? ⟨U.heap.size, 1, none⟩ = some (.slice ra y.1.r.args.length rc) := hFB.cell 1
      have cF2 : ((U.alloc (.cells #[.string y.1.r.name, .slice ra y.1.r.args.length rc, .map (some q)] 69)).putObj (W.heap.size + 4) (.loop rb3)).cell? ⟨U.heap.size, 2, none⟩ = some (.map (some q)) := hFB.cell 2
      have hJU : J ((pre ++ pre2.flatMap (chG rs)) ++ pre3.flatMap (fun y : Ft => [((x, y) : Ch)])) true g1 ((U.alloc (.cells #[.string y.1.r.name, .slice ra y.1.r.args.length rc, .map (some q)] 69)).putObj (W.heap.size + 4) (.loop rb3)) := HJ.out.abide HJ3.out (by omega) fun b hb => kU b (HING.out b hb) (fun h => by
        rcases hb with hb | hb
        · rw [h] at hb; exact hgL hb
        · exact (HK3'.out b (k3a.out b (HKK.out b hb))).2.2 h)
      have hZ3f : Hid (∀ b, Z3 b → b < U.heap.size ∧ ¬ g1 b ∧ b ≠ W.heap.size + 4) := fun b hb => ⟨(HZ3.out b hb).1, fun h => (HZ3.out b hb).2 ((HG3.out b).2 (Or.inl h)), fun h => (HZ3.out b hb).2 ((HG3.out b).2 (Or.inr h))⟩
      have HOS : Hid (((U.alloc (.cells #[.string y.1.r.name, .slice ra y.1.r.args.length rc, .map (some q)] 69)).putObj (W.heap.size + 4) (.loop rb3)).os = U.os ∧ ((U.alloc (.cells #[.string y.1.r.name, .slice ra y.1.r.args.length rc, .map (some q)] 69)).putObj (W.heap.size + 4) (.loop rb3)).tape = U.tape ∧ ((U.alloc (.cells #[.string y.1.r.name, .slice ra y.1.r.args.length rc, .map (some q)] 69)).putObj (W.heap.size + 4) (.loop rb3)).output = U.output) := ⟨rfl, rfl, rfl⟩
      have HKU := hide kU
      have HLU := hide hLU
      have HKU6 := hide k6
      clear kU hLU k6 hFB
      have RHW := HRH.out (n3 - 1) _ (x, y) #[.agg #[.slice ua x.1.length uc, .string x.2.name, .slice xa x.2.args.length xc, .string y.1.r.name, .slice ra y.1.r.args.length rc, .map (some q)]] (fun b => Z b ∨ Z3 b) g1 ((U.alloc (.cells #[.string y.1.r.name, .slice ra y.1.r.args.length rc, .map (some q)] 69)).putObj (W.heap.size + 4) (.loop rb3)) (by
          obtain ⟨q3, e3⟩ := HOKY.out
          obtain ⟨q2, e2⟩ := HOKX.out
          refine List.IsPrefix.trans ⟨(q3.map fun z => (x, z)) ++ q2.flatMap (chG rs), ?_⟩ HOK.out
          unfold chL
          rw [← e2, List.flatMap_append, List.flatMap_append, List.flatMap_singleton, chG, ← e3, List.map_append, List.map_append, ← List.map_eq_flatMap]
          simp) hJU
        ⟨ua, uc, xa, xc, ra, rc, q, Lm, rfl, (HPU6.out.kept fun b hb => HKU6.out b (k3z.out b hb)).mono fun b hb _ => Or.inl hb, (HXS6.out.kept fun b hb => HKU6.out b (k3z.out b hb)).mono fun b hb _ => Or.inl hb, (HRA.out.kept fun b hb => HKU.out b (hZ3f.out b hb).1 (hZ3f.out b hb).2.2).mono fun b hb _ => Or.inr hb, Or.inr HQ.out, HEN.out.1.kept (HKU.out q (hZ3f.out q HQ.out).1 (hZ3f.out q HQ.out).2.2), HEN.out.2.imp fun a l hs => (hs.kept fun b hb => HKU.out b (hZ3f.out b hb).1 (hZ3f.out b hb).2.2).mono fun b hb _ => Or.inr hb⟩
        (fun b hb => by
          rcases hb with hb | hb
          · have h1 := HK3'.out b (k3z.out b hb); exact ⟨by omega, h1.2.1⟩
          · have h1 := hZ3f.out b hb; exact ⟨by omega, h1.2.1⟩)
      obtain ⟨hfn, htmps, hasg, hbody, hy, hR⟩ := RHW
      have HRR := hide hR
      clear hR hJU hrb3 hrd3
      gi_wp2
      refine ⟨(Array.getElem?_eq_some_iff.1 hL32).2, ?_⟩
      generalize ((U.alloc (.cells #[.string y.1.r.name, .slice ra y.1.r.args.length rc, .map (some q)] 69)).putObj (W.heap.size + 4) (.loop rb3)) = V3 at *
      gi_wp2
      refine ⟨(fun h => by simp [Fence.wide] at h), ?_⟩
      refine RoundIn.mono (F := Fence.wide.inRound (W.heap.size + 4)) HRR.out ?_
      rintro e W9 ⟨s9, rfl, f9, hj9, he9, hff9, hS9⟩
      have HS9 := hide hS9
      clear hS9
      have hz9 := he9.size
      have HL9 : Hid (W9.heap[W.heap.size + 4]? = some (.loop rb3)) := (he9.block _ (by omega) hgL).trans HLU.out
      have HFIN : Hid (∀ o : Loop, o = (if s9 = true then r3 else rd3) → ∃ f', JL J K3 (fun y : Ft => [((x, y) : Ch)]) (pre ++ pre2.flatMap (chG rs)) (W.heap.size + 4) r3 rd3 W6 (pre3 ++ [y]) s9 f' (W9.putObj (W.heap.size + 4) (.loop o)) ∧ ExQ f3 U (W9.putObj (W.heap.size + 4) (.loop o)) ∧ (∀ b, f' b → f3 b ∨ U.heap.size ≤ b) ∧ IfNo s9 (S (W9.putObj (W.heap.size + 4) (.loop o)))) := fun o ho => by
        subst ho
        have h4n : ¬ f9 (W.heap.size + 4) := fun h => by
          rcases hff9 _ h with h | h
          · exact hgL h
          · omega
        have hk9 : ∀ b, K3 b → W9.heap[b]? = W6.heap[b]? ∧ ¬ f9 b := fun b hb => by
          have h1 := HK3'.out b hb
          refine ⟨(he9.block b (by omega) h1.2.1).trans (HKU6.out b hb), fun h => ?_⟩
          rcases hff9 _ h with h | h
          · exact h1.2.1 h
          · omega
        refine ⟨fun b => f9 b ∨ b = W.heap.size + 4, ⟨f9, _, fun b => Iff.rfl, Nat.le_refl _, fun _ => rfl, ?_, h4n, World.putObj_heap_same (by omega), fun b hb => ⟨(HK3'.out b hb).1, (hk9 b hb).2, (HK3'.out b hb).2.2⟩, by simp; omega, fun b hb => (World.putObj_heap_other (HK3'.out b hb).2.2).trans (hk9 b hb).1⟩, ?_, (fun b hb => ?_), fun h => HST.out.put (HS9.out h) HL9.out _⟩
        · rw [List.take_length, List.flatMap_append]
          refine HJ.out.abide (by simpa using hj9) (by simp) fun b hb => World.putObj_heap_other fun h => ?_
          rcases hb with hb | hb
          · rw [h] at hb; exact h4n hb
          · exact (HK3'.out b (k3a.out b (HKK.out b hb))).2.2 h
        · refine ⟨?_, ?_, ?_, by simp; omega, fun b hb hn => ?_⟩
          · exact he9.os.trans HOS.out.1
          · exact he9.tape.trans HOS.out.2.1
          · exact he9.output.trans HOS.out.2.2
          · have h1 : b ≠ W.heap.size + 4 := fun h => hn ((HG3.out b).2 (Or.inr h))
            rw [World.putObj_heap_other h1, he9.block b (by omega) (fun h => hn ((HG3.out b).2 (Or.inl h))), HKU.out b hb h1]
        · rcases hb with hb | hb
          · rcases hff9 b hb with h | h
            · exact Or.inl ((HG3.out b).2 (Or.inl h))
            · right; omega
          · exact Or.inl ((HG3.out b).2 (Or.inr hb))
      clear hj9 he9 hff9
      cases s9 with
      | true =>
        gi_wp2
        exact ⟨HL9.out, HFIN.out _ rfl⟩
      | false =>
        gi_wp2
        exact ⟨HL9.out, HFIN.out _ rfl⟩
    have hXf : ∀ b, X b ∨ Z b → b < W6.heap.size ∧ ¬ (f1 b ∨ b = W.heap.size + 4) := fun b hb => by
      have h1 : K3 b := by
        rcases hb with hb | hb
        · exact k3a.out b (HKX.out b hb)
        · exact k3z.out b hb
      have h2 := HK6.out b h1
      exact ⟨h2.1, fun h => by
        rcases h with h | h
        · exact h2.2.1 h
        · exact h2.2.2 h⟩
    refine (fits1S_any HOK3.out (W.heap.size + 4) RH3 rs x.2 (W.heap.size + 2) (W.heap.size + 2 + 1) (.slice un ul uc0) xa xc [] (fun b => f1 b ∨ b = W.heap.size + 4) W6 (fun b => X b ∨ Z b) HR6'.out (HU6.out.mono fun b hb _ => Or.inl hb) HT6.out (HXS6.out.mono fun b hb _ => Or.inr hb) hXf (fun h => by
      rcases h with h | h
      · have := HIN1.out _ (Or.inl h); omega
      · omega) (fun h => by
      rcases h with h | h
      · have := HIN1.out _ (Or.inl h); omega
      · omega) (JL.start HJ6.out (fun h => by have := HIN1.out _ (Or.inl h); omega) HL6.out HK6.out) (by simp)).mono ?_
    clear RH3 hXf
    rintro e W7 ⟨hret, s7, hw7, hS7⟩
    have HS7 := hide hS7
    clear hS7
    obtain ⟨f7, m7, hm7, hm72, hj7, hfL7, hL7, hK7, he7, hff7⟩ := hw7.unJL
    have hz7 := he7.size
    have HRET := hide hret
    have HFIN : Hid (∀ (o : Loop) (o3 : Obj), o = (if s7 = true then r else rd) → (W7.putObj (W.heap.size + 4) o3).heap[w.heap.size + 1 + 1]? = some (.loop rb) ∧ ∃ f', JL J K2 (chG rs) pre (w.heap.size + 1 + 1) r rd W5 (pre2 ++ [x]) s7 f' ((W7.putObj (W.heap.size + 4) o3).putObj (w.heap.size + 1 + 1) (.loop o)) ∧ ExQ f2 W ((W7.putObj (W.heap.size + 4) o3).putObj (w.heap.size + 1 + 1) (.loop o)) ∧ (∀ b, f' b → f2 b ∨ W.heap.size ≤ b) ∧ IfNo s7 (S ((W7.putObj (W.heap.size + 4) o3).putObj (w.heap.size + 1 + 1) (.loop o)))) := fun o o3 ho => by
      subst ho
      have hLb := hK7 _ k3l.out
      have kk : ∀ b, b ≠ W.heap.size + 4 → b ≠ w.heap.size + 1 + 1 → ((W7.putObj (W.heap.size + 4) o3).putObj (w.heap.size + 1 + 1) (.loop (if s7 = true then r else rd))).heap[b]? = W7.heap[b]? := fun b h1 h2 => (World.putObj_heap_other h2).trans (World.putObj_heap_other h1)
      have hmap : (fitsL rs x.2).flatMap (fun y : Ft => [((x, y) : Ch)]) = chG rs x := by unfold chG; rw [List.map_eq_flatMap]
      rw [hmap] at hm7 hm72 hj7
      refine ⟨(World.putObj_heap_other (by omega)).trans (hLb.2.2.2.trans HLB6.out), fun b => f7 b ∨ b = w.heap.size + 1 + 1, ⟨f7, (pre2.flatMap (chG rs)).length + m7, fun b => Iff.rfl, by rw [List.flatMap_append, List.length_append]; simp; omega, fun h => by rw [List.flatMap_append, List.length_append, hm72 h]; simp, ?_, hLb.2.1, World.putObj_heap_same (by simp; omega), fun b hb => ⟨(HK1.out b hb).1, (hK7 b (k3a.out b hb)).2.1, (HK1.out b hb).2.2⟩, by simp; omega, fun b hb => ?_⟩, ?_, (fun b hb => ?_), fun h => HST.out.put (HST.out.put (HS7.out h) hL7 _) ((World.putObj_heap_other (by omega)).trans (hLb.2.2.2.trans HLB6.out)) _⟩
      · refine HJ.out.abide (W := W7) (by
          rw [List.flatMap_append, List.take_append, List.take_of_length_le (by omega)]
          simpa [List.append_assoc] using hj7) (by simp) fun b hb => kk b (fun h => ?_) (fun h => ?_)
        · rcases hb with hb | hb
          · rw [h] at hb; exact hfL7 hb
          · exact (hK7 b (k3a.out b (HKK.out b hb))).2.2.1 h
        · rcases hb with hb | hb
          · rw [h] at hb; exact hLb.2.1 hb
          · exact (HK1.out b (HKK.out b hb)).2.2 h
      · have h1 := hK7 b (k3a.out b hb)
        have h2 := HK1.out b hb
        exact (kk b h1.2.2.1 h2.2.2).trans (h1.2.2.2.trans ((HE6.out b (by omega) h2.2.2).trans (HC.out b hb)))
      · refine ⟨?_, ?_, ?_, by simp; omega, fun b hb hn => ?_⟩
        · exact he7.os.trans HOS6.out.1
        · exact he7.tape.trans HOS6.out.2.1
        · exact he7.output.trans HOS6.out.2.2
        · have h1 : b ≠ w.heap.size + 1 + 1 := fun h => hn ((HF2.out b).2 (Or.inr h))
          have h2 : ¬ f1 b := fun h => hn ((HF2.out b).2 (Or.inl h))
          rw [kk b (by omega) h1, he7.block b (by omega) (fun h => by
            rcases h with (h | h) | h
            · exact h2 h
            · omega
            · exact h), HE6.out b hb h1]
      · rcases hb with hb | hb
        · rcases hff7 b hb with (h | h) | h
          · exact Or.inl ((HF2.out b).2 (Or.inl h))
          · right; omega
          · right; omega
        · exact Or.inl ((HF2.out b).2 (Or.inr hb))
    have HL7 := hide hL7
    clear hw7 hj7 hK7 he7 hff7 hm7 hm72 hret
    refine ⟨HRET.out, ?_⟩
    cases s7 with
    | true =>
      left
      refine ⟨HL7.out, ?_⟩
      gi_wp2
      exact HFIN.out _ _ rfl
    | false =>
      right
      refine ⟨by rw [← hrd3]; exact HL7.out, ?_⟩
      gi_wp2
      exact HFIN.out _ _ rfl
  refine (downCS_any hok (w.heap.size + 1 + 1) RH2 t fs T F aa ca fv [] (fun b => f b ∨ b = w.heap.size + 1 + 1) W5 X (HT.out.below hB5 HT.out.lt) (HS.out.later hB5) (HF.out.below hB5 HF.out.lt) (HFV.out.later hB5) hat (fun b hb => ⟨(HK5.out b (HKX.out b hb)).1, fun h => by
    rcases h with h | h
    · exact (HK5.out b (HKX.out b hb)).2.1 h
    · exact (HK5.out b (HKX.out b hb)).2.2 h⟩) (JL.start (HJ.out.abide HJ0.out (by omega) fun b hb => e5 b (HI.out b hb)) (fun h => by have := HI.out _ (Or.inl h); omega) hL5 HK5.out) hz (by simp)).mono ?_
  rintro e W ⟨hret, s, hw, hSS⟩
  have HSS := hide hSS
  clear hSS
  obtain ⟨f', m, hm, hm2, hj', hfL', hL', hK', he', hff'⟩ := hw.unJL
  have hz' := he'.size
  have HDW : Hid (∀ o, (W.putObj (w.heap.size + 1 + 1) o).heap[w.heap.size + 1]? = some (.deferred (some []))) := fun o => (World.putObj_heap_other (by omega)).trans ((hK' _ HKD.out).2.2.2.trans hD5)
  have HFIN : Hid (∀ o o1, Went J (chL rs t fs) pre f (fun _ => False) w s ((W.putObj (w.heap.size + 1 + 1) o).putObj (w.heap.size + 1) o1)) := fun o o1 => by
    have kk : ∀ b, b ≠ w.heap.size + 1 + 1 → b ≠ w.heap.size + 1 → ((W.putObj (w.heap.size + 1 + 1) o).putObj (w.heap.size + 1) o1).heap[b]? = W.heap[b]? := fun b h1 h2 => (World.putObj_heap_other h2).trans (World.putObj_heap_other h1)
    have hKd := hK' _ HKD.out
    refine ⟨m, f', hm, hm2, HJ.out.abide hj' (by simp) fun b hb => kk b (fun h => ?_) (fun h => ?_), ⟨?_, ?_, ?_, by simp; omega, fun b hb hn => ?_⟩, fun b hb => ?_⟩
    · rcases hb with hb | hb
      · rw [h] at hb; exact hfL' hb
      · exact (hK' b (HKK.out b hb)).2.2.1 h
    · rcases hb with hb | hb
      · rw [h] at hb; exact hKd.2.1 hb
      · have := HI.out b (Or.inr hb); omega
    · exact he'.os.trans hB5.os
    · exact he'.tape.trans hB5.tape
    · exact he'.output.trans hB5.output
    · rw [kk b (by omega) (by omega), he'.block b (by omega) (fun h => by
        rcases h with (h | h) | h
        · exact hn (Or.inl h)
        · omega
        · exact h), e5 b hb]
    · rcases hff' b hb with (h | h) | h
      · exact Or.inl h
      · right; omega
      · right; omega
  have HFS : Hid (∀ o o1, IfNo s (S ((W.putObj (w.heap.size + 1 + 1) o).putObj (w.heap.size + 1) o1))) := fun o o1 h => HST.out.putD (HST.out.put (HSS.out h) hL' _) (HDW.out _) _
  have HL' := hide hL'
  have HRET := hide hret
  clear hw hj' hK' he' hff' hm hm2 hret RH2 hok hB5 hD5 hL5 e5
  refine ⟨HRET.out, ?_⟩
  cases s with
  | true =>
    left
    refine ⟨HL'.out, ?_⟩
    gi_wp2
    refine ⟨by simp, .inl ⟨_, _, rfl, run_takeDeferred (HDW.out _), ?_⟩⟩
    exact ⟨_, results_none rfl _ _ _, ⟨_, rfl⟩, ⟨true, HFIN.out _ _, HFS.out _ _⟩⟩
  | false =>
    right
    refine ⟨by rw [← hrd]; exact HL'.out, ?_⟩
    gi_wp2
    refine ⟨by simp, .inl ⟨_, _, rfl, run_takeDeferred (HDW.out _), ?_⟩⟩
    exact ⟨_, results_none rfl _ _ _, ⟨_, rfl⟩, ⟨false, HFIN.out _ _, HFS.out _ _⟩⟩
set_option maxHeartbeats 2000000 in
theorem chances1I_any {J : Tk Ch} {K : Nat → Prop} {all : List Ch} (hJ : TkOk J K) (lp : Nat) (RH : Rnd lp LpC J all) (rs : List Pr) (t : Tm) (fs : List Int) (P R T F : Nat) (uv : Value) (aa : Option Addr) (ca : Nat) (fv : Value) (pre : List Ch) (f : Nat → Prop) (w : World) (X : Nat → Prop) (hP : Blk w P #[.func (.func 44) #[] #[.pointer (some ⟨T, 0, none⟩), .pointer (some ⟨F, 0, none⟩)]] 65) (hR : Blk w R #[uv] 23) (hu : QV w X uv rs) (hT : Blk w T #[.string t.name, .slice aa t.args.length ca] 27) (hs : Sl w X aa t.args) (hF : Blk w F #[fv] 22) (hfv : PV w X fv fs) (hat : (atT t fs).isSome = true) (hX : ∀ b, X b → b < w.heap.size ∧ ¬ f b) (hRf : ¬ f R) (hj : J pre true f w) (hz : sizeL [t] ≤ 800000) (hOk : (pre ++ chL rs t fs) <+: all) :
    Calls Try.prog 42 #[.func (.yield lp) #[] #[], .pointer (some ⟨P, 0, none⟩), .pointer (some ⟨R, 0, none⟩)] w fun e w' => (∃ v, e = .returned v) ∧ ∃ b, Went J (chL rs t fs) pre f (fun _ => False) w b w' := by
  refine (chances1S_any hJ lp StopOk.triv RH.toS rs t fs P R T F uv aa ca fv pre f w X hP hR hu hT hs hF hfv hat hX hRf hj hz hOk).mono ?_
  rintro e w' ⟨h1, b, h2, _⟩
  exact ⟨h1, b, h2⟩
#print axioms chances1I_any
end Go.Proofs.Ytccbocefgoccdaa

/- Walks: Fill by a fit. -/
namespace Go.Proofs.Ytccbocefgoccdaa
open Go.RowKit
set_option linter.unusedSimpArgs false
set_option linter.unusedVariables false
set_option maxRecDepth 8000

set_option maxHeartbeats 1000000 in
theorem knotR_any (F : Nat) (r rl rc : Nat) (rn : ByteArray) (ra : Option Addr) (ls : List Bd) (L : List (ByteArray × Value)) (hrF : r ≠ F) (t : Tm) : ∀ (n : Nat) (v : Value) (w : World) (X : Nat → Prop), TV w X v t → (∀ b, X b → b ≠ F) → n ≤ 1000000 → Blk w F #[.int .i64 (n : Int), .func (.func 47) #[.agg #[.string rn, .slice ra rl rc, .map (some r)]] #[]] 122 → EnvR w r X ls L →
    Calls Try.prog 87 #[.pointer (some ⟨F, 0, none⟩), v, .func (.func 65) #[.pointer (some ⟨F, 0, none⟩)] #[]] w fun e w' => CpPost w F (.func (.func 47) #[.agg #[.string rn, .slice ra rl rc, .map (some r)]] #[]) ⟨t.name, fL ls t.args⟩ n e w' := by
  induction t using Tm.ind with
  | h s l ih =>
    intro n v w X hv hXF hn hF hE
    obtain ⟨a, c, rfl, hs⟩ := hv
    dsimp only
    generalize hsv : Value.func (.func 47) #[.agg #[.string rn, .slice ra rl rc, .map (some r)]] #[] = sv at *
    obtain ⟨M, hM⟩ : ∃ M, fL ls l = M := ⟨_, rfl⟩
    rw [hM]
    have hML : M.length = l.length := by rw [← hM, fL_map]; simp
    have HMK : Hid (∀ k (h : k < M.length) (h' : k < l.length), M[k] = fT ls l[k]) := fun k h h' => by subst hM; simp [fL_map]
    have HE := hide hE
    clear hE hM
    have IH := hide ih
    clear ih
    obtain ⟨i0, hi0, hz0, hz1, hz2⟩ := info_parts Try.infoTerm
    have f0 : ∀ o, (w.alloc o).cell? ⟨F, 0, none⟩ = some (.int .i64 (n : Int)) := fun o => (hF.alloc o).cell 0
    have ff : ∀ o, (w.alloc o).frozen? ⟨F, 0, none⟩ = false := fun o => (hF.alloc o).frozen 0
    have hFl : F < w.heap.size := hF.lt
    go_enter Try.func87, Try.ntmps87
    go_wp2_with fail
    have E3 : Hid (KnSet w F (w.heap.size + 1 + 1) s (.slice none 0 0) #[.int .i64 ((n : Int) - 1), sv] ((((w.setCell ⟨F, 0, none⟩ (.int .i64 ((n : Int) - 1))).alloc (.cells #[.string s, .slice a l.length c] 27)).alloc (.cells #[.string ⟨#[]⟩, .slice none 0 0] 27)).alloc (.cells #[.string s, .slice none 0 0] 27))) := by
      refine ⟨((((Ex.refl F w).set 0 _).alloc _).alloc _).alloc _, ?_, ?_, (((hF.set 0 _).alloc _).alloc _).alloc _, by simp [World.setCell]⟩
      · have h := (Blk.new ((w.setCell ⟨F, 0, none⟩ (.int .i64 ((n : Int) - 1))).alloc (.cells #[.string s, .slice a l.length c] 27)) #[.string ⟨#[]⟩, .slice none 0 0] 27).alloc (.cells #[.string s, .slice none 0 0] 27)
        simpa [World.setCell] using h
      · have h := Blk.new (((w.setCell ⟨F, 0, none⟩ (.int .i64 ((n : Int) - 1))).alloc (.cells #[.string s, .slice a l.length c] 27)).alloc (.cells #[.string ⟨#[]⟩, .slice none 0 0] 27)) #[.string s, .slice none 0 0] 27
        simpa [World.setCell] using h
    generalize ((((w.setCell ⟨F, 0, none⟩ (.int .i64 ((n : Int) - 1))).alloc (.cells #[.string s, .slice a l.length c] 27)).alloc (.cells #[.string ⟨#[]⟩, .slice none 0 0] 27)).alloc (.cells #[.string s, .slice none 0 0] 27)) = w3 at *
    generalize hOe : w.heap.size + 1 + 1 = O at *
    have hO : w.heap.size + 2 ≤ O := by omega
    clear hOe
    clear f0 ff
    have HS := hide hs
    have hl := hs.1
    have HXF := hide hXF
    have hz : sizeL [(⟨s, M⟩ : Tm)] = 1 + sizeL M := by simp [sizeL]
    clear hs hXF
    go_loopw [23] (fun i wr => KnInv w F O s sv M n i wr) (fun i wr => l.length - (intOf i).toNat)
    case atStart =>
      refine ⟨0, .slice none 0 0, Nat.zero_le _, rfl, ?_⟩
      by_cases hn0 : n = 0
      · subst hn0
        exact Or.inr ⟨by omega, E3.out, none, 0, 0, rfl⟩
      · refine Or.inl ⟨n - 1, [], by simp [sizeL]; omega, ?_, Row.start _ _ _ _⟩
        rw [show ((n - 1 : Nat) : Int) = (n : Int) - 1 by omega]
        exact E3.out
    case round =>
      obtain ⟨k, u, hk, rfl, hcase⟩ := hrel
      rcases hcase with ⟨m, xs, hm, hset, hrow⟩ | ⟨hbig, hset, a9, l9, c9, rfl⟩
      · have XS := hide hset
        have XW := hide hrow
        have HMM := hide hm
        clear hset hrow
        by_cases hlt : k < l.length
        · obtain ⟨b, o, a', c', rfl, d0, d1, hx⟩ := (HS.out.ex XS.out.1 HXF.out).get (Below.refl _ _) (fun _ _ h => h) k hlt
          obtain ⟨av, cv, ev, hsx⟩ := hx
          simp at ev
          obtain ⟨rfl, rfl⟩ := ev
          have hltM : k < M.length := by omega
          obtain ⟨y, hy⟩ : ∃ y, fT ls l[k] = y := ⟨_, rfl⟩
          have hMy : Hid (M[k] = y) := by unfold Hid; rw [HMK.out k hltM hlt, hy]
          have hmn : m ≤ 1000000 := by omega
          have HOF : Hid (O ≠ F) := by unfold Hid; omega
          have HFO1 : Hid (F < O + 1) := by unfold Hid; omega
          have hlen := sizeL_len M
          have hsk : (M.take k).length = k := by simp; omega
          have hkn : k ≤ 1000000 := by have h1 := sizeL_len (M.take k); rw [hsk] at h1; omega
          have HL1 : Hid ((M.take k).length + 1 ≤ maxLen ∧ ((M.take k).length + 1) * 40 ≤ 140737488355328) := by unfold Hid; rw [hsk]; exact ⟨by unfold maxLen; omega, by omega⟩
          clear hsk
          have IHQ : Hid (Calls Try.prog 65 #[.pointer (some ⟨F, 0, none⟩), .agg #[.string l[k].name, .slice a' l[k].args.length c']] (wr.alloc (.cells #[.string l[k].name, .slice a' l[k].args.length c'] 27)).drew fun e w'' => CpPost (wr.alloc (.cells #[.string l[k].name, .slice a' l[k].args.length c'] 27)).drew F sv y m e w'') := by
            have hEr : EnvR (wr.alloc (.cells #[.string l[k].name, .slice a' l[k].args.length c'] 27)).drew r X ls L := ((HE.out.ex XS.out.1 hrF HXF.out).later ((Below.refl _ _).alloc (Nat.le_refl _) _)).later ((Below.refl _ _).drew)
            have hFr : Blk (wr.alloc (.cells #[.string l[k].name, .slice a' l[k].args.length c'] 27)).drew F #[.int .i64 (m : Int), sv] 122 := (XS.out.2.2.2.1.alloc _).drewN 1
            have hSr : Sl (wr.alloc (.cells #[.string l[k].name, .slice a' l[k].args.length c'] 27)).drew X a' l[k].args := (hsx.later ((Below.refl _ _).alloc (Nat.le_refl _) _)).later ((Below.refl _ _).drew)
            have IH2 := IH.out l[k] (List.getElem_mem hlt) m
            rw [← hy]
            clear HMM XS XW
            subst hsv
            exact ffillR_of F r rl rc rn ra ls L l[k] m a' c' _ X hmn HXF.out hrF hSr hFr hEr (fun w' h1 h2 h3 => IH2 _ w' X ⟨a', c', rfl, h1⟩ HXF.out hmn h2 h3)
          have f0 : ∀ o, (wr.alloc o).cell? ⟨F, 0, none⟩ = some (.int .i64 (m : Int)) := fun o => (XS.out.2.2.2.1.alloc o).cell 0
          have o1 : ∀ o, (wr.alloc o).cell? ⟨O, 1, none⟩ = some u := fun o => (XS.out.2.2.1.alloc o).cell 1
          have hm0 : ¬ (m : Int) < 0 := by omega
          by_cases hle : sizeL [y] ≤ m
          · have IHG : Hid (Calls Try.prog 65 #[.pointer (some ⟨F, 0, none⟩), .agg #[.string l[k].name, .slice a' l[k].args.length c']] (wr.alloc (.cells #[.string l[k].name, .slice a' l[k].args.length c'] 27)).drew fun e w'' => ∃ a1 c1, e = .returned (.agg #[.string y.name, .slice a1 y.args.length c1]) ∧ Blk w'' F #[.int .i64 ((m : Int) - sizeL [y]), sv] 122 ∧ Ex F wr w'' ∧ Sl w'' (fun b => wr.heap.size ≤ b) a1 y.args) := IHQ.out.mono fun e w'' hp => by
              obtain ⟨s1, a1, l1, c1, m1, h1, h2, h3, h4, _⟩ := hp
              obtain ⟨rfl, rfl, rfl, h5⟩ := h4 hle
              exact ⟨a1, c1, h1, h2, (((Ex.refl F wr).alloc _).drew).trans h3, h5.mono fun b hb _ => by simp at hb; omega⟩
            clear IHQ
            go_wp2_with fail
            go_region_law (first
              | (go_simp; go_at_call 65; refine IHG.out.mono ?_; rintro e w1 ⟨a1, c1, rfl, hF1, he1, hs1⟩; have hc3 : ∀ o, (w1.alloc o).cell? ⟨O, 1, none⟩ = some u := fun o => ((Blk.ex XS.out.2.2.1 he1 HOF.out).alloc o).cell 1; have hc4 : w1.cell? ⟨O, 1, none⟩ = some u := (Blk.ex XS.out.2.2.1 he1 HOF.out).cell 1)
              | (refine step_append_lies _ rfl _ _ 25 rfl (O + 1) 27 i0 _ 2 40 Try.underlying25 hi0 hz0 hz1 hz2 rfl (by decide) u (M.take k).length xs rfl (by exact (Row.ex (B := F) XW.out he1 HFO1.out (fun h => h)).own.alloc _) ⟨w1.heap.size, 0, none⟩ 1 1 [.string y.name, .slice a1 y.args.length c1] rfl rfl (cell_two_new _ _ _ _) (fun x hx => by simp at hx; rcases hx with rfl | rfl <;> rfl) (by decide) HL1.out.1 HL1.out.2 (by have := he1.size; have := XS.out.2.2.2.2; simp; omega) _ rfl ?_; intro g cap w3 hown3 hgrow3 hat3 hlt3; have hB3 := hide (((Blk.ex XS.out.2.2.1 he1 HOF.out).alloc _).grown hgrow3 (XW.out.ne (Nat.lt_succ_self _))); have hc5 : w3.cell? ⟨O, 1, none⟩ = some u := hB3.out.cell 1; have hf5 := hB3.out.frozen 1))
            all_goals
              have HK := hide (kn_set (v := .slice (some ⟨g, 0, none⟩) ((M.take k).length + 1) cap) hFl hO XS.out (fun j hj => (XW.out.own.lt j hj).1) he1 hF1 hgrow3)
              have HRW := hide (kn_row (by omega) XS.out.2.2.2.2 XW.out he1 ⟨a1, c1, rfl, hs1⟩ hown3 hgrow3 hat3)
              clear hown3 hgrow3 hat3 hc3 hc4 hc5 hf5 hB3 hF1 he1 hs1 hlt3
              go_wp2_with fail
              go_roundw
              case rel =>
                have hkl : (M.take k).length = k := by simp; omega
                have h1 := HK.out
                have h2 := HRW.out
                have hmm := HMM.out
                simp only [hkl] at h1 h2
                have hmk : min k l.length = k := by omega
                simp only [hmk]
                refine ⟨k + 1, .slice (some ⟨g, 0, none⟩) (k + 1) cap, by omega, by go_num, Or.inl ⟨m - sizeL [y], xs ++ [.string y.name, .slice a1 y.args.length c1], by rw [sizeL_take M k hltM, hMy.out]; omega, ?_, ?_⟩⟩
                · rw [show ((m - sizeL [y] : Nat) : Int) = (m : Int) - sizeL [y] by omega]
                  exact h1
                · rw [List.take_succ_eq_append_getElem hltM, hMy.out]
                  exact h2
              case measure => simp [intOf]; omega
          · have IHG : Hid (Calls Try.prog 65 #[.pointer (some ⟨F, 0, none⟩), .agg #[.string l[k].name, .slice a' l[k].args.length c']] (wr.alloc (.cells #[.string l[k].name, .slice a' l[k].args.length c'] 27)).drew fun e w'' => ∃ s1 a1 l1 c1, e = .returned (.agg #[.string s1, .slice a1 l1 c1]) ∧ Blk w'' F #[.int .i64 (-1), sv] 122 ∧ Ex F wr w'') := IHQ.out.mono fun e w'' hp => by
              obtain ⟨s1, a1, l1, c1, m1, h1, h2, h3, _, h4⟩ := hp
              obtain rfl := h4 (by omega)
              exact ⟨s1, a1, l1, c1, h1, h2, (((Ex.refl F wr).alloc _).drew).trans h3⟩
            clear IHQ
            go_wp2_with fail
            go_region_law (first
              | (go_simp; go_at_call 65; refine IHG.out.mono ?_; rintro e w1 ⟨s1, a1, l1, c1, rfl, hF1, he1⟩; have hc3 : ∀ o, (w1.alloc o).cell? ⟨O, 1, none⟩ = some u := fun o => ((Blk.ex XS.out.2.2.1 he1 HOF.out).alloc o).cell 1; have hc4 : w1.cell? ⟨O, 1, none⟩ = some u := (Blk.ex XS.out.2.2.1 he1 HOF.out).cell 1)
              | (refine step_append_lies _ rfl _ _ 25 rfl (O + 1) 27 i0 _ 2 40 Try.underlying25 hi0 hz0 hz1 hz2 rfl (by decide) u (M.take k).length xs rfl (by exact (Row.ex (B := F) XW.out he1 HFO1.out (fun h => h)).own.alloc _) ⟨w1.heap.size, 0, none⟩ 1 1 [.string s1, .slice a1 l1 c1] rfl rfl (cell_two_new _ _ _ _) (fun x hx => by simp at hx; rcases hx with rfl | rfl <;> rfl) (by decide) HL1.out.1 HL1.out.2 (by have := he1.size; have := XS.out.2.2.2.2; simp; omega) _ rfl ?_; intro g cap w3 hown3 hgrow3 hat3 hlt3; have hB3 := hide (((Blk.ex XS.out.2.2.1 he1 HOF.out).alloc _).grown hgrow3 (XW.out.ne (Nat.lt_succ_self _))); have hc5 : w3.cell? ⟨O, 1, none⟩ = some u := hB3.out.cell 1; have hf5 := hB3.out.frozen 1))
            all_goals
              have HK := hide (kn_set (v := .slice (some ⟨g, 0, none⟩) ((M.take k).length + 1) cap) hFl hO XS.out (fun j hj => (XW.out.own.lt j hj).1) he1 hF1 hgrow3)
              clear hown3 hgrow3 hat3 hc3 hc4 hc5 hf5 hB3 hF1 he1 hlt3
              go_wp2_with fail
              go_roundw
              case rel =>
                have hkl : (M.take k).length = k := by simp; omega
                have h0 := HK.out
                have hmm := HMM.out
                simp only [hkl] at h0
                have hmk : min k l.length = k := by omega
                simp only [hmk]
                refine ⟨k + 1, .slice (some ⟨g, 0, none⟩) (k + 1) cap, by omega, by go_num, Or.inr ⟨?_, h0, _, _, _, rfl⟩⟩
                have h1 := sizeL_take M k hltM
                rw [hMy.out] at h1
                have h2 := sizeL_take_le M (k + 1)
                omega
              case measure => simp [intOf]; omega
        · have htk : M.take k = M := List.take_of_length_le (by omega)
          rw [htk] at XW HMM
          obtain ⟨a9, c9, hu9, hsl9⟩ := XW.out.sl
          subst hu9
          have S9 := hide hsl9
          clear hsl9
          have r0 : wr.cell? ⟨w.heap.size + 1, 0, none⟩ = some (.string ⟨#[]⟩) := XS.out.2.1.cell 0
          have r1 : wr.cell? ⟨w.heap.size + 1, 1, none⟩ = some (.slice none 0 0) := XS.out.2.1.cell 1
          have rf := XS.out.2.1.frozen
          have o0 : wr.cell? ⟨O, 0, none⟩ = some (.string s) := XS.out.2.2.1.cell 0
          have o1 : wr.cell? ⟨O, 1, none⟩ = some (.slice a9 M.length c9) := XS.out.2.2.1.cell 1
          go_wp2_with fail
          refine bodyPost_ret (v := .agg #[.string s, .slice a9 M.length c9]) (by simp [results, Try.results87, go_sem, World.cell?_setCell_same, World.cell?_setCell_other, r0, r1, hML]) rfl ?_
          have hmm := HMM.out
          refine ⟨s, a9, M.length, c9, m, rfl, (XS.out.2.2.2.1.setOther _ _ (by omega)).setOther _ _ (by omega), (XS.out.1.setNew (by omega) _ _).setNew (by omega) _ _, fun h => ⟨by rw [hz]; omega, rfl, rfl, (S9.out.kept fun b hb => ?_).mono fun b hb _ => ?_⟩, fun h => by omega⟩
          · have hb' : O + 1 ≤ b := hb.elim False.elim id
            rw [Below.heap_setCell _ _ _ _ (by simp; omega), Below.heap_setCell _ _ _ _ (by simp; omega)]
          · have hb' : O + 1 ≤ b := hb.elim False.elim id
            omega
      · have XS := hide hset
        clear hset
        have f0 : ∀ o, (wr.alloc o).cell? ⟨F, 0, none⟩ = some (.int .i64 (-1)) := fun o => (XS.out.2.2.2.1.alloc o).cell 0
        by_cases hlt : k < l.length
        · obtain ⟨b, o, a', c', rfl, d0, d1, hx⟩ := (HS.out.ex XS.out.1 HXF.out).get (Below.refl _ _) (fun _ _ h => h) k hlt
          clear hx
          have o0 : ∀ o, (wr.alloc o).cell? ⟨O, 0, none⟩ = some (.string s) := fun o => (XS.out.2.2.1.alloc o).cell 0
          have o1 : ∀ o, (wr.alloc o).cell? ⟨O, 1, none⟩ = some (.slice a9 l9 c9) := fun o => (XS.out.2.2.1.alloc o).cell 1
          have r0 : wr.cell? ⟨w.heap.size + 1, 0, none⟩ = some (.string ⟨#[]⟩) := XS.out.2.1.cell 0
          have r1 : wr.cell? ⟨w.heap.size + 1, 1, none⟩ = some (.slice none 0 0) := XS.out.2.1.cell 1
          have rf := XS.out.2.1.frozen
          have hRl : w.heap.size + 1 < wr.heap.size := XS.out.2.1.lt
          go_wp2_with fail
          refine bodyPost_ret (v := .agg #[.string s, .slice a9 l9 c9]) (by simp [results, Try.results87, go_sem, World.cell?_setCell_same, World.cell?_setCell_other, r0, r1, hRl, World.cell?_alloc_old]) rfl ?_
          exact ⟨s, a9, l9, c9, -1, rfl, ((XS.out.2.2.2.1.setOther _ _ (by omega)).setOther _ _ (by omega)).alloc _, ((XS.out.1.setNew (by omega) _ _).setNew (by omega) _ _).alloc _, fun h => by omega, fun _ => rfl⟩
        · have r0 : wr.cell? ⟨w.heap.size + 1, 0, none⟩ = some (.string ⟨#[]⟩) := XS.out.2.1.cell 0
          have r1 : wr.cell? ⟨w.heap.size + 1, 1, none⟩ = some (.slice none 0 0) := XS.out.2.1.cell 1
          have rf := XS.out.2.1.frozen
          have o0 : wr.cell? ⟨O, 0, none⟩ = some (.string s) := XS.out.2.2.1.cell 0
          have o1 : wr.cell? ⟨O, 1, none⟩ = some (.slice a9 l9 c9) := XS.out.2.2.1.cell 1
          go_wp2_with fail
          refine bodyPost_ret (v := .agg #[.string s, .slice a9 l9 c9]) (by simp [results, Try.results87, go_sem, World.cell?_setCell_same, World.cell?_setCell_other, r0, r1]) rfl ?_
          exact ⟨s, a9, l9, c9, -1, rfl, (XS.out.2.2.2.1.setOther _ _ (by omega)).setOther _ _ (by omega), (XS.out.1.setNew (by omega) _ _).setNew (by omega) _ _, fun h => by omega, fun _ => rfl⟩

theorem ffillR_any (F : Nat) (r rl rc : Nat) (rn : ByteArray) (ra : Option Addr) (ls : List Bd) (L : List (ByteArray × Value)) (t : Tm) (n : Nat) (a : Option Addr) (c : Nat) (w : World) (X : Nat → Prop) (hn : n ≤ 1000000) (hXF : ∀ b, X b → b ≠ F) (hrF : r ≠ F) (hs : Sl w X a t.args) (hF : Blk w F #[.int .i64 (n : Int), .func (.func 47) #[.agg #[.string rn, .slice ra rl rc, .map (some r)]] #[]] 122) (hE : EnvR w r X ls L) :
    Calls Try.prog 65 #[.pointer (some ⟨F, 0, none⟩), .agg #[.string t.name, .slice a t.args.length c]] w fun e w' => CpPost w F (.func (.func 47) #[.agg #[.string rn, .slice ra rl rc, .map (some r)]] #[]) (fT ls t) n e w' :=
  ffillR_of F r rl rc rn ra ls L t n a c w X hn hXF hrF hs hF hE (fun w' h1 h2 h3 => knotR_any F r rl rc rn ra ls L hrF t n _ w' X ⟨a, c, rfl, h1⟩ hXF hn h2 h3)

set_option maxHeartbeats 1000000 in
theorem fillR_any (r rl rc : Nat) (rn : ByteArray) (ra : Option Addr) (ls : List Bd) (L : List (ByteArray × Value)) (t : Tm) (n : Nat) (a : Option Addr) (c : Nat) (w : World) (X : Nat → Prop) (hn : n ≤ 1000000) (hs : Sl w X a t.args) (hE : EnvR w r X ls L) :
    Calls Try.prog 46 #[.agg #[.string t.name, .slice a t.args.length c], .int .i64 (n : Int), .func (.func 47) #[.agg #[.string rn, .slice ra rl rc, .map (some r)]] #[]] w fun e w' => Below w.heap.size w w' ∧
      ((sizeL [fT ls t] ≤ n ∧ ∃ a' c', e = .returned (.tuple #[.agg #[.string (fT ls t).name, .slice a' (fT ls t).args.length c'], .bool true]) ∧ Sl w' (fun b => w.heap.size ≤ b) a' (fT ls t).args) ∨ (n < sizeL [fT ls t] ∧ e = .returned (.tuple #[.agg #[.string ⟨#[]⟩, .slice none 0 0], .bool false]))) := by
  have hmf : ∀ (fn : Fn) (first cap : Array Value) (w : World), (Instr.makeFunc fn first cap).run Try.prog w = .ok (.func fn first cap) w := fun _ _ _ _ => rfl
  have HS := hide (hs.mono (Y := fun b => X b ∧ b < w.heap.size) fun b h1 h2 => ⟨h1, h2⟩)
  have HE : Hid (EnvR w r (fun b => X b ∧ b < w.heap.size) ls L) := ⟨hE.1, hE.2.imp fun a l hs => hs.mono fun b h1 h2 => ⟨h1, h2⟩⟩
  have hrl : r < w.heap.size := hE.1.lt
  clear hs hE
  go_enter Try.func46, Try.ntmps46
  go_wp2_with fail
  have HB3 : Hid (Below w.heap.size w (((w.alloc (.cells #[.string t.name, .slice a t.args.length c] 27)).alloc (.cells #[.string ⟨#[]⟩, .slice none 0 0] 27)).alloc (.cells #[.int .i64 (n : Int), .func (.func 47) #[.agg #[.string rn, .slice ra rl rc, .map (some r)]] #[]] 122))) := ((((Below.refl w.heap.size w).alloc (Nat.le_refl _) _).alloc (by simp) _).alloc (by simp; omega) _)
  have F3 : Hid (Blk (((w.alloc (.cells #[.string t.name, .slice a t.args.length c] 27)).alloc (.cells #[.string ⟨#[]⟩, .slice none 0 0] 27)).alloc (.cells #[.int .i64 (n : Int), .func (.func 47) #[.agg #[.string rn, .slice ra rl rc, .map (some r)]] #[]] 122)) (w.heap.size + 1 + 1) #[.int .i64 (n : Int), .func (.func 47) #[.agg #[.string rn, .slice ra rl rc, .map (some r)]] #[]] 122) := by
    have h := Blk.new ((w.alloc (.cells #[.string t.name, .slice a t.args.length c] 27)).alloc (.cells #[.string ⟨#[]⟩, .slice none 0 0] 27)) #[.int .i64 (n : Int), .func (.func 47) #[.agg #[.string rn, .slice ra rl rc, .map (some r)]] #[]] 122
    unfold Hid
    simpa using h
  have R3 : Hid (Blk (((w.alloc (.cells #[.string t.name, .slice a t.args.length c] 27)).alloc (.cells #[.string ⟨#[]⟩, .slice none 0 0] 27)).alloc (.cells #[.int .i64 (n : Int), .func (.func 47) #[.agg #[.string rn, .slice ra rl rc, .map (some r)]] #[]] 122)) (w.heap.size + 1) #[.string ⟨#[]⟩, .slice none 0 0] 27) := by
    have h := (Blk.new (w.alloc (.cells #[.string t.name, .slice a t.args.length c] 27)) #[.string ⟨#[]⟩, .slice none 0 0] 27).alloc (.cells #[.int .i64 (n : Int), .func (.func 47) #[.agg #[.string rn, .slice ra rl rc, .map (some r)]] #[]] 122)
    unfold Hid
    simpa using h
  have z3 : (((w.alloc (.cells #[.string t.name, .slice a t.args.length c] 27)).alloc (.cells #[.string ⟨#[]⟩, .slice none 0 0] 27)).alloc (.cells #[.int .i64 (n : Int), .func (.func 47) #[.agg #[.string rn, .slice ra rl rc, .map (some r)]] #[]] 122)).heap.size = w.heap.size + 3 := by simp
  generalize (((w.alloc (.cells #[.string t.name, .slice a t.args.length c] 27)).alloc (.cells #[.string ⟨#[]⟩, .slice none 0 0] 27)).alloc (.cells #[.int .i64 (n : Int), .func (.func 47) #[.agg #[.string rn, .slice ra rl rc, .map (some r)]] #[]] 122)) = w3 at *
  refine (ffillR_any (w.heap.size + 1 + 1) r rl rc rn ra ls L t n a c w3 (fun b => X b ∧ b < w.heap.size) hn (fun b hb => by have := hb.2; omega) (by omega) (HS.out.later HB3.out) F3.out (HE.out.later HB3.out)).mono ?_
  rintro e w9 ⟨s', a', l', c', m, rfl, hF9, hx9, hy, hno⟩
  have HF9 := hide hF9
  have HX9 := hide hx9
  have R9 := hide (R3.out.ex hx9 (by omega))
  have hz9 := hx9.size
  clear hF9 hx9
  have r0 : w9.cell? ⟨w.heap.size + 1, 0, none⟩ = some (.string ⟨#[]⟩) := R9.out.cell 0
  have r1 : w9.cell? ⟨w.heap.size + 1, 1, none⟩ = some (.slice none 0 0) := R9.out.cell 1
  have rf := R9.out.frozen
  have hRl : w.heap.size + 1 < w9.heap.size := R9.out.lt
  have HBW : Hid (Below w.heap.size w w9) := ⟨HX9.out.os.trans HB3.out.os, HX9.out.tape.trans HB3.out.tape, HX9.out.output.trans HB3.out.output, by omega, fun k hk => (HX9.out.block k (by omega) (by omega)).trans (HB3.out.block k hk)⟩
  by_cases hle : sizeL [fT ls t] ≤ n
  · obtain ⟨rfl, rfl, rfl, hsl⟩ := hy hle
    have HSL := hide hsl
    clear hy hno hsl
    have f0 : ∀ o, (w9.alloc o).cell? ⟨w.heap.size + 1 + 1, 0, none⟩ = some (.int .i64 ((n : Int) - sizeL [fT ls t])) := fun o => (HF9.out.alloc o).cell 0
    have hlt : ¬ ((n : Int) - sizeL [fT ls t]) < 0 := by omega
    go_wp2_with fail
    refine bodyPost_ret (v := .tuple #[.agg #[.string (fT ls t).name, .slice a' (fT ls t).args.length c'], .bool true]) (by simp [results, Try.results46, go_sem, World.cell?_setCell_same, World.cell?_setCell_other, r0, r1, hRl, World.cell?_alloc_old]) rfl ?_
    refine ⟨((HBW.out.setCell (by simp) _).setCell (by simp) _).alloc (by simp [World.setCell]; omega) _, Or.inl ⟨hle, a', c', rfl, ((HSL.out.kept fun b hb => ?_).later ((Below.refl _ _).alloc (Nat.le_refl _) _)).mono fun b hb _ => by omega⟩⟩
    rw [Below.heap_setCell _ _ _ _ (by simp; omega), Below.heap_setCell _ _ _ _ (by simp; omega)]
  · obtain rfl := hno (by omega)
    clear hy hno
    have f0 : ∀ o, (w9.alloc o).cell? ⟨w.heap.size + 1 + 1, 0, none⟩ = some (.int .i64 (-1)) := fun o => (HF9.out.alloc o).cell 0
    go_wp2_with fail
    refine bodyPost_ret (v := .tuple #[.agg #[.string ⟨#[]⟩, .slice none 0 0], .bool false]) (by simp [results, Try.results46, go_sem, World.cell?_setCell_same, World.cell?_setCell_other, r0, r1, hRl, World.cell?_alloc_old]) rfl ?_
    exact ⟨((HBW.out.setCell (by simp) _).setCell (by simp) _).alloc (by simp [World.setCell]; omega) _, Or.inr ⟨by omega, rfl⟩⟩
#print axioms fillR_any
end Go.Proofs.Ytccbocefgoccdaa

/- The library's Clone at rows of terms. -/
namespace Go.Proofs.Ytccbocefgoccdaa
open Go.RowKit Go.Shelf
set_option linter.unusedSimpArgs false
set_option linter.unusedVariables false
set_option maxRecDepth 8000

def cl_ren : Go.Shelf.Ren := ⟨fun | 41 => 66 | n => n, fun | 22 => 25 | 23 => 27 | 4 => 4 | n => n, fun | n => n⟩
theorem cl_lays : Go.Proofs.SlLaysE0.n41 Try.prog cl_ren := {
  mixed := by kernel_rfl
  f41 := ⟨Try.f66.name, by decide, Try.func66.trans (congrArg some (by kernel_rfl))⟩
  t4 := Try.underlying4
  a4 := Try.isAgg4
  z4 := Try.sizeOf4
  v4 := Try.zeroValue4
  t22 := Try.underlying25
  a22 := Try.isAgg25
  z22 := Try.sizeOf25
  v22 := Try.zeroValue25 }
/-- A row of terms cloned: its cells lie in memory of the call's own. -/
theorem cloneT_any (b off n c : Nat) (news : List Value) (w : World) (hl : news.length = n * 2) (hn : n ≤ 1000000) (hc : ∀ j u, news[j]? = some u → w.cell? ⟨b, off + j, none⟩ = some u) (h1 : ∀ u ∈ news, u.oneCell' = true) :
    Calls Try.prog 66 #[.slice (some ⟨b, off, none⟩) n c] w fun e w' => ∃ v', e = .returned v' ∧ w'.ownsRow w.heap.size 27 2 v' n news ∧ v' ≠ .slice none 0 0 ∧ Below w.heap.size w w' := by
  obtain ⟨i0, hi, hz0, hz1, hz2⟩ := info_parts Try.infoTerm
  exact AnyE.slices_Clone cl_lays i0 _ 2 40 hi hz0 hz1 hz2 rfl (by decide) Try.sizeOf27 b off n c news w hl (by unfold maxLen; omega) (by omega) hc h1
#print axioms cloneT_any
end Go.Proofs.Ytccbocefgoccdaa

/- Walks: a term with another one at a place that it has. -/
namespace Go.Proofs.Ytccbocefgoccdaa
open Go.RowKit
set_option linter.unusedSimpArgs false
set_option linter.unusedVariables false
set_option maxRecDepth 8000

theorem RowT.put {w : World} {X : Nat → Prop} {y : Tm} {a : Option Addr} {c : Nat} (hy : Sl w X a y.args) : ∀ {l : List Tm} {xs : List Value} (k : Nat), RowT w X l xs → k < l.length → RowT w X (l.set k y) ((xs.set (k * 2) (.string y.name)).set (k * 2 + 1) (.slice a y.args.length c))
  | [], xs, k, h, hk => by simp at hk
  | t :: l, xs, 0, h, _ => by
    obtain ⟨a', c', r, rfl, h1, h2⟩ := h
    exact ⟨a, c, r, by simp, hy, h2⟩
  | t :: l, xs, k + 1, h, hk => by
    obtain ⟨a', c', r, rfl, h1, h2⟩ := h
    refine ⟨a', c', (r.set (k * 2) (.string y.name)).set (k * 2 + 1) (.slice a y.args.length c), ?_, h1, RowT.put hy k h2 (by simpa using hk)⟩
    have e : (k + 1) * 2 = k * 2 + 1 + 1 := by omega
    rw [e]
    simp
theorem putL_set (f : Tm → Tm) : ∀ (l : List Tm) (j k : Nat) (h : k < l.length), putL f ((j + k : Nat) : Int) j l = l.set k (f l[k])
  | [], j, k, h => by simp at h
  | a :: r, j, 0, h => by
    simp only [Nat.add_zero, putL, if_true, List.set_cons_zero, List.getElem_cons_zero]
    have : ∀ (r : List Tm) (m : Nat), j < m → putL f (j : Int) m r = r := fun r => by
      induction r with
      | nil => intro m _; rfl
      | cons b r ih => intro m hm; rw [putL, if_neg (by omega), ih (m + 1) (by omega)]
    rw [this r (j + 1) (by omega)]
  | a :: r, j, k + 1, h => by
    rw [putL, if_neg (by omega)]
    have := putL_set f r (j + 1) k (by simpa using h)
    rw [show j + (k + 1) = j + 1 + k by omega, this]
    simp

theorem owns_mono {w : World} {N M e z n : Nat} {v : Value} {xs : List Value} (h : w.ownsRow N e z v n xs) (hM : M ≤ N) : w.ownsRow M e z v n xs :=
  ⟨h.1, h.2.imp id fun ⟨g, cap, cur, h1, h2, h3⟩ => ⟨g, cap, cur, h1, Nat.le_trans hM h2, h3⟩⟩
theorem ownsRow_put2 {w : World} {N e z n G cap O i j : Nat} {u u' : Value} {xs : List Value} (h : w.ownsRow N e z (.slice (some ⟨G, 0, none⟩) n cap) n xs) (hO : O ≠ G) : ((w.setCell ⟨O, i, none⟩ u).setCell ⟨O, j, none⟩ u').ownsRow N e z (.slice (some ⟨G, 0, none⟩) n cap) n xs := by
  obtain ⟨hl, h1⟩ := h
  refine ⟨hl, ?_⟩
  rcases h1 with h1 | ⟨g, cap', cur, hv, hg, hh, hr⟩
  · exact Or.inl h1
  · refine Or.inr ⟨g, cap', cur, hv, hg, ?_, hr⟩
    have e : g = G := by simp at hv; exact hv.1.symm
    rw [Below.heap_setCell _ _ _ _ (by simp; omega), Below.heap_setCell _ _ _ _ (by simp; omega)]
    exact hh
/-- What has been laid. -/
def KpM (W : World) (N : Nat) (s : ByteArray) (n : Nat) (xs : List Value) (o7 : Value) (wc : World) : Prop :=
  ∃ G O cap : Nat, o7 = .pointer (some ⟨O, 0, none⟩) ∧ N ≤ G ∧ N ≤ O ∧ G ≠ O ∧ Blk wc O #[.string s, .slice (some ⟨G, 0, none⟩) n cap] 27 ∧ wc.ownsRow N 27 2 (.slice (some ⟨G, 0, none⟩) n cap) n xs ∧ Below N W wc
theorem kpM_last {W w1 : World} {N n G cap : Nat} {s : ByteArray} {xs : List Value} (hN : W.heap.size = N) (hown : w1.ownsRow N 27 2 (.slice (some ⟨G, 0, none⟩) n cap) n xs) (hb : Below N W w1) :
    KpM W N s n xs (.pointer (some ⟨w1.heap.size, 0, none⟩)) (w1.alloc (.cells #[.string s, .slice (some ⟨G, 0, none⟩) n cap] 27)) := by
  have hl := hown.lt G rfl
  have hs := hb.size
  exact ⟨G, w1.heap.size, cap, rfl, hl.1, by omega, by omega, Blk.new _ _ _, hown.alloc _, hb.alloc (by omega) _⟩
theorem kpM_first {W w1 : World} {N n G cap O : Nat} {s : ByteArray} {xs : List Value} (hO : N ≤ O) (hB : Blk w1 O #[.string ⟨#[]⟩, .slice none 0 0] 27) (hGO : O < G) (hown : w1.ownsRow N 27 2 (.slice (some ⟨G, 0, none⟩) n cap) n xs) (hb : Below N W w1) :
    KpM W N s n xs (.pointer (some ⟨O, 0, none⟩)) ((w1.setCell ⟨O, 0, none⟩ (.string s)).setCell ⟨O, 1, none⟩ (.slice (some ⟨G, 0, none⟩) n cap)) := by
  have hl := hown.lt G rfl
  refine ⟨G, O, cap, rfl, hl.1, hO, by omega, ?_, ownsRow_put2 hown (by omega), (hb.setCell (by simpa using hO) _).setCell (by simpa using hO) _⟩
  have := (hB.set 0 (.string s)).set 1 (.slice (some ⟨G, 0, none⟩) n cap)
  simpa using this
theorem kput_fin {w w5 : World} {X : Nat → Prop} {l : List Tm} {k G R M T n9 c9 : Nat} {xs : List Value} {cur : Array Value} {s9 : ByteArray} {a9 : Option Addr} {y : Tm} (hX : ∀ b, X b → b < w.heap.size) (hk : k < l.length) (hl : l.length ≤ 9223372036854775807) (hrt : RowT w X l xs) (hcx : cur.toList.take (l.length * 2) = xs) (hG : w.heap.size ≤ G) (hGM : G < M) (hR : w.heap.size ≤ R) (hRG : R ≠ G) (hRM : R < M) (GB : Blk w5 G cur T) (hb : Below w.heap.size w w5)
    (ht : TV w5 (fun b => (X b ∧ b < M) ∨ M ≤ b) (.agg #[.string s9, .slice a9 n9 c9]) y) : ∀ wF : World, (∀ b, b ≠ R → wF.heap[b]? = ((w5.setCell ⟨G, k * 2, none⟩ (.string s9)).setCell ⟨G, k * 2 + 1, none⟩ (.slice a9 n9 c9)).heap[b]?) → Sl wF (fun b => X b ∨ w.heap.size ≤ b) (some ⟨G, 0, none⟩) (l.set k y) := by
  intro wF hF
  obtain ⟨a', c', e, hs9⟩ := ht
  simp at e
  obtain ⟨rfl, rfl, rfl, rfl⟩ := e
  have keep : ∀ b, b ≠ G → b ≠ R → wF.heap[b]? = w5.heap[b]? := fun b h1 h2 => by
    rw [hF b h2, Below.heap_setCell _ _ _ _ (by simpa using h1), Below.heap_setCell _ _ _ _ (by simpa using h1)]
  have h1 : RowT wF (fun b => X b ∨ w.heap.size ≤ b) l xs := hrt.imp fun a kk hs => (hs.kept fun b hb2 => by
    have := hX b hb2
    rw [keep b (by omega) (by omega), hb.block b this]).mono fun b hb2 _ => Or.inl hb2
  have h2 : Sl wF (fun b => X b ∨ w.heap.size ≤ b) a9 y.args := (hs9.kept fun b hb2 => by
    rcases hb2 with hb2 | hb2
    · have := hX b hb2.1
      exact keep b (by omega) (by omega)
    · exact keep b (by omega) (by omega)).mono fun b hb2 _ => by
    rcases hb2 with hb2 | hb2
    · exact Or.inl hb2.1
    · exact Or.inr (by omega)
  have h3 := RowT.put (c := c9) h2 k h1 hk
  have hBF : Blk wF G ((cur.setIfInBounds (k * 2) (.string y.name)).setIfInBounds (k * 2 + 1) (.slice a9 y.args.length c9)) T := by
    have h4 := (GB.set (k * 2) (.string y.name)).set (k * 2 + 1) (.slice a9 y.args.length c9)
    unfold Blk at *
    rw [hF G (fun e => hRG e.symm)]
    exact h4
  refine ⟨by simpa using hl, Or.inr ⟨G, 0, rfl, lies_of_rowT G (Or.inr hG) _ _ 0 h3 (fun _ _ h => h) fun j u hj => ?_⟩⟩
  rw [Nat.zero_add]
  refine (hBF.cell j).trans ?_
  rw [← hcx, ← List.take_set, ← List.take_set, List.getElem?_take] at hj
  split at hj
  · rw [← Array.getElem?_toList]
    simpa using hj
  · cases hj
set_option maxHeartbeats 4000000 in
theorem kputY_any (x : Tm) (zs : List Int) : ∀ (t : Tm) (v p u : Value) (w : World) (X Y : Nat → Prop), TV w X v t → PV w Y p zs → TV w X u x → (atT t zs).isSome = true → sizeL [t] ≤ 1000000 →
    Calls Try.prog 48 #[v, p, u] w fun e w' => ∃ v', e = .returned v' ∧ TV w' (fun b => (X b ∧ b < w.heap.size) ∨ w.heap.size ≤ b) v' (putT x zs t) ∧ Below w.heap.size w w' := by
  induction zs with
  | nil =>
    intro t v p u w X Y hv hp hu hat hsm
    obtain ⟨a, c, rfl, hs⟩ := hv
    obtain ⟨ax, cx, rfl, hsx⟩ := hu
    obtain ⟨pa, pc, rfl, hzl, hz⟩ := hp
    have HU := hide hsx
    go_enter Try.func48, Try.ntmps48
    go_wp2_with fail
    refine bodyPost_ret (v := .agg #[.string x.name, .slice ax x.args.length cx]) (by simp [results, Try.results48, go_sem]) rfl ⟨_, rfl, ?_, ?_⟩
    · exact ⟨ax, cx, by simp [putT], (HU.out.mono (Y := fun b => (X b ∧ b < w.heap.size) ∨ w.heap.size ≤ b) fun b h1 h2 => Or.inl ⟨h1, h2⟩).later (below3 _ _ _)⟩
    · exact below3 _ _ _
  | cons z zs ih =>
    intro t v p u w X0 Y0 hv0 hp0 hu0 hat hsm
    have IH := hide ih
    clear ih
    obtain ⟨X, Y, hX, hYY, hXX, hv, hp, hu⟩ : ∃ X Y : Nat → Prop, (∀ b, X b → b < w.heap.size) ∧ (∀ b, Y b → b < w.heap.size) ∧ (∀ b, X b → X0 b) ∧ TV w X v t ∧ PV w Y p (z :: zs) ∧ TV w X u x := ⟨fun b => X0 b ∧ b < w.heap.size, fun b => Y0 b ∧ b < w.heap.size, fun _ h => h.2, fun _ h => h.2, fun _ h => h.1, hv0.mono fun b h1 h2 => ⟨h1, h2⟩, hp0.mono fun b h1 h2 => ⟨h1, h2⟩, hu0.mono fun b h1 h2 => ⟨h1, h2⟩⟩
    clear hv0 hp0 hu0
    obtain ⟨a, c, rfl, hs⟩ := hv
    obtain ⟨ax, cx, rfl, hsx⟩ := hu
    have HU := hide (show TV w X (.agg #[.string x.name, .slice ax x.args.length cx]) x from ⟨ax, cx, rfl, hsx⟩)
    clear hsx
    obtain ⟨pa, pc, rfl, hzl, hz⟩ := hp
    obtain ⟨b, o, rfl, hxb, hcell⟩ := hz.resolve_left (fun h => by cases h)
    have h0 := hcell 0 (by simp)
    simp only [Nat.add_zero, List.getElem_cons_zero] at h0
    have hzl' : zs.length + 1 ≤ 9223372036854775807 ∧ zs.length + 1 ≤ pc := by simpa using hzl
    obtain ⟨hzl1, hzl2⟩ := hzl'
    obtain ⟨s, l⟩ := t
    have hz1 : sizeL [(⟨s, l⟩ : Tm)] = 1 + sizeL l := by simp [sizeL]
    rw [hz1] at hsm
    clear hz1
    have hlen := sizeL_len l
    rw [atT] at hat
    split at hat
    case isFalse => cases hat
    case isTrue hzk =>
    obtain ⟨k, rfl⟩ : ∃ k : Nat, z = (k : Int) := ⟨z.toNat, by omega⟩
    have hk : k < l.length := by simpa using hzk.2
    have HAT : Hid ((atT l[k] zs).isSome = true) := hide (by simpa using hat)
    obtain ⟨sa, HSA, HT⟩ : ∃ sa : Option Addr, Hid ((if pc = 1 then some (⟨b, o, none⟩ : Addr) else some ⟨b, o + 1, none⟩) = sa) ∧ Hid (PV w Y (.slice sa zs.length (pc - 1)) zs) := by
      by_cases h1 : pc = 1
      · refine ⟨_, rfl, ?_⟩
        have : zs = [] := List.length_eq_zero_iff.1 (by omega)
        subst this
        exact ⟨_, _, rfl, by simp, Or.inl rfl⟩
      · refine ⟨_, rfl, ?_⟩
        rw [if_neg h1]
        exact PV.tail ⟨hzl1, hzl2⟩ hxb hcell
    simp only [List.length_cons] at *
    clear hcell hzl hz hat hzk
    go_enter Try.func48, Try.ntmps48
    go_upto_region 3 with fail
    have hB3 : Below w.heap.size w (((w.alloc (.cells #[.string s, .slice a l.length c] 27)).alloc (.cells #[.string x.name, .slice ax x.args.length cx] 27)).alloc (.cells #[.string ⟨#[]⟩, .slice none 0 0] 27)) := below3 _ _ _
    have hz3 : (((w.alloc (.cells #[.string s, .slice a l.length c] 27)).alloc (.cells #[.string x.name, .slice ax x.args.length cx] 27)).alloc (.cells #[.string ⟨#[]⟩, .slice none 0 0] 27)).heap.size = w.heap.size + 3 := by simp
    obtain ⟨ba, oa, rfl, hlies⟩ := hs.2.resolve_left (fun e => by rw [e] at hk; simp at hk)
    obtain ⟨xs, hrt, hxc⟩ := rowT_of_lies l ba oa hlies
    have HRT := hide hrt
    have hbal : ba < w.heap.size := hX _ (lies_get _ _ _ hlies 0 (by omega)).1
    have CL : Hid (∀ w', Below w.heap.size w w' → Calls Try.prog 66 #[.slice (some ⟨ba, oa, none⟩) l.length c] w' fun e w'' => ∃ G cap, e = .returned (.slice (some ⟨G, 0, none⟩) l.length cap) ∧ w''.ownsRow w'.heap.size 27 2 (.slice (some ⟨G, 0, none⟩) l.length cap) l.length xs ∧ Below w'.heap.size w' w'') := fun w' hb => by
      refine (cloneT_any ba oa l.length c xs w' hrt.len (by omega) (fun j u hj => (hb.cell (p := ⟨ba, oa + j, none⟩) hbal).trans (hxc j u hj)) hrt.one).mono ?_
      rintro e w'' ⟨v', rfl, ho, hne, hb2⟩
      rcases ho.2 with ⟨h1, _⟩ | ⟨g, cap, cur, hv, _⟩
      · exact absurd h1 hne
      · subst hv
        exact ⟨g, cap, rfl, ho, hb2⟩
    go_cut [7] (fun o7 wc => KpM (((w.alloc (.cells #[.string s, .slice (some ⟨ba, oa, none⟩) l.length c] 27)).alloc (.cells #[.string x.name, .slice ax x.args.length cx] 27)).alloc (.cells #[.string ⟨#[]⟩, .slice none 0 0] 27)) (w.heap.size + 3) s l.length xs o7 wc)
    case first =>
      have T3 : Blk (((w.alloc (.cells #[.string s, .slice (some ⟨ba, oa, none⟩) l.length c] 27)).alloc (.cells #[.string x.name, .slice ax x.args.length cx] 27)).alloc (.cells #[.string ⟨#[]⟩, .slice none 0 0] 27)) w.heap.size #[.string s, .slice (some ⟨ba, oa, none⟩) l.length c] 27 := ((Blk.new w _ _).alloc _).alloc _
      have HB3 := hide hB3
      generalize (((w.alloc (.cells #[.string s, .slice (some ⟨ba, oa, none⟩) l.length c] 27)).alloc (.cells #[.string x.name, .slice ax x.args.length cx] 27)).alloc (.cells #[.string ⟨#[]⟩, .slice none 0 0] 27)) = W at *
      have t0 : W.cell? ⟨w.heap.size, 0, none⟩ = some (.string s) := T3.cell 0
      have t1 : W.cell? ⟨w.heap.size, 1, none⟩ = some (.slice (some ⟨ba, oa, none⟩) l.length c) := T3.cell 1
      have HS0 := hide (And.intro t0 t1)
      have KP : Hid (∀ w', Below (w.heap.size + 3) W w' → w'.cell? ⟨w.heap.size, 0, none⟩ = some (.string s) ∧ w'.cell? ⟨w.heap.size, 1, none⟩ = some (.slice (some ⟨ba, oa, none⟩) l.length c)) := fun w' hb => ⟨(hb.cell (p := ⟨w.heap.size, 0, none⟩) (by simp)).trans t0, (hb.cell (p := ⟨w.heap.size, 1, none⟩) (by simp)).trans t1⟩
      have HD : Hid (Below (w.heap.size + 3) W W.drew) := (Below.refl _ _).drew
      have HA : Hid (∀ o, Below (w.heap.size + 3) W (W.drew.alloc o)) := fun o => ((Below.refl _ _).drew).alloc (by simp; omega) o
      have CL2 : Hid (∀ w', Below (w.heap.size + 3) W w' → Calls Try.prog 66 #[.slice (some ⟨ba, oa, none⟩) l.length c] w' fun e w'' => ∃ G cap, e = .returned (.slice (some ⟨G, 0, none⟩) l.length cap) ∧ w''.ownsRow w'.heap.size 27 2 (.slice (some ⟨G, 0, none⟩) l.length cap) l.length xs ∧ Below w'.heap.size w' w'' ∧ Below (w.heap.size + 3) W w'') := fun w' hb => (CL.out w' (HB3.out.trans (hb.mono (by omega)))).mono fun e w'' ⟨G, cap, h1, h2, h3⟩ => ⟨G, cap, h1, h2, h3, hb.trans (h3.mono (by have := hb.size; omega))⟩
      have HZ3 := hide hz3
      have nW : w.heap.size ≠ W.heap.size := by omega
      clear hz3
      go_region_held3 (fun w' => w'.cell? ⟨w.heap.size, 0, none⟩ = some (.string s) ∧ w'.cell? ⟨w.heap.size, 1, none⟩ = some (.slice (some ⟨ba, oa, none⟩) l.length c)) (first | exact hS | exact HS0.out | exact KP.out _ (HA.out _) | exact ⟨set2_keep hS.1 nW, set2_keep hS.2 nW⟩ | go_keep)
        (first
          | (go_at_call 66;
              first
                | (refine (CL2.out _ (by first | exact Below.refl _ _ | exact HD.out)).mono ?_; rintro e w5 ⟨G, cap, rfl, ho5, hb5, hB5⟩; have hS := KP.out _ hB5)
                | (refine (CL2.out _ (by exact HA.out (.cells #[.string ⟨#[]⟩, .slice none 0 0] 27))).mono ?_; rintro e w5 ⟨G, cap, rfl, ho5, hb5, hB5⟩; have hS := KP.out _ hB5; have QB : Blk w5 W.heap.size #[.string ⟨#[]⟩, .slice none 0 0] 27 := (Blk.new W.drew _ _).below hb5 (by simp); have q0 : w5.cell? ⟨W.heap.size, 0, none⟩ = some (.string ⟨#[]⟩) := QB.cell 0; have q1 : w5.cell? ⟨W.heap.size, 1, none⟩ = some (.slice none 0 0) := QB.cell 1; have qf := QB.frozen)))
      all_goals have hGl := ho5.lt G rfl
      all_goals go_wp2_with fail
      all_goals go_meet
      all_goals first
        | exact kpM_last (by exact HZ3.out) (owns_mono ho5 (by have := HZ3.out; simp; omega)) hB5
        | (have hz3 := HZ3.out; have e : W.heap.size = w.heap.size + 3 := hz3; exact kpM_first (by omega) QB (by have := hGl.1; simp at this; omega) (owns_mono ho5 (by simp; omega)) hB5)
    case rest =>
      obtain ⟨G, O, cap, rfl, hG3, hO3, hGO, hBO, hown, hbw⟩ := hcut
      have T3 : Blk (((w.alloc (.cells #[.string s, .slice (some ⟨ba, oa, none⟩) l.length c] 27)).alloc (.cells #[.string x.name, .slice ax x.args.length cx] 27)).alloc (.cells #[.string ⟨#[]⟩, .slice none 0 0] 27)) w.heap.size #[.string s, .slice (some ⟨ba, oa, none⟩) l.length c] 27 := ((Blk.new w _ _).alloc _).alloc _
      have X3 : Blk (((w.alloc (.cells #[.string s, .slice (some ⟨ba, oa, none⟩) l.length c] 27)).alloc (.cells #[.string x.name, .slice ax x.args.length cx] 27)).alloc (.cells #[.string ⟨#[]⟩, .slice none 0 0] 27)) (w.heap.size + 1) #[.string x.name, .slice ax x.args.length cx] 27 := by
        have := (Blk.new (w.alloc (.cells #[.string s, .slice (some ⟨ba, oa, none⟩) l.length c] 27)) #[.string x.name, .slice ax x.args.length cx] 27).alloc (.cells #[.string ⟨#[]⟩, .slice none 0 0] 27)
        rw [World.size_alloc] at this
        exact this
      have hbW : Below w.heap.size w wc := hB3.trans (hbw.mono (by omega))
      have c01 : wc.cell? ⟨w.heap.size, 1, none⟩ = some (.slice (some ⟨ba, oa, none⟩) l.length c) := (hbw.cell (p := ⟨w.heap.size, 1, none⟩) (by simp)).trans (T3.cell 1)
      have cz : wc.cell? ⟨b, o, none⟩ = some (.int .i64 (k : Int)) := (hbW.cell (p := ⟨b, o, none⟩) (by simpa using hYY b hxb)).trans h0
      have hkl : (k : Int) < (l.length : Int) := by omega
      have x0 : wc.cell? ⟨w.heap.size + 1, 0, none⟩ = some (.string x.name) := (hbw.cell (p := ⟨w.heap.size + 1, 0, none⟩) (by simp)).trans (X3.cell 0)
      have x1 : wc.cell? ⟨w.heap.size + 1, 1, none⟩ = some (.slice ax x.args.length cx) := (hbw.cell (p := ⟨w.heap.size + 1, 1, none⟩) (by simp)).trans (X3.cell 1)
      obtain ⟨b1, o1, a', c', hae, d0, d1, hx⟩ := hs.get hbW (fun b hb _ => hX b hb) k hk
      have eba : b1 = ba ∧ o1 = oa := by simp at hae; exact ⟨hae.1.symm, hae.2.symm⟩
      obtain ⟨rfl, rfl⟩ := eba
      have o1' : wc.cell? ⟨O, 1, none⟩ = some (.slice (some ⟨G, 0, none⟩) l.length cap) := hBO.cell 1
      have HX := hide hx
      have hszk : sizeL [l[k]] ≤ 1000000 := by
        have := sizeL_take l k hk; have := sizeL_take_le l (k + 1); omega
      have hslq : ∀ w' : World, Sem.run Try.prog (Instr.slice 22 (.slice (some ⟨b, o, none⟩) (zs.length + 1) pc) (some (.int .i64 1)) none none) w' = .ok (.slice sa zs.length (pc - 1)) w' := fun w' => by
        rw [slice_tail_run b o zs.length pc hzl2 w', HSA.out]
      have hnG : ∀ b, b < w.heap.size + 3 → b ≠ G := fun b hb => by omega
      have hlen9 := hs.1
      have hput : putT x ((k : Int) :: zs) ⟨s, l⟩ = ⟨s, l.set k (putT x zs l[k])⟩ := by
        have := putL_set (putT x zs) l 0 k hk
        rw [Nat.zero_add] at this
        rw [putT, this]
      have PU : Hid (∀ w', Below wc.heap.size wc w' → Calls Try.prog 48 #[.agg #[.string l[k].name, .slice a' l[k].args.length c'], .slice sa zs.length (pc - 1), .agg #[.string x.name, .slice ax x.args.length cx]] w' fun e w'' => ∃ s9 a9 n9 c9, e = .returned (.agg #[.string s9, .slice a9 n9 c9]) ∧ TV w'' (fun b => (X b ∧ b < w'.heap.size) ∨ w'.heap.size ≤ b) (.agg #[.string s9, .slice a9 n9 c9]) (putT x zs l[k]) ∧ Below wc.heap.size wc w'') := fun w' hb => by
        refine (IH.out l[k] _ _ _ w' X Y (HX.out.later hb) ((HT.out.later hbW).later hb) ((HU.out.later hbW).later hb) HAT.out hszk).mono ?_
        rintro e w'' ⟨v', rfl, ht, hb2⟩
        obtain ⟨a9, c9, rfl, hs9⟩ := ht
        exact ⟨_, a9, _, c9, rfl, ⟨a9, c9, rfl, hs9⟩, hb.trans (hb2.mono hb.size)⟩
      have hcs6 : wc.cell? ⟨O, 1, none⟩ = some (.slice (some ⟨G, 0, none⟩) l.length cap) ∧ wc.cell? ⟨w.heap.size, 1, none⟩ = some (.slice (some ⟨b1, o1, none⟩) l.length c) ∧ wc.cell? ⟨b1, o1 + k * 2, none⟩ = some (.string l[k].name) ∧ wc.cell? ⟨b1, o1 + k * 2 + 1, none⟩ = some (.slice a' l[k].args.length c') ∧ wc.cell? ⟨w.heap.size + 1, 0, none⟩ = some (.string x.name) ∧ wc.cell? ⟨w.heap.size + 1, 1, none⟩ = some (.slice ax x.args.length cx) := ⟨o1', c01, d0, d1, x0, x1⟩
      have HS0 := hide hcs6
      have hOl : O < wc.heap.size := hBO.lt
      have hszc : w.heap.size + 3 ≤ wc.heap.size := by have := hbw.size; omega
      have KP : Hid (∀ w', Below wc.heap.size wc w' → w'.cell? ⟨O, 1, none⟩ = some (.slice (some ⟨G, 0, none⟩) l.length cap) ∧ w'.cell? ⟨w.heap.size, 1, none⟩ = some (.slice (some ⟨b1, o1, none⟩) l.length c) ∧ w'.cell? ⟨b1, o1 + k * 2, none⟩ = some (.string l[k].name) ∧ w'.cell? ⟨b1, o1 + k * 2 + 1, none⟩ = some (.slice a' l[k].args.length c') ∧ w'.cell? ⟨w.heap.size + 1, 0, none⟩ = some (.string x.name) ∧ w'.cell? ⟨w.heap.size + 1, 1, none⟩ = some (.slice ax x.args.length cx)) := fun w' hb => ⟨(hb.cell (p := ⟨O, 1, none⟩) hOl).trans o1', (hb.cell (p := ⟨w.heap.size, 1, none⟩) (by simp; omega)).trans c01, (hb.cell (p := ⟨b1, o1 + k * 2, none⟩) (by simp; omega)).trans d0, (hb.cell (p := ⟨b1, o1 + k * 2 + 1, none⟩) (by simp; omega)).trans d1, (hb.cell (p := ⟨w.heap.size + 1, 0, none⟩) (by simp; omega)).trans x0, (hb.cell (p := ⟨w.heap.size + 1, 1, none⟩) (by simp; omega)).trans x1⟩
      obtain ⟨cur, hGb, hcur, hcx, hcap⟩ : ∃ cur : Array Value, Blk wc G cur 27 ∧ cur.size = cap * 2 ∧ cur.toList.take (l.length * 2) = xs ∧ l.length ≤ cap := by
        rcases hown.2 with ⟨h1, _⟩ | ⟨g, cap', cur, hv, _, hh, hnc, _, hz, ht⟩
        · cases h1
        · simp at hv
          obtain ⟨rfl, rfl⟩ := hv
          exact ⟨cur, hh, hz, ht, hnc⟩
      have HGB := hide hGb
      obtain ⟨y0, hy0⟩ : ∃ y, cur[k * 2]? = some y := ⟨_, Array.getElem?_eq_getElem (by omega)⟩
      obtain ⟨y1, hy1⟩ : ∃ y, cur[k * 2 + 1]? = some y := ⟨_, Array.getElem?_eq_getElem (by omega)⟩
      have nO : O ≠ G := fun e => hGO e.symm
      have n1 : w.heap.size ≠ G := by omega
      have n2 : b1 ≠ G := by omega
      have n3 : w.heap.size + 1 ≠ G := by omega
      have n4 : w.heap.size + 1 + 1 ≠ G := by omega
      have hRc : Blk wc (w.heap.size + 1 + 1) #[.string ⟨#[]⟩, .slice none 0 0] 27 := by
        have h1 := Blk.new ((w.alloc (.cells #[.string s, .slice (some ⟨b1, o1, none⟩) l.length c] 27)).alloc (.cells #[.string x.name, .slice ax x.args.length cx] 27)) #[.string ⟨#[]⟩, .slice none 0 0] 27
        rw [World.size_alloc, World.size_alloc] at h1
        unfold Blk at *
        rw [hbw.block _ (by omega)]
        exact h1
      have hGl : G < wc.heap.size := hGb.lt
      clear o1' c01 d0 d1 x0 x1 hcs6
      go_wp2_with fail
      go_region_held3 (fun w' => w'.cell? ⟨O, 1, none⟩ = some (.slice (some ⟨G, 0, none⟩) l.length cap) ∧ w'.cell? ⟨w.heap.size, 1, none⟩ = some (.slice (some ⟨b1, o1, none⟩) l.length c) ∧ w'.cell? ⟨b1, o1 + k * 2, none⟩ = some (.string l[k].name) ∧ w'.cell? ⟨b1, o1 + k * 2 + 1, none⟩ = some (.slice a' l[k].args.length c') ∧ w'.cell? ⟨w.heap.size + 1, 0, none⟩ = some (.string x.name) ∧ w'.cell? ⟨w.heap.size + 1, 1, none⟩ = some (.slice ax x.args.length cx)) (first | exact hS | exact HS0.out | exact ⟨set2_keep hS.1 nO, set2_keep hS.2.1 n1, set2_keep hS.2.2.1 n2, set2_keep hS.2.2.2.1 n2, set2_keep hS.2.2.2.2.1 n3, set2_keep hS.2.2.2.2.2 n3⟩ | go_keep)
        (first
          | (go_at_call 48; refine (PU.out _ (by first | exact Below.refl _ _ | exact (Below.refl _ _).drew)).mono ?_; rintro e w5 ⟨s9, a9, n9, c9, rfl, ht5, hb5⟩; have hS := KP.out _ hb5; have GB := HGB.out.below hb5 hGl; have gf := GB.frozen; have g0 : w5.cell? ⟨G, k * 2, none⟩ = some y0 := (GB.cell (k * 2)).trans hy0; have g1 : w5.cell? ⟨G, k * 2 + 1, none⟩ = some y1 := (GB.cell (k * 2 + 1)).trans hy1))
      all_goals
        have OB := (hBO.below hb5 hOl)
        have OB9 := (OB.setOther (k * 2) (.string s9) nO).setOther (k * 2 + 1) (.slice a9 n9 c9) nO
        have GB9 := (GB.set (k * 2) (.string s9)).set (k * 2 + 1) (.slice a9 n9 c9)
        have hR5 := ((hRc.below hb5 (by omega)).setOther (k * 2) (.string s9) n4).setOther (k * 2 + 1) (.slice a9 n9 c9) n4
        have hb9 : Below w.heap.size w ((w5.setCell ⟨G, k * 2, none⟩ (.string s9)).setCell ⟨G, k * 2 + 1, none⟩ (.slice a9 n9 c9)) := ((hbW.trans (hb5.mono (by omega))).setCell (p := ⟨G, k * 2, none⟩) (by simp; omega) _).setCell (p := ⟨G, k * 2 + 1, none⟩) (by simp; omega) _
        have HFIN := hide (kput_fin (R := w.heap.size + 1 + 1) hX hk hlen9 HRT.out hcx (by omega) (by exact hGl) (by omega) n4 (by have := hszc; simp; omega) GB (hbW.trans (hb5.mono (by omega))) ht5)
        have hGx9 := hb5.size
        generalize ((w5.setCell ⟨G, k * 2, none⟩ (.string s9)).setCell ⟨G, k * 2 + 1, none⟩ (.slice a9 n9 c9)) = w9 at *
        have u0 : w9.cell? ⟨O, 0, none⟩ = some (.string s) := OB9.cell 0
        have u1 : w9.cell? ⟨O, 1, none⟩ = some (.slice (some ⟨G, 0, none⟩) l.length cap) := OB9.cell 1
        have r20 : w9.cell? ⟨w.heap.size + 1 + 1, 0, none⟩ = some (.string ⟨#[]⟩) := hR5.cell 0
        have r21 : w9.cell? ⟨w.heap.size + 1 + 1, 1, none⟩ = some (.slice none 0 0) := hR5.cell 1
        have rf := hR5.frozen
        go_wp2_with fail
        refine bodyPost_ret (v := .agg #[.string s, .slice (some ⟨G, 0, none⟩) l.length cap]) (by simp [results, Try.results48, go_sem, r20, r21, World.cell?_setCell_same, World.cell?_setCell_other]) rfl ⟨_, rfl, ?_, ?_⟩
        · refine ⟨some ⟨G, 0, none⟩, cap, ?_, ?_⟩
          · rw [hput]; simp
          · rw [hput]
            exact (HFIN.out _ (fun b hb => by rw [Below.heap_setCell _ _ _ _ (by simpa using hb), Below.heap_setCell _ _ _ _ (by simpa using hb)])).mono fun b hb _ => hb.imp (fun h => ⟨hXX b h, hX b h⟩) id
        · exact (hb9.setCell (by simp; omega) _).setCell (by simp; omega) _
theorem kput_any (x : Tm) (zs : List Int) (t : Tm) (v p u : Value) (w : World) (X : Nat → Prop) (hv : TV w X v t) (hp : PV w X p zs) (hu : TV w X u x) (hat : (atT t zs).isSome = true) (hz : sizeL [t] ≤ 1000000) :
    Calls Try.prog 48 #[v, p, u] w fun e w' => ∃ v', e = .returned v' ∧ TV w' (fun b => (X b ∧ b < w.heap.size) ∨ w.heap.size ≤ b) v' (putT x zs t) ∧ Below w.heap.size w w' := kputY_any x zs t v p u w X X hv hp hu hat hz
#print axioms kput_any
end Go.Proofs.Ytccbocefgoccdaa


/- Walks: two answers that are terms. -/
namespace Go.Proofs.Ytccbocefgoccdaa
open Go.RowKit
set_option linter.unusedSimpArgs false
set_option linter.unusedVariables false

end Go.Proofs.Ytccbocefgoccdaa


/- Walks: Put, and the law on it. -/
namespace Go.Proofs.Ytccbocefgoccdaa
open Go.RowKit
set_option linter.unusedSimpArgs false
set_option linter.unusedVariables false
set_option maxRecDepth 8000

/-- What is wrong with putting. -/
def putE (t : Tm) (zs : List Int) (x : Tm) : Int := if twoE t x = 0 then (if (atT t zs).isSome = true then 0 else 10) else twoE t x

theorem may_size {t : Tm} (h : mayE t = 0) : sizeL [t] ≤ 1000000 := by
  unfold mayE at h
  split at h
  · omega
  · omega

theorem may_le {t : Tm} (h : mayE t = 0) : sizeL [t] ≤ 400 := by
  unfold mayE at h
  split at h
  · omega
  · omega
theorem size_set : ∀ (l : List Tm) (k : Nat) (h : k < l.length) (y : Tm), sizeL (l.set k y) + sizeL [l[k]] = sizeL l + sizeL [y]
  | [], k, h, y => by simp at h
  | ⟨s, a⟩ :: l, 0, h, ⟨s', a'⟩ => by simp [sizeL]; omega
  | ⟨s, a⟩ :: l, k + 1, h, y => by
    have := size_set l k (by simpa using h) y
    simp only [List.set_cons_succ, List.getElem_cons_succ]
    have e1 : sizeL (⟨s, a⟩ :: l.set k y) = 1 + sizeL a + sizeL (l.set k y) := by simp [sizeL]
    have e2 : sizeL (⟨s, a⟩ :: l) = 1 + sizeL a + sizeL l := by simp [sizeL]
    omega
theorem putT_size (x : Tm) : ∀ (zs : List Int) (t : Tm), (atT t zs).isSome = true → sizeL [putT x zs t] ≤ sizeL [t] + sizeL [x]
  | [], t, _ => by simp [putT]
  | z :: zs, ⟨s, l⟩, h => by
    rw [atT] at h
    split at h
    case isFalse => cases h
    case isTrue hz =>
    obtain ⟨k, rfl⟩ : ∃ k : Nat, z = (k : Int) := ⟨z.toNat, by omega⟩
    have hk : k < l.length := by simpa using hz.2
    have ih := putT_size x zs l[k] (by simpa using h)
    have h1 := putL_set (putT x zs) l 0 k hk
    rw [Nat.zero_add] at h1
    rw [putT, h1]
    have h2 := size_set l k hk (putT x zs l[k])
    have e1 : sizeL [(⟨s, l.set k (putT x zs l[k])⟩ : Tm)] = 1 + sizeL (l.set k (putT x zs l[k])) := by simp [sizeL]
    have e2 : sizeL [(⟨s, l⟩ : Tm)] = 1 + sizeL l := by simp [sizeL]
    simp only [e1, e2]
    omega
theorem two_left {t x : Tm} (h : mayE t = 0) : twoE t x = mayE x := by simp [twoE, h]
theorem two_bad {t x : Tm} (h : mayE t ≠ 0) : twoE t x = mayE t := by simp [twoE, h]

theorem blks3 (w : World) (c1 c2 c3 : Array Value) (T : Nat) :
    Blk (((w.alloc (.cells c1 T)).alloc (.cells c2 T)).alloc (.cells c3 T)) w.heap.size c1 T ∧ Blk (((w.alloc (.cells c1 T)).alloc (.cells c2 T)).alloc (.cells c3 T)) (w.heap.size + 1) c2 T ∧ Blk (((w.alloc (.cells c1 T)).alloc (.cells c2 T)).alloc (.cells c3 T)) (w.heap.size + 1 + 1) c3 T := by
  refine ⟨(((Blk.new w c1 T).alloc _).alloc _), ?_, ?_⟩
  · have := ((Blk.new (w.alloc (.cells c1 T)) c2 T).alloc (.cells c3 T))
    simp at this; exact this
  · have := (Blk.new ((w.alloc (.cells c1 T)).alloc (.cells c2 T)) c3 T)
    simp at this; exact this

end Go.Proofs.Ytccbocefgoccdaa

/- Walks: a step is done. -/
namespace Go.Proofs.Ytccbocefgoccdaa
open Go.RowKit
set_option linter.unusedSimpArgs false
set_option linter.unusedVariables false
set_option maxRecDepth 8000

/-- What a step makes of what stood there. -/
def outC (y : Ft) : Tm := fT y.2 y.1.r
/-- Would it be too great? -/
def isFull (t : Tm) (d : Dn) (y : Ft) : Prop := 2000 < sizeL [t] - sizeL [d.2] + sizeL [outC y]
def TkPost (w : World) (X : Nat → Prop) (t : Tm) (d : Dn) (y : Ft) (e : Ending) (w' : World) : Prop :=
  Below w.heap.size w w' ∧ ((¬ isFull t d y ∧ ∃ a' c', e = .returned (.tuple #[.agg #[.string (putT (outC y) d.1 t).name, .slice a' (putT (outC y) d.1 t).args.length c'], .int .i64 0]) ∧ Sl w' (fun b => (X b ∧ b < w.heap.size) ∨ w.heap.size ≤ b) a' (putT (outC y) d.1 t).args) ∨
    (isFull t d y ∧ e = .returned (.tuple #[.agg #[.string ⟨#[]⟩, .slice none 0 0], .int .i64 8])))

theorem size_at : ∀ (p : List Int) (t x : Tm), atT t p = some x → sizeL [x] ≤ sizeL [t]
  | [], t, x, h => by simp [atT] at h; subst h; exact Nat.le_refl _
  | i :: r, t, x, h => by
    rw [atT] at h
    split at h
    next hi =>
      have h1 := size_at r _ x h
      obtain ⟨s, l⟩ := t
      have h2 := sizeL_ge1 l i.toNat hi.2
      have e : sizeL [(⟨s, l⟩ : Tm)] = 1 + sizeL l := by simp [sizeL]
      rw [e]
      simp only at h1
      omega
    next => cases h

set_option maxHeartbeats 2000000 in
theorem take_step (d : Dn) (y : Ft) (t : Tm) (ua xa ra aa : Option Addr) (uc xc rc ca q : Nat) (Lm : List (ByteArray × Value)) (w : World) (X Z : Nat → Prop) (hp : PV w Z (.slice ua d.1.length uc) d.1) (hx : Sl w Z xa d.2.args) (hr : Sl w Z ra y.1.r.args) (hen : EnvR w q Z y.2 Lm) (hs : Sl w X aa t.args) (hat : atT t d.1 = some d.2) (hz : sizeL [t] ≤ 2000) :
    Calls Try.prog 30 #[.agg #[.slice ua d.1.length uc, .string d.2.name, .slice xa d.2.args.length xc, .string y.1.r.name, .slice ra y.1.r.args.length rc, .map (some q)], .agg #[.string t.name, .slice aa t.args.length ca]] w fun e w' => TkPost w X t d y e w' := by
  have hmf : ∀ (fn : Fn) (first cap : Array Value) (w : World), (Instr.makeFunc fn first cap).run Try.prog w = .ok (.func fn first cap) w := fun _ _ _ _ => rfl
  have hzx := size_at _ _ _ hat
  have HP := hide hp
  have HX := hide hx
  have HR := hide hr
  have HEN := hide hen
  have HS := hide hs
  have HAT : Hid ((atT t d.1).isSome = true) := by unfold Hid; rw [hat]; rfl
  clear hp hx hr hen hs hat
  have hB3 : Below w.heap.size w (((w.alloc (.cells #[.slice ua d.1.length uc, .string d.2.name, .slice xa d.2.args.length xc, .string y.1.r.name, .slice ra y.1.r.args.length rc, .map (some q)] 71)).alloc (.cells #[.string t.name, .slice aa t.args.length ca] 27)).alloc (.cells #[.string ⟨#[]⟩, .slice none 0 0] 27)) := below3 _ _ _
  have hz3 : (((w.alloc (.cells #[.slice ua d.1.length uc, .string d.2.name, .slice xa d.2.args.length xc, .string y.1.r.name, .slice ra y.1.r.args.length rc, .map (some q)] 71)).alloc (.cells #[.string t.name, .slice aa t.args.length ca] 27)).alloc (.cells #[.string ⟨#[]⟩, .slice none 0 0] 27)).heap.size = w.heap.size + 3 := by simp
  have hC : Blk (((w.alloc (.cells #[.slice ua d.1.length uc, .string d.2.name, .slice xa d.2.args.length xc, .string y.1.r.name, .slice ra y.1.r.args.length rc, .map (some q)] 71)).alloc (.cells #[.string t.name, .slice aa t.args.length ca] 27)).alloc (.cells #[.string ⟨#[]⟩, .slice none 0 0] 27)) w.heap.size #[.slice ua d.1.length uc, .string d.2.name, .slice xa d.2.args.length xc, .string y.1.r.name, .slice ra y.1.r.args.length rc, .map (some q)] 71 := ((Blk.new w _ _).alloc _).alloc _
  have hT : Blk (((w.alloc (.cells #[.slice ua d.1.length uc, .string d.2.name, .slice xa d.2.args.length xc, .string y.1.r.name, .slice ra y.1.r.args.length rc, .map (some q)] 71)).alloc (.cells #[.string t.name, .slice aa t.args.length ca] 27)).alloc (.cells #[.string ⟨#[]⟩, .slice none 0 0] 27)) (w.heap.size + 1) #[.string t.name, .slice aa t.args.length ca] 27 := by
    have h := (Blk.new (w.alloc (.cells #[.slice ua d.1.length uc, .string d.2.name, .slice xa d.2.args.length xc, .string y.1.r.name, .slice ra y.1.r.args.length rc, .map (some q)] 71)) #[.string t.name, .slice aa t.args.length ca] 27).alloc (.cells #[.string ⟨#[]⟩, .slice none 0 0] 27)
    rw [World.size_alloc] at h
    exact h
  have hO : Blk (((w.alloc (.cells #[.slice ua d.1.length uc, .string d.2.name, .slice xa d.2.args.length xc, .string y.1.r.name, .slice ra y.1.r.args.length rc, .map (some q)] 71)).alloc (.cells #[.string t.name, .slice aa t.args.length ca] 27)).alloc (.cells #[.string ⟨#[]⟩, .slice none 0 0] 27)) (w.heap.size + 1 + 1) #[.string ⟨#[]⟩, .slice none 0 0] 27 := by
    have h := Blk.new ((w.alloc (.cells #[.slice ua d.1.length uc, .string d.2.name, .slice xa d.2.args.length xc, .string y.1.r.name, .slice ra y.1.r.args.length rc, .map (some q)] 71)).alloc (.cells #[.string t.name, .slice aa t.args.length ca] 27)) #[.string ⟨#[]⟩, .slice none 0 0] 27
    rw [World.size_alloc, World.size_alloc] at h
    exact h
  have HB3 := hide hB3
  have HC := hide hC
  have HT := hide hT
  have HO := hide hO
  clear hB3 hC hT hO
  go_enter Try.func30, Try.ntmps30
  go_upto_region 1 with fail
  generalize (((w.alloc (.cells #[.slice ua d.1.length uc, .string d.2.name, .slice xa d.2.args.length xc, .string y.1.r.name, .slice ra y.1.r.args.length rc, .map (some q)] 71)).alloc (.cells #[.string t.name, .slice aa t.args.length ca] 27)).alloc (.cells #[.string ⟨#[]⟩, .slice none 0 0] 27)) = W at *
  go_cut [6] (fun v wc => v = .int .i64 ((sizeL [t] : Int) - sizeL [d.2]) ∧ Below W.heap.size W wc)
  case first =>
    have hw1 : IntKind.i64.wrap ((sizeL [t] : Int) - sizeL [d.2]) = (sizeL [t] : Int) - sizeL [d.2] := by rw [IntKind.wrap_i64]; omega
    have BD : Hid (Below W.heap.size W W.drew) := below_drewN (Below.refl _ _) 1
    refine wp_region_held_drew (S := fun w' => Below W.heap.size W w') (by kernel_rfl) BD.out (fun hHeld => ?_)
    refine wpAnyH_take (i := 0) (v := ?_) rfl (by kernel_rfl) (by kernel_rfl) (by kernel_rfl) (fun _ _ _ h => h) (Or.inl ⟨by rfl, ?_⟩) (by assumption) ?_
    rotate_left
    · intro w' hSw
      have c0 : w'.cell? ⟨w.heap.size + 1, 0, none⟩ = some (.string t.name) := (HT.out.below hSw HT.out.lt).cell 0
      have c1 : w'.cell? ⟨w.heap.size + 1, 1, none⟩ = some (.slice aa t.args.length ca) := (HT.out.below hSw HT.out.lt).cell 1
      go_simp <;> with_reducible rfl
    try simp only [Act.put, List.setIfInBounds_toArray, List.set_cons_zero, List.set_cons_succ, List.getElem_toArray, List.getElem_cons_succ, List.getElem_cons_zero]
    refine wpAnyH_take (i := 2) (v := ?_) rfl (by kernel_rfl) (by kernel_rfl) (by kernel_rfl) (fun _ _ _ h => h) (Or.inl ⟨by rfl, ?_⟩) (by assumption) ?_
    rotate_left
    · intro w' hSw
      go_simp <;> with_reducible rfl
    try simp only [Act.put, List.setIfInBounds_toArray, List.set_cons_zero, List.set_cons_succ, List.getElem_toArray, List.getElem_cons_succ, List.getElem_cons_zero]
    refine wpAnyH_take (i := 3) (v := ?_) rfl (by kernel_rfl) (by kernel_rfl) (by kernel_rfl) (fun _ _ _ h => h) (Or.inl ⟨by rfl, ?_⟩) (by assumption) ?_
    rotate_left
    · intro w' hSw
      have c0 : w'.cell? ⟨w.heap.size, 1, none⟩ = some (.string d.2.name) := (HC.out.below hSw HC.out.lt).cell 1
      have c1 : w'.cell? ⟨w.heap.size, 2, none⟩ = some (.slice xa d.2.args.length xc) := (HC.out.below hSw HC.out.lt).cell 2
      go_simp <;> with_reducible rfl
    try simp only [Act.put, List.setIfInBounds_toArray, List.set_cons_zero, List.set_cons_succ, List.getElem_toArray, List.getElem_cons_succ, List.getElem_cons_zero]
    generalize W.drew = wd at *
    refine wpAnyH_ready (rs := [1]) (by kernel_rfl) (by simp) ?_
    refine AllReadyH.cons rfl (fun K hK => ?_) AllReadyH.nil
    go_simp
    go_at_call 36
    refine (count_any 2000 (by omega) (by omega) t _ _ _ ⟨aa, ca, rfl, (HS.out.later HB3.out).later BD.out⟩).mono ?_
    rintro e v1 ⟨rfl, hb⟩
    have Bv1 := hide (BD.out.trans (hb.mono BD.out.size))
    clear hb
    have em : min (sizeL [t] : Int) (2000 + 1) = sizeL [t] := by omega
    rw [em]
    clear em
    go_simp
    refine hK.out _ _ (by exact Bv1.out) (fun hHeld => ?_)
    clear hK K
    try simp only [Act.put, List.setIfInBounds_toArray, List.set_cons_zero, List.set_cons_succ, List.getElem_toArray, List.getElem_cons_succ, List.getElem_cons_zero]
    refine wpAnyH_ready (rs := [4]) (by kernel_rfl) (by simp) ?_
    refine AllReadyH.cons rfl (fun K hK => ?_) AllReadyH.nil
    go_simp
    go_at_call 36
    refine (count_any 2000 (by omega) (by omega) d.2 _ _ _ ⟨xa, xc, rfl, (HX.out.later HB3.out).later Bv1.out⟩).mono ?_
    rintro e v2 ⟨rfl, hb⟩
    have Bv2 := hide (Bv1.out.trans (hb.mono Bv1.out.size))
    clear hb
    have em : min (sizeL [d.2] : Int) (2000 + 1) = sizeL [d.2] := by omega
    rw [em]
    clear em
    go_simp
    refine hK.out _ _ (by exact Bv2.out) (fun hHeld => ?_)
    clear hK K
    try simp only [Act.put, List.setIfInBounds_toArray, List.set_cons_zero, List.set_cons_succ, List.getElem_toArray, List.getElem_cons_succ, List.getElem_cons_zero]
    refine wpAnyH_take (i := 5) (v := ?_) rfl (by kernel_rfl) (by kernel_rfl) (by kernel_rfl) (fun _ _ _ h => h) (Or.inl ⟨by rfl, ?_⟩) (by assumption) ?_
    rotate_left
    · intro w' hSw
      go_simp <;> with_reducible rfl
    try simp only [Act.put, List.setIfInBounds_toArray, List.set_cons_zero, List.set_cons_succ, List.getElem_toArray, List.getElem_cons_succ, List.getElem_cons_zero]
    refine wpAnyH_take (i := 6) (v := ?_) rfl (by kernel_rfl) (by kernel_rfl) (by kernel_rfl) (fun _ _ _ h => h) (Or.inl ⟨by rfl, ?_⟩) (by assumption) ?_
    rotate_left
    · intro w' hSw
      go_simp <;> with_reducible rfl
    try simp only [Act.put, List.setIfInBounds_toArray, List.set_cons_zero, List.set_cons_succ, List.getElem_toArray, List.getElem_cons_succ, List.getElem_cons_zero]
    refine wpAnyH_done (by kernel_rfl) ?_ _
    go_wp2_with fail
    go_meet
    exact ⟨rfl, Bv2.out⟩
  case rest =>
    obtain ⟨rfl, hb⟩ := hcut
    have HB := hide (HB3.out.trans (hb.mono HB3.out.size))
    have C1 := hide (HC.out.below hb HC.out.lt)
    have T1 := hide (HT.out.below hb HT.out.lt)
    have O1 := hide (HO.out.below hb HO.out.lt)
    clear hb
    obtain ⟨n, hn⟩ : ∃ n : Nat, n + (sizeL [t] - sizeL [d.2]) = 2000 := ⟨2000 - (sizeL [t] - sizeL [d.2]), by omega⟩
    have e1 : (2000 : Int) - ((sizeL [t] : Int) - sizeL [d.2]) = (n : Int) := by omega
    have hw2 : IntKind.i64.wrap (2000 - ((sizeL [t] : Int) - sizeL [d.2])) = (n : Int) := by rw [IntKind.wrap_i64]; omega
    have hnb : (n : Int) ≤ 2000 := by omega
    have HFUL : Hid (isFull t d y ↔ n < sizeL [outC y]) := by unfold Hid isFull; omega
    have c0 : wc.cell? ⟨w.heap.size, 3, none⟩ = some (.string y.1.r.name) := C1.out.cell 3
    have c1 : wc.cell? ⟨w.heap.size, 4, none⟩ = some (.slice ra y.1.r.args.length rc) := C1.out.cell 4
    have c2 : wc.cell? ⟨w.heap.size, 5, none⟩ = some (.map (some q)) := C1.out.cell 5
    go_wp2_with fail
    refine (fillR_any q y.1.r.args.length rc y.1.r.name ra y.2 Lm y.1.r n ra rc wc Z (by omega) (HR.out.later HB.out) (HEN.out.later HB.out)).mono ?_
    rintro e w9 ⟨hb9, ⟨hle, a9, c9, rfl, hs9⟩ | ⟨hgt, rfl⟩⟩
    · have HB9 := hide (HB.out.trans (hb9.mono HB.out.size))
      have C9 := hide (C1.out.below hb9 C1.out.lt)
      have T9 := hide (T1.out.below hb9 T1.out.lt)
      have O9 := hide (O1.out.below hb9 O1.out.lt)
      have HS9 := hide hs9
      have HLE := hide hle
      have hzw := hb9.size
      have hzc : w.heap.size + 3 ≤ wc.heap.size := by have := O1.out.lt; have := HB.out.size; omega
      clear hb9 hs9 hle c0 c1 c2
      have t0 : ∀ o, (w9.alloc o).cell? ⟨w.heap.size + 1, 0, none⟩ = some (.string t.name) := fun o => (T9.out.alloc o).cell 0
      have t1 : ∀ o, (w9.alloc o).cell? ⟨w.heap.size + 1, 1, none⟩ = some (.slice aa t.args.length ca) := fun o => (T9.out.alloc o).cell 1
      have p0 : ∀ o, (w9.alloc o).cell? ⟨w.heap.size, 0, none⟩ = some (.slice ua d.1.length uc) := fun o => (C9.out.alloc o).cell 0
      go_wp2_with fail
      refine (kputY_any (outC y) d.1 t _ _ _ _ (fun b => (X b ∧ b < w.heap.size) ∨ wc.heap.size ≤ b) (fun b => Z b ∧ b < w.heap.size) ⟨aa, ca, rfl, ((HS.out.mono (Y := fun b => X b ∧ b < w.heap.size) fun b h1 h2 => ⟨h1, h2⟩).later (HB9.out.alloc HB9.out.size _)).mono fun b hb _ => Or.inl hb⟩ ((HP.out.mono (Y := fun b => Z b ∧ b < w.heap.size) fun b h1 h2 => ⟨h1, h2⟩).later (HB9.out.alloc HB9.out.size _)) ⟨a9, c9, rfl, (HS9.out.later ((Below.refl _ _).alloc (Nat.le_refl _) _)).mono fun b hb _ => Or.inr hb⟩ HAT.out (by omega)).mono ?_
      rintro e v1 ⟨v', rfl, ⟨aF, cF, rfl, hsF⟩, hbF⟩
      have HBF := hide ((HB9.out.alloc HB9.out.size (.cells #[.string (outC y).name, .slice a9 (outC y).args.length c9] 27)).trans (hbF.mono (by have := HB9.out.size; simp; omega)))
      have OF := hide ((O9.out.alloc (.cells #[.string (outC y).name, .slice a9 (outC y).args.length c9] 27)).below hbF (by have := O9.out.lt; simp; omega))
      have HSF := hide hsF
      have hzF := hbF.size
      clear hsF hbF t0 t1 p0
      have r0 : v1.cell? ⟨w.heap.size + 1 + 1, 0, none⟩ = some (.string ⟨#[]⟩) := OF.out.cell 0
      have r1 : v1.cell? ⟨w.heap.size + 1 + 1, 1, none⟩ = some (.slice none 0 0) := OF.out.cell 1
      have rf := OF.out.frozen
      have hOl : w.heap.size + 1 + 1 < v1.heap.size := OF.out.lt
      go_wp2_with fail
      refine bodyPost_ret (v := .tuple #[.agg #[.string (putT (outC y) d.1 t).name, .slice aF (putT (outC y) d.1 t).args.length cF], .int .i64 0]) (by simp [results, Try.results30, go_sem, World.cell?_setCell_same, World.cell?_setCell_other, r0, r1, hOl]) rfl ?_
      refine ⟨(HBF.out.setCell (by simp; omega) _).setCell (by simp; omega) _, Or.inl ⟨fun h => by have := HFUL.out.1 h; have := HLE.out; unfold outC at *; omega, aF, cF, rfl, (HSF.out.kept fun b hb => ?_).mono fun b hb _ => ?_⟩⟩
      · have hbn : b ≠ w.heap.size + 1 + 1 := by
          rcases hb with ⟨(h | h), _⟩ | h
          · have := h.2; omega
          · omega
          · simp at h; omega
        rw [Below.heap_setCell _ _ _ _ (by simpa using hbn), Below.heap_setCell _ _ _ _ (by simpa using hbn)]
      · rcases hb with ⟨(h | h), _⟩ | h
        · exact Or.inl h
        · right; omega
        · right; simp at h; omega
    · have HB9 := hide (HB.out.trans (hb9.mono HB.out.size))
      have O9 := hide (O1.out.below hb9 O1.out.lt)
      have HGT := hide hgt
      clear hb9 hgt c0 c1 c2
      have r0 : w9.cell? ⟨w.heap.size + 1 + 1, 0, none⟩ = some (.string ⟨#[]⟩) := O9.out.cell 0
      have r1 : w9.cell? ⟨w.heap.size + 1 + 1, 1, none⟩ = some (.slice none 0 0) := O9.out.cell 1
      have rf := O9.out.frozen
      have hOl : w.heap.size + 1 + 1 < w9.heap.size := O9.out.lt
      go_wp2_with fail
      refine bodyPost_ret (v := .tuple #[.agg #[.string ⟨#[]⟩, .slice none 0 0], .int .i64 8]) (by simp [results, Try.results30, go_sem, World.cell?_setCell_same, World.cell?_setCell_other, r0, r1, hOl, World.cell?_alloc_old]) rfl ?_
      exact ⟨by first | exact ((HB9.out.setCell (by simp; omega) _).setCell (by simp; omega) _).alloc (by have := HB9.out.size; simp [World.setCell]; omega) _ | exact ((HB9.out.alloc HB9.out.size _).setCell (by simp; omega) _).setCell (by simp; omega) _, Or.inr ⟨HFUL.out.2 HGT.out, rfl⟩⟩
#print axioms take_step
end Go.Proofs.Ytccbocefgoccdaa

/- A region that draws its order, in a round: walked as anywhere. -/
namespace Go.Proofs.Ytccbocefgoccdaa
open Go.RowKit Go.Shelf
set_option linter.unusedSimpArgs false
set_option linter.unusedVariables false
set_option maxRecDepth 8000

/-- What is asked behind a region that can't outgrow anything. -/
def calmQ (Q : Exit → Act → World → Prop) : Exit → Act → World → Prop := fun e a w => e ≠ .outgrown ∧ Q e a w
theorem calmQ_out (Q : Exit → Act → World → Prop) : ¬ LetsOut (calmQ Q) := fun ⟨_, _, h⟩ => h.1 rfl

theorem oper_round {P : Program} {o : Oper} {a : Act} {w : World} {K : Act → World → Prop} {Q : Exit → Act → World → Prop} {l n : Nat} (hnd : ∀ c, o.op ≠ .defer c) (h : Oper.wp P o a w K (calmQ Q)) : Oper.wpIn (Fence.wide.inRound l) n P o a w K Q := by
  unfold Oper.wp at h
  unfold Oper.wpIn
  refine ⟨fun f _ => trivial, ?_⟩
  rw [show (Fence.wide.inRound l).round = some l from rfl, Oper.semAt_some l _ _ hnd]
  generalize (execOp a.eval o).run P w = r at h ⊢
  cases r with
  | ok x w' =>
    cases x with
    | value v => exact h
    | skip => exact h
    | defer d => exact h
    | enter f args =>
      refine ⟨fun h => by simp [Fence.wide] at h, CallsIn.inRound l (callsIn_wide.2 (h.mono ?_))⟩
      intro e w'' he
      cases e with
      | returned v => exact he
      | panicked c => exact he.2
      | outgrown => exact absurd he (calmQ_out Q)
    | row row args => exact ⟨fun h => by simp [Fence.wide] at h, fun c cs _ => let ⟨v, w'', r, s⟩ := h c cs; ⟨v, w'', r, stepsIn_wide.2 s⟩⟩
    | round _ _ _ _ _ => exact h.elim
    | _ => exact h.elim
  | halt x w' => 
    cases x with
    | panic v => exact h.2
    | _ => exact h.elim

theorem any_round {P : Program} {md : Region.Mode} {ops : Array Oper} {Q : Exit → Act → World → Prop} {l n : Nat} (hnd : ∀ (i : Nat) (o : Oper), ops[i]? = some o → ∀ c, o.op ≠ .defer c) : ∀ (fuel : Nat) (listed : Array Bool) (a : Act) (w : World), wpAny P md ops (calmQ Q) fuel listed a w → wpAnyIn (Fence.wide.inRound l) n P md ops Q fuel listed a w
  | 0, _, _, _, h => ⟨h.1, h.2.2⟩
  | fuel + 1, listed, a, w, h => by
    refine ⟨fun h0 => (h.1 h0).2, fun i hi => ?_⟩
    have h1 := h.2 i hi
    unfold wpOp at h1
    unfold wpOpIn
    cases ho : ops[i]? with
    | none =>
      simp only [ho] at h1
      exact any_round hnd fuel _ _ _ h1
    | some o =>
      simp only [ho] at h1
      have hn := hnd i o ho
      split at h1
      next hw =>
        simp only [hw, if_true]
        rcases h1 with h1 | h1
        · exact Oper.wpIn_mono (fun a' w' h' => any_round hnd fuel _ a' w' h') (oper_round hn h1)
        · exact absurd h1.2 (calmQ_out Q)
      next hw =>
        dsimp only
        rw [if_neg hw]
        exact ⟨fun f _ => trivial, any_round hnd fuel _ _ _ h1⟩

theorem region_round {P : Program} {ops : Array Oper} {Q : Exit → Act → World → Prop} {S : World → Prop} {l n id : Nat} {a : Act} {w : World} (hm : P.follows .mixedOrders = true) (hnd : ∀ (i : Nat) (o : Oper), ops[i]? = some o → ∀ c, o.op ≠ .defer c) (hS : S w.drew)
    (h : S w.drew → wpAnyH P .any ops (calmQ Q) S ops.size (Array.replicate ops.size false) a w.drew) : (Code.region id ops true).wpIn (Fence.wide.inRound l) n P Q a w :=
  wpIn_region_any hm (any_round hnd _ _ _ _ (wpAny_of_held _ _ _ _ (h hS)))
#print axioms region_round
end Go.Proofs.Ytccbocefgoccdaa

/- Walks: all that one step makes of a term. -/
namespace Go.Proofs.Ytccbocefgoccdaa
open Go.RowKit Go.Shelf
attribute [local go_sem] Oper.semAt_some
set_option linter.unusedSimpArgs false
set_option linter.unusedVariables false
set_option maxRecDepth 8000

theorem downF_any (s : ByteArray) (aa fa : Option Addr) (n ca fn fc : Nat) (w : World) :
    Calls Try.prog 29 #[.agg #[.string s, .slice aa n ca], .slice fa fn fc] w fun e w' => e = .returned (.func (.func 44) #[] #[.pointer (some ⟨w.heap.size, 0, none⟩), .pointer (some ⟨w.heap.size + 1, 0, none⟩)]) ∧ w' = (w.alloc (.cells #[.string s, .slice aa n ca] 27)).alloc (.cells #[.slice fa fn fc] 22) := by
  have hmf : ∀ (fn : Fn) (first cap : Array Value) (w : World), (Instr.makeFunc fn first cap).run Try.prog w = .ok (.func fn first cap) w := fun _ _ _ _ => rfl
  go_enter Try.func29, Try.ntmps29
  go_wp2_with fail
  go_ret
  exact ⟨rfl, rfl⟩
theorem chancesF_any (ua : Option Addr) (un uc : Nat) (fn : Fn) (c1 c2 : Array Value) (w : World) :
    Calls Try.prog 28 #[.slice ua un uc, .func fn c1 c2] w fun e w' => e = .returned (.func (.func 42) #[] #[.pointer (some ⟨w.heap.size + 1, 0, none⟩), .pointer (some ⟨w.heap.size, 0, none⟩)]) ∧ w' = (w.alloc (.cells #[.slice ua un uc] 23)).alloc (.cells #[.func fn c1 c2] 65) := by
  have hmf : ∀ (fn : Fn) (first cap : Array Value) (w : World), (Instr.makeFunc fn first cap).run Try.prog w = .ok (.func fn first cap) w := fun _ _ _ _ => rfl
  go_enter Try.func28, Try.ntmps28
  go_wp2_with fail
  go_ret
  exact ⟨rfl, rfl⟩

/-- Blocks laid one behind the other. -/
def allocs (w : World) (os : List Obj) : World := os.foldl (fun w o => w.alloc o) w
theorem allocs_facts : ∀ (os : List Obj) (w : World), Below w.heap.size w (allocs w os) ∧ (allocs w os).heap.size = w.heap.size + os.length ∧ ∀ (i : Nat) (o : Obj), os[i]? = some o → (allocs w os).heap[w.heap.size + i]? = some o
  | [], w => ⟨Below.refl _ _, rfl, fun i o h => by simp at h⟩
  | o :: os, w => by
    obtain ⟨h1, h2, h3⟩ := allocs_facts os (w.alloc o)
    have e : allocs w (o :: os) = allocs (w.alloc o) os := rfl
    rw [e]
    refine ⟨((Below.refl _ _).alloc (Nat.le_refl _) o).trans (h1.mono (by simp)), by rw [h2]; simp; omega, fun i o' hi => ?_⟩
    cases i with
    | zero =>
      simp at hi
      subst hi
      have := h1.block w.heap.size (by simp)
      rw [Nat.add_zero, this]
      exact World.alloc_heap_new w o
    | succ i =>
      have := h3 i o' (by simpa using hi)
      rw [World.size_alloc] at this
      rw [show w.heap.size + (i + 1) = w.heap.size + 1 + i by omega]
      exact this

theorem dnL_at : ∀ (l : List Tm) (hs : List Int) (j st : Nat) (r : List Int) (d : Dn), d ∈ dnL hs j st r l → ∃ (k : Nat) (p : List Int) (h : k < l.length), d.1 = hs ++ ((j + k : Nat) : Int) :: p ∧ atT l[k] p = some d.2 := by
  intro l
  induction l using Tm.indL with
  | h0 => intro hs j st r d h; simp [dnL] at h
  | h s l rest ih1 ih2 =>
    intro hs j st r d h
    rw [dnL_cons] at h
    rcases List.mem_append.1 h with h | h
    · split at h
      · simp at h
      · unfold dnT at h
        rcases List.mem_cons.1 h with h | h
        · subst h
          exact ⟨0, [], by simp, by simp, by simp [atT]⟩
        · obtain ⟨k, p, hk, e1, e2⟩ := ih1 _ _ _ _ _ h
          refine ⟨0, ((0 + k : Nat) : Int) :: p, by simp, by rw [e1]; simp, ?_⟩
          have e : ((0 + k : Nat) : Int).toNat = k := by omega
          simp only [List.getElem_cons_zero, atT]
          rw [dif_pos ⟨by omega, by rw [e]; exact hk⟩]
          simp only [e]
          exact e2
    · obtain ⟨k, p, hk, e1, e2⟩ := ih2 _ _ _ _ _ h
      exact ⟨k + 1, p, by simp; omega, by rw [e1, show j + 1 + k = j + (k + 1) by omega], by simpa using e2⟩
theorem dnT_at {hs fs : List Int} {t : Tm} {d : Dn} (h : d ∈ dnT hs fs t) : ∃ p, d.1 = hs ++ p ∧ atT t p = some d.2 := by
  unfold dnT at h
  rcases List.mem_cons.1 h with h | h
  · subst h
    exact ⟨[], by simp, by simp [atT]⟩
  · obtain ⟨k, p, hk, e1, e2⟩ := dnL_at _ _ _ _ _ _ h
    refine ⟨((0 + k : Nat) : Int) :: p, e1, ?_⟩
    have e : ((0 + k : Nat) : Int).toNat = k := by omega
    rw [atT, dif_pos ⟨by omega, by rw [e]; exact hk⟩]
    simp only [e]
    exact e2
theorem chL_at {rs : List Pr} {t : Tm} {fs : List Int} {c : Ch} (h : c ∈ chL rs t fs) : atT t c.1.1 = some c.1.2 := by
  obtain ⟨d, hd, hc⟩ := List.mem_flatMap.1 h
  obtain ⟨y, _, rfl⟩ := List.mem_map.1 hc
  obtain ⟨p, e1, e2⟩ := dnT_at hd
  rw [List.nil_append] at e1
  rw [e1]
  exact e2
theorem dnL_len : ∀ (l : List Tm) (hs : List Int) (j st : Nat) (r : List Int), (dnL hs j st r l).length ≤ sizeL l := by
  intro l
  induction l using Tm.indL with
  | h0 => intro hs j st r; simp [dnL]
  | h s l rest ih1 ih2 =>
    intro hs j st r
    rw [dnL_cons, List.length_append]
    have h2 := ih2 hs (j + 1) st r
    have e : sizeL ((⟨s, l⟩ : Tm) :: rest) = 1 + sizeL l + sizeL rest := by simp [sizeL]
    rw [e]
    split
    · simp; omega
    · unfold dnT
      have h1 := ih1 (hs ++ [(j : Int)]) 0 (hdN (if j = st then r else [])) (if j = st then r else []).tail
      rw [List.length_cons]
      have e2 : (⟨s, l⟩ : Tm).args = l := rfl
      rw [e2]
      omega
theorem chL_len (rs : List Pr) (t : Tm) (fs : List Int) : (chL rs t fs).length ≤ sizeL [t] * rs.length := by
  have h1 : ∀ ds : List Dn, (ds.flatMap (chG rs)).length ≤ ds.length * rs.length := by
    intro ds
    induction ds with
    | nil => simp
    | cons d ds ih =>
      rw [List.flatMap_cons, List.length_append, List.length_cons, Nat.add_mul, Nat.one_mul]
      have : (chG rs d).length ≤ rs.length := by unfold chG fitsL; rw [List.length_map]; exact List.length_filterMap_le _ _
      omega
  have h2 : (dnT [] fs t).length ≤ sizeL [t] := by
    obtain ⟨s, l⟩ := t
    unfold dnT
    have := dnL_len l [] 0 (hdN fs) fs.tail
    have e : sizeL [(⟨s, l⟩ : Tm)] = 1 + sizeL l := by simp [sizeL]
    rw [e, List.length_cons]
    simp only
    omega
  exact Nat.le_trans (h1 _) (Nat.mul_le_mul_right _ h2)

/-- The last of a row is written. -/
theorem row_last {w3 : World} {N T n g cap : Nat} {xs : List Value} {z1 z2 u1 u2 : Value} (h : w3.ownsRow N T 2 (.slice (some ⟨g, 0, none⟩) (n + 1) cap) (n + 1) (xs ++ [z1, z2])) (hx : xs.length = n * 2) :
    w3.cell? ⟨g, n * 2, none⟩ = some z1 ∧ w3.cell? ⟨g, n * 2 + 1, none⟩ = some z2 ∧ (∀ i, w3.frozen? ⟨g, i, none⟩ = false) ∧ ∀ wF : World, wF.heap[g]? = ((w3.setCell ⟨g, n * 2, none⟩ u1).setCell ⟨g, n * 2 + 1, none⟩ u2).heap[g]? → wF.ownsRow N T 2 (.slice (some ⟨g, 0, none⟩) (n + 1) cap) (n + 1) (xs ++ [u1, u2]) := by
  obtain ⟨hl, h1⟩ := h
  rcases h1 with ⟨h1, _⟩ | ⟨g', cap', cur, hv, hg, hh, hnc, hcm, hcs, htk⟩
  · cases h1
  · simp at hv
    obtain ⟨rfl, rfl⟩ := hv
    have hlt : n * 2 + 1 < cur.size := by omega
    have c1 : cur.toList[n * 2]? = some z1 := by
      have := congrArg (fun l => l[n * 2]?) htk
      rw [List.getElem?_take_of_lt (by omega), List.getElem?_append_right (by omega), hx] at this
      simpa using this
    have c2 : cur.toList[n * 2 + 1]? = some z2 := by
      have := congrArg (fun l => l[n * 2 + 1]?) htk
      rw [List.getElem?_take_of_lt (by omega), List.getElem?_append_right (by omega), hx] at this
      simpa using this
    refine ⟨by simpa [World.cell?, hh] using c1, by simpa [World.cell?, hh] using c2, fun i => by simp [World.frozen?, hh], fun wF hF => ⟨by simp [hx]; omega, Or.inr ⟨g, cap, (cur.setIfInBounds (n * 2) u1).setIfInBounds (n * 2 + 1) u2, rfl, hg, ?_, hnc, hcm, by simpa using hcs, ?_⟩⟩⟩
    · rw [hF]
      simp [World.setCell, Array.getElem?_modify, hh]
    · rw [Array.toList_setIfInBounds, Array.toList_setIfInBounds, List.take_set, List.take_set, htk]
      rw [List.set_append_right _ _ (by omega), List.set_append_right _ _ (by omega), hx]
      simp

theorem Blk.set1R {w : World} {A T : Nat} {q v : Value} (h : Blk w A #[q] T) : Blk (w.setCell ⟨A, 0, none⟩ v) A #[v] T := by
  unfold Blk at *
  simp [World.setCell, Array.getElem?_modify, h]

/-- The last of the row g is written, and the row is put into the block A. -/
structure FwW (w3 : World) (A g n cap T : Nat) (u1 u2 : Value) (wF : World) : Prop where
  os : wF.os = w3.os
  tape : wF.tape = w3.tape
  output : wF.output = w3.output
  size : wF.heap.size = w3.heap.size
  other : ∀ b, b ≠ g → b ≠ A → wF.heap[b]? = w3.heap[b]?
  box : Blk wF A #[.slice (some ⟨g, 0, none⟩) (n + 1) cap] T
  row : wF.heap[g]? = ((w3.setCell ⟨g, n * 2, none⟩ u1).setCell ⟨g, n * 2 + 1, none⟩ u2).heap[g]?
theorem fw_a {w3 : World} {A g n cap T : Nat} {u1 u2 v : Value} (hne : A ≠ g) (hA : Blk w3 A #[v] T) : FwW w3 A g n cap T u1 u2 (((w3.setCell ⟨g, n * 2, none⟩ u1).setCell ⟨g, n * 2 + 1, none⟩ u2).setCell ⟨A, 0, none⟩ (.slice (some ⟨g, 0, none⟩) (n + 1) cap)) :=
  ⟨rfl, rfl, rfl, by simp [World.setCell], fun b h1 h2 => by rw [Below.heap_setCell _ _ _ _ (by simpa using h2), Below.heap_setCell _ _ _ _ (by simpa using h1), Below.heap_setCell _ _ _ _ (by simpa using h1)], Blk.set1R ((hA.setOther _ _ hne).setOther _ _ hne), Below.heap_setCell _ _ _ _ (by simpa using fun e => hne e.symm)⟩
theorem fw_b {w3 : World} {A g n cap T : Nat} {u1 u2 v : Value} (hne : A ≠ g) (hA : Blk w3 A #[v] T) : FwW w3 A g n cap T u1 u2 (((w3.setCell ⟨A, 0, none⟩ (.slice (some ⟨g, 0, none⟩) (n + 1) cap)).setCell ⟨g, n * 2, none⟩ u1).setCell ⟨g, n * 2 + 1, none⟩ u2) := by
  refine ⟨rfl, rfl, rfl, by simp [World.setCell], fun b h1 h2 => by rw [Below.heap_setCell _ _ _ _ (by simpa using h1), Below.heap_setCell _ _ _ _ (by simpa using h1), Below.heap_setCell _ _ _ _ (by simpa using h2)], ((Blk.set1R hA).setOther _ _ hne).setOther _ _ hne, ?_⟩
  have e : (w3.setCell ⟨A, 0, none⟩ (.slice (some ⟨g, 0, none⟩) (n + 1) cap)).heap[g]? = w3.heap[g]? := Below.heap_setCell _ _ _ _ (by simpa using fun e => hne e.symm)
  simp only [World.setCell, Array.getElem?_modify] at e ⊢
  simp only [e]
theorem own_form {w : World} {N e z n : Nat} {v : Value} {xs : List Value} (h : w.ownsRow N e z v n xs) : ∃ a c, v = .slice a n c := by
  rcases h.2 with ⟨rfl, rfl⟩ | ⟨g, cap, cur, hv, _⟩
  · exact ⟨none, 0, rfl⟩
  · exact ⟨_, _, hv⟩

/-- What a step makes of the term. -/
def outA (t : Tm) (c : Ch) : Tm := putT (outC c.2) c.1.1 t

/-- What is gathered: the row v in the block A; where a step was too great, the answer is told already. -/
def JA (t : Tm) (X K : Nat → Prop) (A R4 R5 L : Nat) (r rd : Loop) (W0 : World) : Tk Ch := fun pre s f W =>
  (∀ b, K b → b < W0.heap.size ∧ ¬ f b) ∧ W0.heap.size ≤ W.heap.size ∧ (∀ b, K b → W.heap[b]? = W0.heap[b]?) ∧ W.heap[L]? = some (.loop (if s = true then r else rd)) ∧ Blk W R4 #[.slice none 0 0] 25 ∧ Blk W R5 #[.int .i64 (if s = true then 0 else 8)] 30 ∧
  (∃ (v : Value) (l : List Tm) (xs : List Value) (E : Nat → Prop), (∀ b, f b ↔ b = L ∨ b = A ∨ b = R4 ∨ b = R5 ∨ v.ownBlock = some b ∨ E b) ∧ (∀ b, E b → W0.heap.size ≤ b ∧ b < W.heap.size ∧ v.ownBlock ≠ some b) ∧ Blk W A #[v] 25 ∧ W.ownsRow W0.heap.size 27 2 v l.length xs ∧ RowT W (fun b => X b ∨ E b) l xs ∧ (s = true → l = pre.map (outA t))) ∧
  (s = true → ∀ c ∈ pre, ¬ isFull t c.1 c.2) ∧ (s = false → ∃ c ∈ pre, isFull t c.1 c.2)

theorem JA.ok {t : Tm} {X K : Nat → Prop} {A R4 R5 L : Nat} {r rd : Loop} {W0 : World} (hXK : ∀ b, X b → K b) : TkOk (JA t X K A R4 R5 L r rd W0) K where
  inside := by
    rintro pre s f W ⟨hK, hz, hC, hL, h4, h5, ⟨v, l, xs, E, hf, hE, hA, ho, hr, hl⟩, h1, h2⟩ b hb
    rcases hb with hb | hb
    · rcases (hf b).1 hb with h | h | h | h | h | h
      · subst h; exact (Array.getElem?_eq_some_iff.1 hL).1
      · subst h; exact hA.lt
      · subst h; exact h4.lt
      · subst h; exact h5.lt
      · exact (ho.lt b h).2
      · exact (hE b h).2.1
    · have := (hK b hb).1; omega
  apart := by
    rintro pre s f W ⟨hK, hz, hC, hL, h4, h5, ⟨v, l, xs, E, hf, hE, hA, ho, hr, hl⟩, h1, h2⟩ b hb
    exact (hK b hb).2
  abide := by
    rintro pre s f W W' ⟨hK, hz, hC, hL, h4, h5, ⟨v, l, xs, E, hf, hE, hA, ho, hr, hl⟩, h1, h2⟩ hs hk
    refine ⟨hK, Nat.le_trans hz hs, fun b hb => (hk b (Or.inr hb)).trans (hC b hb), (hk L (Or.inl ((hf L).2 (Or.inl rfl)))).trans hL, (hk R4 (Or.inl ((hf R4).2 (Or.inr (Or.inr (Or.inl rfl)))))).trans h4, (hk R5 (Or.inl ((hf R5).2 (Or.inr (Or.inr (Or.inr (Or.inl rfl))))))).trans h5, ⟨v, l, xs, E, hf, fun b hb => ⟨(hE b hb).1, Nat.lt_of_lt_of_le (hE b hb).2.1 hs, (hE b hb).2.2⟩, (hk A (Or.inl ((hf A).2 (Or.inr (Or.inl rfl))))).trans hA, ownsRow_at ho fun g hg => hk g (Or.inl ((hf g).2 (Or.inr (Or.inr (Or.inr (Or.inr (Or.inl hg))))))), hr.imp fun a l hsl => hsl.kept fun b hb => ?_, hl⟩, h1, h2⟩
    rcases hb with hb | hb
    · exact hk b (Or.inr (hXK b hb))
    · exact hk b (Or.inl ((hf b).2 (Or.inr (Or.inr (Or.inr (Or.inr (Or.inr hb)))))))

def AllPost (rs : List Pr) (t : Tm) (X : Nat → Prop) (w : World) (e : Ending) (w' : World) : Prop :=
  Below w.heap.size w w' ∧ (((∀ c ∈ chL rs t [], ¬ isFull t c.1 c.2) ∧ ∃ v xs, e = .returned (.tuple #[v, .int .i64 0]) ∧ w'.ownsRow w.heap.size 27 2 v ((chL rs t []).map (outA t)).length xs ∧ RowT w' (fun b => (X b ∧ b < w.heap.size) ∨ (w.heap.size ≤ b ∧ v.ownBlock ≠ some b)) ((chL rs t []).map (outA t)) xs) ∨
    ((∃ c ∈ chL rs t [], isFull t c.1 c.2) ∧ e = .returned (.tuple #[.slice none 0 0, .int .i64 8])))

set_option maxHeartbeats 2000000 in
theorem all_any (rs : List Pr) (t : Tm) (u : Value) (aa : Option Addr) (ca : Nat) (w : World) (X0 : Nat → Prop) (hu : QV w X0 u rs) (hs : Sl w X0 aa t.args) (hz : sizeL [t] ≤ 2000) (hrs : rs.length ≤ 400) :
    Calls Try.prog 18 #[u, .agg #[.string t.name, .slice aa t.args.length ca]] w fun e w' => AllPost rs t X0 w e w' := by
  obtain ⟨X, hX, hXX, hu, hs⟩ : ∃ X : Nat → Prop, (∀ b, X b → b < w.heap.size) ∧ (∀ b, X b → X0 b) ∧ QV w X u rs ∧ Sl w X aa t.args := ⟨fun b => X0 b ∧ b < w.heap.size, fun _ h => h.2, fun _ h => h.1, hu.mono fun b h1 h2 => ⟨h1, h2⟩, hs.mono fun b h1 h2 => ⟨h1, h2⟩⟩
  have HX := hide hX
  have HXX := hide hXX
  have HU := hide hu
  have HS := hide hs
  obtain ⟨ua, uc, rfl, hul, _⟩ := hu
  clear hX hXX hs
  refine (callsIn_wide (n := 3)).1 ?_
  refine callsIn_of_wp_marks Try.func18 rfl trivial ?_ rfl
  simp only [Try.ntmps18, List.size_toArray, List.length_cons, List.length_nil, Nat.reduceAdd, Nat.reduceSub, Array.replicate_succ, Array.replicate_zero, List.push_toArray, List.append_toArray, List.nil_append, List.cons_append]
  have hf1 : Fence.wide.fn 29 := trivial
  have hf2 : Fence.wide.fn 28 := trivial
  gi_wp2_with (first | (gi_at_call 29; refine (callsIn_wide.2 (downF_any _ _ _ _ _ _ _ _)).mono ?_; rintro e w' ⟨rfl, rfl⟩) | (gi_at_call 28; refine (callsIn_wide.2 (chancesF_any _ _ _ _ _ _ _)).mono ?_; rintro e w' ⟨rfl, rfl⟩))
  refine wp_range2 (gf := 42) (lb := #[.pointer (some ⟨w.heap.size + 7, 0, none⟩), .pointer (some ⟨w.heap.size + 6, 0, none⟩)]) rfl (enters_of Try.func42 (by kernel_rfl) rfl) ?_
  intro r hr1 hr2 hr3 hr4 hr5 hr6
  have hz8 : ((((((((w.alloc (.cells #[.string t.name, .slice aa t.args.length ca] 27)).alloc (.cells #[.slice none 0 0] 25)).alloc (.cells #[.int .i64 0] 30)).alloc (.cells #[.slice none 0 0] 25)).alloc (.cells #[.string t.name, .slice aa t.args.length ca] 27)).alloc (.cells #[.slice none 0 0] 22)).alloc (.cells #[.slice ua rs.length uc] 23)).alloc (.cells #[.func (.func 44) #[] #[.pointer (some ⟨w.heap.size + 4, 0, none⟩), .pointer (some ⟨w.heap.size + 5, 0, none⟩)]] 65)).heap.size = w.heap.size + 8 := by simp
  have hW10 : ((((((((((w.alloc (.cells #[.string t.name, .slice aa t.args.length ca] 27)).alloc (.cells #[.slice none 0 0] 25)).alloc (.cells #[.int .i64 0] 30)).alloc (.cells #[.slice none 0 0] 25)).alloc (.cells #[.string t.name, .slice aa t.args.length ca] 27)).alloc (.cells #[.slice none 0 0] 22)).alloc (.cells #[.slice ua rs.length uc] 23)).alloc (.cells #[.func (.func 44) #[] #[.pointer (some ⟨w.heap.size + 4, 0, none⟩), .pointer (some ⟨w.heap.size + 5, 0, none⟩)]] 65)).alloc (.deferred (some []))).alloc (.loop r)) = allocs w [(.cells #[.string t.name, .slice aa t.args.length ca] 27 : Obj), (.cells #[.slice none 0 0] 25 : Obj), (.cells #[.int .i64 0] 30 : Obj), (.cells #[.slice none 0 0] 25 : Obj), (.cells #[.string t.name, .slice aa t.args.length ca] 27 : Obj), (.cells #[.slice none 0 0] 22 : Obj), (.cells #[.slice ua rs.length uc] 23 : Obj), (.cells #[.func (.func 44) #[] #[.pointer (some ⟨w.heap.size + 4, 0, none⟩), .pointer (some ⟨w.heap.size + 5, 0, none⟩)]] 65 : Obj), (.deferred (some []) : Obj), (.loop r : Obj)] := rfl
  rw [hz8]
  have HAF := hide (allocs_facts [(.cells #[.string t.name, .slice aa t.args.length ca] 27 : Obj), (.cells #[.slice none 0 0] 25 : Obj), (.cells #[.int .i64 0] 30 : Obj), (.cells #[.slice none 0 0] 25 : Obj), (.cells #[.string t.name, .slice aa t.args.length ca] 27 : Obj), (.cells #[.slice none 0 0] 22 : Obj), (.cells #[.slice ua rs.length uc] 23 : Obj), (.cells #[.func (.func 44) #[] #[.pointer (some ⟨w.heap.size + 4, 0, none⟩), .pointer (some ⟨w.heap.size + 5, 0, none⟩)]] 65 : Obj), (.deferred (some []) : Obj), (.loop r : Obj)] w)
  rw [← hW10] at HAF
  clear hW10
  generalize ((((((((((w.alloc (.cells #[.string t.name, .slice aa t.args.length ca] 27)).alloc (.cells #[.slice none 0 0] 25)).alloc (.cells #[.int .i64 0] 30)).alloc (.cells #[.slice none 0 0] 25)).alloc (.cells #[.string t.name, .slice aa t.args.length ca] 27)).alloc (.cells #[.slice none 0 0] 22)).alloc (.cells #[.slice ua rs.length uc] 23)).alloc (.cells #[.func (.func 44) #[] #[.pointer (some ⟨w.heap.size + 4, 0, none⟩), .pointer (some ⟨w.heap.size + 5, 0, none⟩)]] 65)).alloc (.deferred (some []))).alloc (.loop r)) = W5 at *
  have hz5 : W5.heap.size = w.heap.size + 10 := HAF.out.2.1
  have HB5 : Hid (Below w.heap.size w W5) := HAF.out.1
  have H0 : Hid (Blk W5 w.heap.size #[.string t.name, .slice aa t.args.length ca] 27) := HAF.out.2.2 0 _ rfl
  have H1 : Hid (Blk W5 (w.heap.size + 1) #[.slice none 0 0] 25) := HAF.out.2.2 1 _ rfl
  have H2 : Hid (Blk W5 (w.heap.size + 2) #[.int .i64 0] 30) := HAF.out.2.2 2 _ rfl
  have H3 : Hid (Blk W5 (w.heap.size + 3) #[.slice none 0 0] 25) := HAF.out.2.2 3 _ rfl
  have H4 : Hid (Blk W5 (w.heap.size + 4) #[.string t.name, .slice aa t.args.length ca] 27) := HAF.out.2.2 4 _ rfl
  have H5 : Hid (Blk W5 (w.heap.size + 5) #[.slice none 0 0] 22) := HAF.out.2.2 5 _ rfl
  have H6 : Hid (Blk W5 (w.heap.size + 6) #[.slice ua rs.length uc] 23) := HAF.out.2.2 6 _ rfl
  have H7 : Hid (Blk W5 (w.heap.size + 7) #[.func (.func 44) #[] #[.pointer (some ⟨w.heap.size + 4, 0, none⟩), .pointer (some ⟨w.heap.size + 5, 0, none⟩)]] 65) := HAF.out.2.2 7 _ rfl
  have H8 : Hid (W5.heap[w.heap.size + 8]? = some (.deferred (some []))) := HAF.out.2.2 8 _ rfl
  have H9 : Hid (W5.heap[w.heap.size + 9]? = some (.loop r)) := HAF.out.2.2 9 _ rfl
  clear HAF
  obtain ⟨K, hK⟩ : ∃ K : Nat → Prop, K = fun b => X b ∨ b = w.heap.size := ⟨_, rfl⟩
  have HKX : Hid (∀ b, X b → K b) := fun b hb => by rw [hK]; exact Or.inl hb
  have HKT : Hid (K w.heap.size) := by unfold Hid; rw [hK]; exact Or.inr rfl
  have HKl : Hid (∀ b, K b → b ≤ w.heap.size) := fun b hb => by
    rw [hK] at hb
    rcases hb with h | h
    · have := HX.out b h; omega
    · omega
  clear hK
  obtain ⟨rd, hrd⟩ : ∃ rd : Loop, rd = { r with state := .done, pending := some .ret } := ⟨_, rfl⟩
  obtain ⟨rb, hrb⟩ : ∃ rb : Loop, rb = { r with state := .busy } := ⟨_, rfl⟩
  have hok : TkOk (JA t X K (w.heap.size + 3) (w.heap.size + 1) (w.heap.size + 2) (w.heap.size + 9) r rd W5) K := JA.ok HKX.out
  have RH : Rnd (w.heap.size + 9) LpC (JA t X K (w.heap.size + 3) (w.heap.size + 1) (w.heap.size + 2) (w.heap.size + 9) r rd W5) (chL rs t []) := by
    have HR1 := hide hr1
    have HR2 := hide hr2
    have HR3 := hide hr3
    have HR4 := hide hr4
    have HR5 := hide hr5
    have HR6 := hide hr6
    clear hr1 hr2 hr3 hr4 hr5 hr6 hok hz8
    intro n pre c args Z f W hpfx hj hl hZ
    have hat : atT t c.1.1 = some c.1.2 := chL_at (hpfx.subset (by simp))
    have hlen : pre.length ≤ 1000000 := by
      have h1 := hpfx.length_le
      have h2 := chL_len rs t []
      have h3 : sizeL [t] * rs.length ≤ 2000 * 400 := Nat.mul_le_mul hz hrs
      rw [List.length_append] at h1
      omega
    clear hpfx
    obtain ⟨hK1, hzW, hC, hL, h4, h5, ⟨v, l, xs, E, hf, hE, hA, ho, hr, hll⟩, hnf, -⟩ := hj
    obtain ⟨ja, jc, xa, xc, ra, rc, q, Lm, rfl, hp, hxs, hrs', hq, hen⟩ := hl
    simp only [if_true] at hL h5
    have HLL := hide (hll rfl)
    have HNF := hide (hnf rfl)
    have HF := hide hf
    have HE := hide hE
    have HA := hide hA
    have HO := hide ho
    have HRW := hide hr
    have HK1 := hide hK1
    have HC := hide hC
    have H4W := hide h4
    have H5W := hide h5
    have HP := hide hp
    have HXS := hide hxs
    have HRS := hide hrs'
    have HEN := hide hen
    have HZ := hide hZ
    have HAT := hide hat
    have hlL : w.heap.size + 9 < W.heap.size := (Array.getElem?_eq_some_iff.1 hL).1
    clear hf hE hA ho hr hK1 hC h4 h5 hp hxs hrs' hen hZ hat hll hnf
    refine yield_two hrb hrd HR5.out HR6.out HR4.out HR3.out hL HR1.out HR2.out rfl ?_
    have hL2 : (W.alloc (.cells #[.slice ja c.1.1.length jc, .string c.1.2.name, .slice xa c.1.2.args.length xc, .string c.2.1.r.name, .slice ra c.2.1.r.args.length rc, .map (some q)] 71)).heap[w.heap.size + 9]? = some (.loop r) := (Below.heap_alloc _ _ _ hlL).trans hL
    have kV : ∀ b, b < W.heap.size → b ≠ w.heap.size + 9 → ((W.alloc (.cells #[.slice ja c.1.1.length jc, .string c.1.2.name, .slice xa c.1.2.args.length xc, .string c.2.1.r.name, .slice ra c.2.1.r.args.length rc, .map (some q)] 71)).putObj (w.heap.size + 9) (.loop rb)).heap[b]? = W.heap[b]? := fun b hb hne => (World.putObj_heap_other hne).trans (Below.heap_alloc _ _ _ hb)
    have hzV : ((W.alloc (.cells #[.slice ja c.1.1.length jc, .string c.1.2.name, .slice xa c.1.2.args.length xc, .string c.2.1.r.name, .slice ra c.2.1.r.args.length rc, .map (some q)] 71)).putObj (w.heap.size + 9) (.loop rb)).heap.size = W.heap.size + 1 := by simp
    have hCB : Blk ((W.alloc (.cells #[.slice ja c.1.1.length jc, .string c.1.2.name, .slice xa c.1.2.args.length xc, .string c.2.1.r.name, .slice ra c.2.1.r.args.length rc, .map (some q)] 71)).putObj (w.heap.size + 9) (.loop rb)) W.heap.size #[.slice ja c.1.1.length jc, .string c.1.2.name, .slice xa c.1.2.args.length xc, .string c.2.1.r.name, .slice ra c.2.1.r.args.length rc, .map (some q)] 71 := (World.putObj_heap_other (by omega)).trans (Blk.new W _ _)
    have hLV : ((W.alloc (.cells #[.slice ja c.1.1.length jc, .string c.1.2.name, .slice xa c.1.2.args.length xc, .string c.2.1.r.name, .slice ra c.2.1.r.args.length rc, .map (some q)] 71)).putObj (w.heap.size + 9) (.loop rb)).heap[w.heap.size + 9]? = some (.loop rb) := World.putObj_heap_same (by simp; omega)
    have hT0 : Blk ((W.alloc (.cells #[.slice ja c.1.1.length jc, .string c.1.2.name, .slice xa c.1.2.args.length xc, .string c.2.1.r.name, .slice ra c.2.1.r.args.length rc, .map (some q)] 71)).putObj (w.heap.size + 9) (.loop rb)) w.heap.size #[.string t.name, .slice aa t.args.length ca] 27 := (kV _ (by omega) (by omega)).trans ((HC.out _ HKT.out).trans H0.out)
    have c0 : ((W.alloc (.cells #[.slice ja c.1.1.length jc, .string c.1.2.name, .slice xa c.1.2.args.length xc, .string c.2.1.r.name, .slice ra c.2.1.r.args.length rc, .map (some q)] 71)).putObj (w.heap.size + 9) (.loop rb)).cell? ⟨W.heap.size, 0, none⟩ = some (.slice ja c.1.1.length jc) := hCB.cell 0
    have c1 : ((W.alloc (.cells #[.slice ja c.1.1.length jc, .string c.1.2.name, .slice xa c.1.2.args.length xc, .string c.2.1.r.name, .slice ra c.2.1.r.args.length rc, .map (some q)] 71)).putObj (w.heap.size + 9) (.loop rb)).cell? ⟨W.heap.size, 1, none⟩ = some (.string c.1.2.name) := hCB.cell 1
    have c2 : ((W.alloc (.cells #[.slice ja c.1.1.length jc, .string c.1.2.name, .slice xa c.1.2.args.length xc, .string c.2.1.r.name, .slice ra c.2.1.r.args.length rc, .map (some q)] 71)).putObj (w.heap.size + 9) (.loop rb)).cell? ⟨W.heap.size, 2, none⟩ = some (.slice xa c.1.2.args.length xc) := hCB.cell 2
    have c3 : ((W.alloc (.cells #[.slice ja c.1.1.length jc, .string c.1.2.name, .slice xa c.1.2.args.length xc, .string c.2.1.r.name, .slice ra c.2.1.r.args.length rc, .map (some q)] 71)).putObj (w.heap.size + 9) (.loop rb)).cell? ⟨W.heap.size, 3, none⟩ = some (.string c.2.1.r.name) := hCB.cell 3
    have c4 : ((W.alloc (.cells #[.slice ja c.1.1.length jc, .string c.1.2.name, .slice xa c.1.2.args.length xc, .string c.2.1.r.name, .slice ra c.2.1.r.args.length rc, .map (some q)] 71)).putObj (w.heap.size + 9) (.loop rb)).cell? ⟨W.heap.size, 4, none⟩ = some (.slice ra c.2.1.r.args.length rc) := hCB.cell 4
    have c5 : ((W.alloc (.cells #[.slice ja c.1.1.length jc, .string c.1.2.name, .slice xa c.1.2.args.length xc, .string c.2.1.r.name, .slice ra c.2.1.r.args.length rc, .map (some q)] 71)).putObj (w.heap.size + 9) (.loop rb)).cell? ⟨W.heap.size, 5, none⟩ = some (.map (some q)) := hCB.cell 5
    have t0 : ((W.alloc (.cells #[.slice ja c.1.1.length jc, .string c.1.2.name, .slice xa c.1.2.args.length xc, .string c.2.1.r.name, .slice ra c.2.1.r.args.length rc, .map (some q)] 71)).putObj (w.heap.size + 9) (.loop rb)).cell? ⟨w.heap.size, 0, none⟩ = some (.string t.name) := hT0.cell 0
    have t1 : ((W.alloc (.cells #[.slice ja c.1.1.length jc, .string c.1.2.name, .slice xa c.1.2.args.length xc, .string c.2.1.r.name, .slice ra c.2.1.r.args.length rc, .map (some q)] 71)).putObj (w.heap.size + 9) (.loop rb)).cell? ⟨w.heap.size, 1, none⟩ = some (.slice aa t.args.length ca) := hT0.cell 1
    have HOSV : Hid (((W.alloc (.cells #[.slice ja c.1.1.length jc, .string c.1.2.name, .slice xa c.1.2.args.length xc, .string c.2.1.r.name, .slice ra c.2.1.r.args.length rc, .map (some q)] 71)).putObj (w.heap.size + 9) (.loop rb)).os = W.os ∧ ((W.alloc (.cells #[.slice ja c.1.1.length jc, .string c.1.2.name, .slice xa c.1.2.args.length xc, .string c.2.1.r.name, .slice ra c.2.1.r.args.length rc, .map (some q)] 71)).putObj (w.heap.size + 9) (.loop rb)).tape = W.tape ∧ ((W.alloc (.cells #[.slice ja c.1.1.length jc, .string c.1.2.name, .slice xa c.1.2.args.length xc, .string c.2.1.r.name, .slice ra c.2.1.r.args.length rc, .map (some q)] 71)).putObj (w.heap.size + 9) (.loop rb)).output = W.output) := ⟨rfl, rfl, rfl⟩
    have HLV := hide hLV
    have HKV := hide kV
    clear hrb hrd hCB hT0 hLV kV
    gi_wp2
    refine ⟨(Array.getElem?_eq_some_iff.1 hL2).2, ?_⟩
    clear hL2
    generalize ((W.alloc (.cells #[.slice ja c.1.1.length jc, .string c.1.2.name, .slice xa c.1.2.args.length xc, .string c.2.1.r.name, .slice ra c.2.1.r.args.length rc, .map (some q)] 71)).putObj (w.heap.size + 9) (.loop rb)) = V at *
    gi_wp2
    clear c0 c1 c2 c3 c4 c5 t0 t1
    have hKne : ∀ b, K b → b < W.heap.size ∧ b ≠ w.heap.size + 9 := fun b hb => by have := HKl.out b hb; omega
    have hZne : ∀ b, Z b → b < W.heap.size ∧ b ≠ w.heap.size + 9 := fun b hb => ⟨(HZ.out b hb).1, fun h => (HZ.out b hb).2 ((HF.out b).2 (Or.inl h))⟩
    have hSV : Sl V X aa t.args := ((HS.out.later HB5.out).kept fun b hb => (HKV.out b (hKne b (HKX.out b hb)).1 (hKne b (HKX.out b hb)).2).trans (HC.out b (HKX.out b hb)))
    refine ⟨trivial, (fun h => by simp [Fence.wide] at h), ?_⟩
    refine (CallsIn.inRound _ (callsIn_wide.2 (take_step c.1 c.2 t ja xa ra aa jc xc rc ca q Lm V X Z (HP.out.kept fun b hb => HKV.out b (hZne b hb).1 (hZne b hb).2) (HXS.out.kept fun b hb => HKV.out b (hZne b hb).1 (hZne b hb).2) (HRS.out.kept fun b hb => HKV.out b (hZne b hb).1 (hZne b hb).2) ⟨HEN.out.1.kept (HKV.out q (hZne q hq).1 (hZne q hq).2), HEN.out.2.imp fun a l hs => hs.kept fun b hb => HKV.out b (hZne b hb).1 (hZne b hb).2⟩ hSV HAT.out hz))).mono ?_
    clear hSV
    rintro e w9 ⟨hb9, ⟨hnf, a9, c9, rfl, hs9⟩ | ⟨hfl, rfl⟩⟩
    · have hz9 := hb9.size
      have k9a : ∀ b, b < W.heap.size → b ≠ w.heap.size + 9 → w9.heap[b]? = W.heap[b]? := fun b hb hne => (hb9.block b (by omega)).trans (HKV.out b hb hne)
      have e0 : putT (outC c.2) c.1.1 t = outA t c := rfl
      rw [e0] at hs9 ⊢
      have HS9 := hide hs9
      have HNF9 := hide hnf
      have HB9 := hide hb9
      have HK9 := hide k9a
      have hmo : Try.prog.follows .mixedOrders = true := by kernel_rfl
      have hBA : Blk w9 (w.heap.size + 3) #[v] 25 := (k9a _ HA.out.lt (by omega)).trans HA.out
      have HBA := hide hBA
      have hAl := hBA.lt
      have hn1 : l.length ≤ 1000000 := by rw [HLL.out, List.length_map]; exact hlen
      have hxl : xs.length = l.length * 2 := HRW.out.len
      have hltv := HO.out.lt
      have hOV : (w9.alloc (.cells #[.string (outA t c).name, .slice a9 (outA t c).args.length c9] 27)).drew.ownsRow W5.heap.size 27 2 v l.length xs := ownsRow_at HO.out fun g hg => by
        have h1 := hltv g hg
        exact (Below.heap_alloc _ _ _ (by omega)).trans (k9a g h1.2 (by omega))
      clear hs9 hnf hb9 k9a hBA e0
      gi_wp2
      have XB8 := hide ((Blk.new w9 #[.string (outA t c).name, .slice a9 (outA t c).args.length c9] 27))
      have A8 := hide (HBA.out.alloc (.cells #[.string (outA t c).name, .slice a9 (outA t c).args.length c9] 27))
      have hz8 : (w9.alloc (.cells #[.string (outA t c).name, .slice a9 (outA t c).args.length c9] 27)).heap.size = w9.heap.size + 1 := by simp
      have HW8 : Hid (∀ b, b < w9.heap.size → (w9.alloc (.cells #[.string (outA t c).name, .slice a9 (outA t c).args.length c9] 27)).heap[b]? = w9.heap[b]?) := fun b hb => Below.heap_alloc _ _ _ hb
      have HOS8 : Hid ((w9.alloc (.cells #[.string (outA t c).name, .slice a9 (outA t c).args.length c9] 27)).os = w9.os ∧ (w9.alloc (.cells #[.string (outA t c).name, .slice a9 (outA t c).args.length c9] 27)).tape = w9.tape ∧ (w9.alloc (.cells #[.string (outA t c).name, .slice a9 (outA t c).args.length c9] 27)).output = w9.output) := ⟨rfl, rfl, rfl⟩
      have HOV := hide hOV
      clear hOV
      generalize (w9.alloc (.cells #[.string (outA t c).name, .slice a9 (outA t c).args.length c9] 27)) = V8 at *
      obtain ⟨i0, hi, hz0, hz1, hz2⟩ := info_parts Try.infoTerm
      obtain ⟨g, cap, w3, hrun, hown, hgrow, hgat, hglt⟩ := run_append_lies (P := Try.prog) (w := (V8.alloc (.cells #[.string ⟨#[]⟩, .slice none 0 0] 27)).drew) 25 25 W5.heap.size 27 i0 _ 2 40 Try.underlying25 hi hz0 hz1 hz2 rfl (by decide) v l.length xs (ownsRow_at HOV.out fun g hg => Below.heap_alloc _ _ _ (HOV.out.lt g hg).2)
        ⟨V8.heap.size, 0, none⟩ 1 1 [.string ⟨#[]⟩, .slice none 0 0] rfl (cell_term_new V8 _ _ _) (fun y hy => by simp at hy; rcases hy with rfl | rfl <;> rfl) (by decide) (by unfold maxLen; omega) (by omega) (by simp; omega) _ rfl
      have HRUN := hide hrun
      obtain ⟨q1, q2, q3, hlast⟩ := row_last (u1 := .string (outA t c).name) (u2 := .slice a9 (outA t c).args.length c9) hown hxl
      have hgN : W5.heap.size ≤ g := by
        rcases hgat with e | e
        · exact (HO.out.lt g e).1
        · simp at e; omega
      have hgv : ∀ b, b < V8.heap.size + 1 → v.ownBlock ≠ some b → w3.heap[b]? = (V8.alloc (.cells #[.string ⟨#[]⟩, .slice none 0 0] 27)).drew.heap[b]? := fun b hb hne => hgrow.block b (by simp; omega) (fun e => hne e.symm)
      have hz3 : V8.heap.size + 1 ≤ w3.heap.size := by have := hgrow.size; simp at this; omega
      have hnv : ∀ b, b < W5.heap.size → v.ownBlock ≠ some b := fun b hb e => by have := (hltv b e).1; omega
      have hA3 : Blk w3 (w.heap.size + 3) #[v] 25 := (hgv _ (by omega) (hnv _ (by omega))).trans ((A8.out.alloc _).drewN 1)
      have hX3 : Blk w3 w9.heap.size #[.string (outA t c).name, .slice a9 (outA t c).args.length c9] 27 := (hgv _ (by omega) (fun e => by have := (hltv _ e).2; omega)).trans ((XB8.out.alloc _).drewN 1)
      obtain ⟨va, vc, hv⟩ := own_form HO.out
      have hAg : w.heap.size + 3 ≠ g := by omega
      have hXg : w9.heap.size ≠ g := by
        rcases hgat with e | e
        · have := (hltv _ e).2; omega
        · simp at e; omega
      have a0 : V8.drew.cell? ⟨w.heap.size + 1 + 1 + 1, 0, none⟩ = some (.slice va l.length vc) := by rw [← hv]; exact (A8.out.drewN 1).cell 0
      have a1 : (V8.alloc (.cells #[.string ⟨#[]⟩, .slice none 0 0] 27)).drew.cell? ⟨w.heap.size + 1 + 1 + 1, 0, none⟩ = some (.slice va l.length vc) := by rw [← hv]; exact ((A8.out.alloc _).drewN 1).cell 0
      have a2 : (V8.alloc (.cells #[.string ⟨#[]⟩, .slice none 0 0] 27)).cell? ⟨w.heap.size + 1 + 1 + 1, 0, none⟩ = some (.slice va l.length vc) := by rw [← hv]; exact (A8.out.alloc _).cell 0
      have a4 : V8.cell? ⟨w.heap.size + 1 + 1 + 1, 0, none⟩ = some (.slice va l.length vc) := by rw [← hv]; exact A8.out.cell 0
      have a3 : w3.cell? ⟨w.heap.size + 1 + 1 + 1, 0, none⟩ = some v := hA3.cell 0
      have af : w3.frozen? ⟨w.heap.size + 1 + 1 + 1, 0, none⟩ = false := hA3.frozen 0
      have XD := hide (XB8.out.drewN 1)
      have XZ := hide ((XB8.out.alloc (.cells #[.string ⟨#[]⟩, .slice none 0 0] 27)).drewN 1)
      have X3 := hide hX3
      have HRUN2 : Hid ((Builtin.append_ #[25, 25] 25 #[.slice va l.length vc, .slice (some ⟨w9.heap.size + 1, 0, none⟩) 1 1]).run Try.prog (V8.alloc (.cells #[.string ⟨#[]⟩, .slice none 0 0] 27)).drew = .ok (.slice (some ⟨g, 0, none⟩) (l.length + 1) cap) w3) := by unfold Hid; rw [← hv, ← hz8]; exact HRUN.out
      have HGO : Hid (w3.os = V8.os ∧ w3.tape = V8.tape ∧ w3.output = V8.output) := ⟨hgrow.os, hgrow.tape, hgrow.output⟩
      have hl5 : (l.length : Int) < (l.length : Int) + 1 := by omega
      have X36 := hide ((X3.out.setOther (l.length * 2) (.string (outA t c).name) hXg).setOther (l.length * 2 + 1) (.slice a9 (outA t c).args.length c9) hXg)
      have hXA : w9.heap.size ≠ w.heap.size + 1 + 1 + 1 := by omega
      have X367 := hide (X36.out.setOther 0 (.slice (some ⟨g, 0, none⟩) (l.length + 1) cap) hXA)
      have X37 := hide (X3.out.setOther 0 (.slice (some ⟨g, 0, none⟩) (l.length + 1) cap) hXA)
      have X376 := hide ((X37.out.setOther (l.length * 2) (.string (outA t c).name) hXg).setOther (l.length * 2 + 1) (.slice a9 (outA t c).args.length c9) hXg)
      have HFIN : Hid (∀ wF, FwW w3 (w.heap.size + 3) g l.length cap 25 (.string (outA t c).name) (.slice a9 (outA t c).args.length c9) wF → wF.heap[w.heap.size + 9]? = some (.loop rb) ∧ ∃ f', JA t X K (w.heap.size + 3) (w.heap.size + 1) (w.heap.size + 2) (w.heap.size + 9) r rd W5 (pre ++ [c]) true f' (wF.putObj (w.heap.size + 9) (.loop r)) ∧ ExQ f W (wF.putObj (w.heap.size + 9) (.loop r)) ∧ ∀ b, f' b → f b ∨ W.heap.size ≤ b) := fun wF hF => by
        have hbg : ∀ b, b < V8.heap.size + 1 → v.ownBlock ≠ some b → b ≠ g := fun b hb hne e => by
          rcases hgat with h | h
          · rw [e] at hne; exact hne h
          · simp at h; omega
        have kF9 : ∀ b, b < w9.heap.size → b ≠ w.heap.size + 3 → v.ownBlock ≠ some b → wF.heap[b]? = w9.heap[b]? := fun b hb h3 hne => (hF.other b (hbg b (by omega) hne) h3).trans ((hgv b (by omega) hne).trans ((Below.heap_alloc V8 _ b (by omega)).trans (HW8.out b hb)))
        have kF : ∀ b, b < W.heap.size → b ≠ w.heap.size + 9 → b ≠ w.heap.size + 3 → v.ownBlock ≠ some b → wF.heap[b]? = W.heap[b]? := fun b hb h9 h3 hne => (kF9 b (by omega) h3 hne).trans (HK9.out b hb h9)
        have hzF : wF.heap.size = w3.heap.size := hF.size
        have hLv : v.ownBlock ≠ some (w.heap.size + 9) := hnv _ (by omega)
        have po : ∀ b, b ≠ w.heap.size + 9 → (wF.putObj (w.heap.size + 9) (.loop r)).heap[b]? = wF.heap[b]? := fun b hb => World.putObj_heap_other hb
        have hKK : ∀ b, K b → b < W.heap.size ∧ b ≠ w.heap.size + 9 ∧ b ≠ w.heap.size + 3 ∧ v.ownBlock ≠ some b := fun b hb => by
          have := HKl.out b hb
          exact ⟨by omega, by omega, by omega, hnv b (by omega)⟩
        refine ⟨(kF9 _ (by omega) (by omega) hLv).trans ((HB9.out.block _ (by omega)).trans HLV.out), fun b => b = w.heap.size + 9 ∨ b = w.heap.size + 3 ∨ b = w.heap.size + 1 ∨ b = w.heap.size + 2 ∨ (Value.slice (some ⟨g, 0, none⟩) (l.length + 1) cap).ownBlock = some b ∨ ((E b ∨ W.heap.size ≤ b) ∧ b < wF.heap.size ∧ b ≠ g), ⟨fun b hb => ⟨(HK1.out b hb).1, fun h => ?_⟩, by simp; omega, fun b hb => ?_, World.putObj_heap_same (by omega), (po _ (by omega)).trans ((kF _ H4W.out.lt (by omega) (by omega) (hnv _ (by omega))).trans H4W.out), (po _ (by omega)).trans ((kF _ H5W.out.lt (by omega) (by omega) (hnv _ (by omega))).trans H5W.out), ⟨.slice (some ⟨g, 0, none⟩) (l.length + 1) cap, l ++ [outA t c], xs ++ [.string (outA t c).name, .slice a9 (outA t c).args.length c9], fun b => (E b ∨ W.heap.size ≤ b) ∧ b < wF.heap.size ∧ b ≠ g, fun b => Iff.rfl, fun b hb => ⟨?_, by simpa using hb.2.1, fun e => hb.2.2 (by simpa [Value.ownBlock] using e.symm)⟩, (po _ (by omega)).trans hF.box, ?_, ?_, fun _ => by rw [HLL.out]; simp⟩, fun _ c' hc' => ?_, fun h => by cases h⟩, ⟨?_, ?_, ?_, by simp; omega, fun b hb hn => ?_⟩, fun b hb => ?_⟩
        · have h1 := HKl.out b hb
          rcases h with h | h | h | h | h | h
          · omega
          · omega
          · omega
          · omega
          · simp [Value.ownBlock] at h; omega
          · rcases h.1 with h | h
            · have := (HE.out b h).1; omega
            · omega
        · have h1 := hKK b hb
          exact (po b h1.2.1).trans ((kF b h1.1 h1.2.1 h1.2.2.1 h1.2.2.2).trans (HC.out b hb))
        · rcases hb.1 with h | h
          · exact (HE.out b h).1
          · omega
        · have h1 := hlast (wF.putObj (w.heap.size + 9) (.loop r)) ((po g (by omega)).trans hF.row)
          rw [List.length_append, List.length_singleton]
          exact h1
        · refine RowT.append (HRW.out.imp fun a' k' hs' => ?_) ⟨a9, c9, [], rfl, ?_, rfl⟩
          · refine ((hs'.mono (Y := fun b => (X b ∨ E b) ∧ b < W.heap.size) fun b h1 h2 => ⟨h1, h2⟩).kept (w' := wF.putObj (w.heap.size + 9) (.loop r)) fun b hb => ?_).mono fun b hb _ => ?_
            · rcases hb.1 with h | h
              · have h1 := hKK b (HKX.out b h)
                exact (po b h1.2.1).trans (kF b h1.1 h1.2.1 h1.2.2.1 h1.2.2.2)
              · have h1 := HE.out b h
                exact (po b (by omega)).trans (kF b hb.2 (by omega) (by omega) h1.2.2)
            · rcases hb.1 with h | h
              · exact Or.inl h
              · have h1 := HE.out b h
                exact Or.inr ⟨Or.inl h, by omega, hbg b (by omega) h1.2.2⟩
          · refine ((HS9.out.mono (Y := fun b => ((X b ∧ b < V.heap.size) ∨ V.heap.size ≤ b) ∧ b < w9.heap.size) fun b h1 h2 => ⟨h1, h2⟩).kept (w' := wF.putObj (w.heap.size + 9) (.loop r)) fun b hb => ?_).mono fun b hb _ => ?_
            · rcases hb.1 with h | h
              · have h1 := hKK b (HKX.out b h.1)
                exact (po b h1.2.1).trans (kF9 b hb.2 h1.2.2.1 h1.2.2.2)
              · exact (po b (by omega)).trans (kF9 b hb.2 (by omega) (fun e => by have := (hltv b e).2; omega))
            · rcases hb.1 with h | h
              · exact Or.inl h.1
              · exact Or.inr ⟨Or.inr (by omega), by omega, hbg b (by omega) (fun e => by have := (hltv b e).2; omega)⟩
        · rcases List.mem_append.1 hc' with h | h
          · exact HNF.out c' h
          · simp at h; subst h; exact HNF9.out
        · exact hF.os.trans (HGO.out.1.trans (HOS8.out.1.trans (HB9.out.os.trans HOSV.out.1)))
        · exact hF.tape.trans (HGO.out.2.1.trans (HOS8.out.2.1.trans (HB9.out.tape.trans HOSV.out.2.1)))
        · exact hF.output.trans (HGO.out.2.2.trans (HOS8.out.2.2.trans (HB9.out.output.trans HOSV.out.2.2)))
        · have h9 : b ≠ w.heap.size + 9 := fun h => hn ((HF.out b).2 (Or.inl h))
          have h3 : b ≠ w.heap.size + 3 := fun h => hn ((HF.out b).2 (Or.inr (Or.inl h)))
          exact (po b h9).trans (kF b hb h9 h3 (fun h => hn ((HF.out b).2 (Or.inr (Or.inr (Or.inr (Or.inr (Or.inl h))))))))
        · rcases hb with h | h | h | h | h | h
          · exact Or.inl ((HF.out b).2 (Or.inl h))
          · exact Or.inl ((HF.out b).2 (Or.inr (Or.inl h)))
          · exact Or.inl ((HF.out b).2 (Or.inr (Or.inr (Or.inl h))))
          · exact Or.inl ((HF.out b).2 (Or.inr (Or.inr (Or.inr (Or.inl h)))))
          · have e : g = b := by simpa [Value.ownBlock] using h
            subst e
            rcases hgat with h1 | h1
            · exact Or.inl ((HF.out g).2 (Or.inr (Or.inr (Or.inr (Or.inr (Or.inl h1))))))
            · right; simp at h1; omega
          · rcases h.1 with h1 | h1
            · exact Or.inl ((HF.out b).2 (Or.inr (Or.inr (Or.inr (Or.inr (Or.inr h1))))))
            · exact Or.inr h1
      have HA3 := hide hA3
      clear hA3 hX3 hrun hown hlast hgrow
      refine region_round (S := fun w' => Blk w' w9.heap.size #[.string (outA t c).name, .slice a9 (outA t c).args.length c9] 27) hmo ?_ XD.out (fun hHeld => ?_)
      · intro i o ho c' hc'
        match i, ho with
        | 0, ho => simp at ho; subst ho; cases hc'
        | 1, ho => simp at ho; subst ho; cases hc'
        | 2, ho => simp at ho; subst ho; cases hc'
        | 3, ho => simp at ho; subst ho; cases hc'
        | 4, ho => simp at ho; subst ho; cases hc'
        | 5, ho => simp at ho; subst ho; cases hc'
        | 6, ho => simp at ho; subst ho; cases hc'
        | 7, ho => simp at ho; subst ho; cases hc'
        | i + 8, ho => simp at ho
      refine wpAnyH_take (i := 1) (v := ?_) rfl (by kernel_rfl) (by kernel_rfl) (by kernel_rfl) (fun _ _ _ h => h) (Or.inl ⟨by rfl, ?_⟩) (by assumption) ?_
      rotate_left
      · intro w' hSw
        have c0 : w'.cell? ⟨w9.heap.size, 0, none⟩ = some (.string (outA t c).name) := Blk.cell hSw 0
        have c1 : w'.cell? ⟨w9.heap.size, 1, none⟩ = some (.slice a9 (outA t c).args.length c9) := Blk.cell hSw 1
        go_simp <;> with_reducible rfl
      try simp only [Act.put, List.setIfInBounds_toArray, List.set_cons_zero, List.set_cons_succ, List.getElem_toArray, List.getElem_cons_succ, List.getElem_cons_zero]
      refine wpAnyH_ready (rs := [0, 3]) (by kernel_rfl) (by simp) ?_
      refine AllReadyH.cons rfl (fun K hK => ?_) (AllReadyH.cons rfl (fun K hK => ?_) AllReadyH.nil)
      · go_simp
        refine hK.out _ _ (by exact XD.out) (fun hHeld => ?_)
        clear hK K
        try simp only [Act.put, List.setIfInBounds_toArray, List.set_cons_zero, List.set_cons_succ, List.getElem_toArray, List.getElem_cons_succ, List.getElem_cons_zero]
        refine wpAnyH_take (i := 2) (v := ?_) rfl (by kernel_rfl) (by kernel_rfl) (by kernel_rfl) (fun _ _ _ h => h) (Or.inl ⟨by rfl, ?_⟩) (by assumption) ?_
        rotate_left
        · intro w' hSw
          go_simp <;> with_reducible rfl
        try simp only [Act.put, List.setIfInBounds_toArray, List.set_cons_zero, List.set_cons_succ, List.getElem_toArray, List.getElem_cons_succ, List.getElem_cons_zero]
        refine wpAnyH_ready (rs := [3]) (by kernel_rfl) (by simp) ?_
        refine AllReadyH.cons rfl (fun K hK => ?_) AllReadyH.nil
        go_simp
        refine hK.out _ _ (by exact XZ.out) (fun hHeld => ?_)
        clear hK K
        try simp only [Act.put, List.setIfInBounds_toArray, List.set_cons_zero, List.set_cons_succ, List.getElem_toArray, List.getElem_cons_succ, List.getElem_cons_zero]
        refine wpAnyH_ready (rs := [4]) (by kernel_rfl) (by simp) ?_
        refine AllReadyH.cons rfl (fun K hK => ?_) AllReadyH.nil
        refine step_append_eq rfl _ _ _ _ rfl rfl rfl HRUN2.out ?_
        refine hK.out _ _ (by exact X3.out) (fun hHeld => ?_)
        clear hK K
        try simp only [Act.put, List.setIfInBounds_toArray, List.set_cons_zero, List.set_cons_succ, List.getElem_toArray, List.getElem_cons_succ, List.getElem_cons_zero]
        refine wpAnyH_take (i := 5) (v := ?_) rfl (by kernel_rfl) (by kernel_rfl) (by kernel_rfl) (fun _ _ _ h => h) (Or.inl ⟨by rfl, ?_⟩) (by assumption) ?_
        rotate_left
        · intro w' hSw
          go_simp <;> with_reducible rfl
        try simp only [Act.put, List.setIfInBounds_toArray, List.set_cons_zero, List.set_cons_succ, List.getElem_toArray, List.getElem_cons_succ, List.getElem_cons_zero]
        refine wpAnyH_ready (rs := [6, 7]) (by kernel_rfl) (by simp) ?_
        refine AllReadyH.cons rfl (fun K hK => ?_) (AllReadyH.cons rfl (fun K hK => ?_) AllReadyH.nil)
        · go_simp
          refine hK.out _ _ (by exact X36.out) (fun hHeld => ?_)
          clear hK K
          try simp only [Act.put, List.setIfInBounds_toArray, List.set_cons_zero, List.set_cons_succ, List.getElem_toArray, List.getElem_cons_succ, List.getElem_cons_zero]
          refine wpAnyH_ready (rs := [7]) (by kernel_rfl) (by simp) ?_
          refine AllReadyH.cons rfl (fun K hK => ?_) AllReadyH.nil
          go_simp
          refine hK.out _ _ (by exact X367.out) (fun hHeld => ?_)
          clear hK K
          try simp only [Act.put, List.setIfInBounds_toArray, List.set_cons_zero, List.set_cons_succ, List.getElem_toArray, List.getElem_cons_succ, List.getElem_cons_zero]
          refine wpAnyH_done (by kernel_rfl) ?_ _
          refine ⟨by simp, ?_⟩
          refine HFIN.out _ ?_
          exact fw_a hAg HA3.out
        · go_simp
          refine hK.out _ _ (by exact X37.out) (fun hHeld => ?_)
          clear hK K
          try simp only [Act.put, List.setIfInBounds_toArray, List.set_cons_zero, List.set_cons_succ, List.getElem_toArray, List.getElem_cons_succ, List.getElem_cons_zero]
          refine wpAnyH_ready (rs := [6]) (by kernel_rfl) (by simp) ?_
          refine AllReadyH.cons rfl (fun K hK => ?_) AllReadyH.nil
          go_simp
          refine hK.out _ _ (by exact X376.out) (fun hHeld => ?_)
          clear hK K
          try simp only [Act.put, List.setIfInBounds_toArray, List.set_cons_zero, List.set_cons_succ, List.getElem_toArray, List.getElem_cons_succ, List.getElem_cons_zero]
          refine wpAnyH_done (by kernel_rfl) ?_ _
          refine ⟨by simp, ?_⟩
          refine HFIN.out _ ?_
          exact fw_b hAg HA3.out
      · go_simp
        refine hK.out _ _ (by exact XZ.out) (fun hHeld => ?_)
        clear hK K
        try simp only [Act.put, List.setIfInBounds_toArray, List.set_cons_zero, List.set_cons_succ, List.getElem_toArray, List.getElem_cons_succ, List.getElem_cons_zero]
        refine wpAnyH_ready (rs := [0]) (by kernel_rfl) (by simp) ?_
        refine AllReadyH.cons rfl (fun K hK => ?_) AllReadyH.nil
        go_simp
        refine hK.out _ _ (by exact XZ.out) (fun hHeld => ?_)
        clear hK K
        try simp only [Act.put, List.setIfInBounds_toArray, List.set_cons_zero, List.set_cons_succ, List.getElem_toArray, List.getElem_cons_succ, List.getElem_cons_zero]
        refine wpAnyH_take (i := 2) (v := ?_) rfl (by kernel_rfl) (by kernel_rfl) (by kernel_rfl) (fun _ _ _ h => h) (Or.inl ⟨by rfl, ?_⟩) (by assumption) ?_
        rotate_left
        · intro w' hSw
          go_simp <;> with_reducible rfl
        try simp only [Act.put, List.setIfInBounds_toArray, List.set_cons_zero, List.set_cons_succ, List.getElem_toArray, List.getElem_cons_succ, List.getElem_cons_zero]
        refine wpAnyH_ready (rs := [4]) (by kernel_rfl) (by simp) ?_
        refine AllReadyH.cons rfl (fun K hK => ?_) AllReadyH.nil
        refine step_append_eq rfl _ _ _ _ rfl rfl rfl HRUN2.out ?_
        refine hK.out _ _ (by exact X3.out) (fun hHeld => ?_)
        clear hK K
        try simp only [Act.put, List.setIfInBounds_toArray, List.set_cons_zero, List.set_cons_succ, List.getElem_toArray, List.getElem_cons_succ, List.getElem_cons_zero]
        refine wpAnyH_take (i := 5) (v := ?_) rfl (by kernel_rfl) (by kernel_rfl) (by kernel_rfl) (fun _ _ _ h => h) (Or.inl ⟨by rfl, ?_⟩) (by assumption) ?_
        rotate_left
        · intro w' hSw
          go_simp <;> with_reducible rfl
        try simp only [Act.put, List.setIfInBounds_toArray, List.set_cons_zero, List.set_cons_succ, List.getElem_toArray, List.getElem_cons_succ, List.getElem_cons_zero]
        refine wpAnyH_ready (rs := [6, 7]) (by kernel_rfl) (by simp) ?_
        refine AllReadyH.cons rfl (fun K hK => ?_) (AllReadyH.cons rfl (fun K hK => ?_) AllReadyH.nil)
        · go_simp
          refine hK.out _ _ (by exact X36.out) (fun hHeld => ?_)
          clear hK K
          try simp only [Act.put, List.setIfInBounds_toArray, List.set_cons_zero, List.set_cons_succ, List.getElem_toArray, List.getElem_cons_succ, List.getElem_cons_zero]
          refine wpAnyH_ready (rs := [7]) (by kernel_rfl) (by simp) ?_
          refine AllReadyH.cons rfl (fun K hK => ?_) AllReadyH.nil
          go_simp
          refine hK.out _ _ (by exact X367.out) (fun hHeld => ?_)
          clear hK K
          try simp only [Act.put, List.setIfInBounds_toArray, List.set_cons_zero, List.set_cons_succ, List.getElem_toArray, List.getElem_cons_succ, List.getElem_cons_zero]
          refine wpAnyH_done (by kernel_rfl) ?_ _
          refine ⟨by simp, ?_⟩
          refine HFIN.out _ ?_
          exact fw_a hAg HA3.out
        · go_simp
          refine hK.out _ _ (by exact X37.out) (fun hHeld => ?_)
          clear hK K
          try simp only [Act.put, List.setIfInBounds_toArray, List.set_cons_zero, List.set_cons_succ, List.getElem_toArray, List.getElem_cons_succ, List.getElem_cons_zero]
          refine wpAnyH_ready (rs := [6]) (by kernel_rfl) (by simp) ?_
          refine AllReadyH.cons rfl (fun K hK => ?_) AllReadyH.nil
          go_simp
          refine hK.out _ _ (by exact X376.out) (fun hHeld => ?_)
          clear hK K
          try simp only [Act.put, List.setIfInBounds_toArray, List.set_cons_zero, List.set_cons_succ, List.getElem_toArray, List.getElem_cons_succ, List.getElem_cons_zero]
          refine wpAnyH_done (by kernel_rfl) ?_ _
          refine ⟨by simp, ?_⟩
          refine HFIN.out _ ?_
          exact fw_b hAg HA3.out
    · have hz9 := hb9.size
      have k9 : ∀ b, b < W.heap.size → b ≠ w.heap.size + 9 → w9.heap[b]? = W.heap[b]? := fun b hb hne => (hb9.block b (by omega)).trans (HKV.out b hb hne)
      have B4 : Blk w9 (w.heap.size + 1) #[.slice none 0 0] 25 := (k9 _ H4W.out.lt (by omega)).trans H4W.out
      have B5 : Blk w9 (w.heap.size + 1 + 1) #[.int .i64 0] 30 := (k9 _ H5W.out.lt (by omega)).trans H5W.out
      have b4 : w9.cell? ⟨w.heap.size + 1, 0, none⟩ = some (.slice none 0 0) := B4.cell 0
      have b5 : w9.cell? ⟨w.heap.size + 1 + 1, 0, none⟩ = some (.int .i64 0) := B5.cell 0
      have f4 : w9.frozen? ⟨w.heap.size + 1, 0, none⟩ = false := B4.frozen 0
      have f5 : w9.frozen? ⟨w.heap.size + 1 + 1, 0, none⟩ = false := B5.frozen 0
      have hl4 := B4.lt
      have hl5 := B5.lt
      gi_wp2
      have po : ∀ b, b ≠ w.heap.size + 9 → b ≠ w.heap.size + 1 → b ≠ w.heap.size + 2 → b < W.heap.size → ((((w9.setCell ⟨w.heap.size + 1, 0, none⟩ (.slice none 0 0)).setCell ⟨w.heap.size + 1 + 1, 0, none⟩ (.int .i64 8)).alloc (.cells #[.string ⟨#[]⟩, .slice none 0 0] 27)).putObj (w.heap.size + 9) (.loop rd)).heap[b]? = W.heap[b]? := fun b h9 h1 h2 hb => by
        rw [World.putObj_heap_other h9, Below.heap_alloc _ _ _ (by simp [World.setCell]; omega), Below.heap_setCell _ _ _ _ (by simpa using h2), Below.heap_setCell _ _ _ _ (by simpa using h1), k9 b hb h9]
      have hltv := HO.out.lt
      refine ⟨?_, f, ⟨HK1.out, by simp [World.setCell]; omega, fun b hb => ?_, World.putObj_heap_same (by simp [World.setCell]; omega), ?_, ?_, ⟨v, l, xs, E, HF.out, fun b hb => ⟨(HE.out b hb).1, by have := (HE.out b hb).2.1; simp [World.setCell]; omega, (HE.out b hb).2.2⟩, ?_, ownsRow_at HO.out fun g hg => ?_, HRW.out.imp fun a' k' hs' => ?_, fun h => by cases h⟩, (fun h => by cases h), fun _ => ⟨c, by simp, hfl⟩⟩, ⟨?_, ?_, ?_, by simp [World.setCell]; omega, fun b hb hn => ?_⟩, fun b hb => Or.inl hb⟩
      · rw [Below.heap_alloc _ _ _ (by simp [World.setCell]; omega), Below.heap_setCell _ _ _ _ (by simp), Below.heap_setCell _ _ _ _ (by simp), hb9.block _ (by omega)]
        exact HLV.out
      · have h1 := HKl.out b hb
        exact (po b (by omega) (by omega) (by omega) (by omega)).trans (HC.out b hb)
      · exact (World.putObj_heap_other (by omega)).trans ((Blk.setOther (Blk.set1R B4) _ _ (by omega)).alloc _)
      · exact (World.putObj_heap_other (by omega)).trans ((Blk.set1R (B5.setOther _ _ (by omega))).alloc _)
      · exact (po _ (by omega) (by omega) (by omega) HA.out.lt).trans HA.out
      · have h1 := hltv g hg
        exact po g (by omega) (by omega) (by omega) h1.2
      · refine ((hs'.mono (Y := fun b => (X b ∨ E b) ∧ b < W.heap.size) fun b h1 h2 => ⟨h1, h2⟩).kept fun b hb => ?_).mono fun b hb _ => hb.1
        rcases hb.1 with h | h
        · have h1 := HKl.out b (HKX.out b h)
          exact po b (by omega) (by omega) (by omega) hb.2
        · have h1 := HE.out b h
          exact po b (by omega) (by omega) (by omega) hb.2
      · exact hb9.os.trans HOSV.out.1
      · exact hb9.tape.trans HOSV.out.2.1
      · exact hb9.output.trans HOSV.out.2.2
      · exact po b (fun h => hn ((HF.out b).2 (Or.inl h))) (fun h => hn ((HF.out b).2 (Or.inr (Or.inr (Or.inl h))))) (fun h => hn ((HF.out b).2 (Or.inr (Or.inr (Or.inr (Or.inl h)))))) hb
  have hst : JA t X K (w.heap.size + 3) (w.heap.size + 1) (w.heap.size + 2) (w.heap.size + 9) r rd W5 [] true (fun b => b = w.heap.size + 9 ∨ b = w.heap.size + 3 ∨ b = w.heap.size + 1 ∨ b = w.heap.size + 2 ∨ (Value.slice none 0 0).ownBlock = some b ∨ False) W5 := by
    refine ⟨fun b hb => ⟨by have := HKl.out b hb; omega, fun h => ?_⟩, Nat.le_refl _, fun b _ => rfl, H9.out, H1.out, H2.out, ⟨.slice none 0 0, [], [], fun _ => False, fun b => Iff.rfl, fun b hb => hb.elim, H3.out, World.ownsRow_nil _ _ _ _, rfl, fun _ => rfl⟩, fun _ c hc => by simp at hc, fun h => by cases h⟩
    have := HKl.out b hb
    rcases h with h | h | h | h | h | h
    · omega
    · omega
    · omega
    · omega
    · simp [Value.ownBlock] at h
    · exact h
  have hHX : ∀ b, X b → b < w.heap.size := HX.out
  refine (chances1I_any hok (w.heap.size + 9) RH rs t [] (w.heap.size + 7) (w.heap.size + 6) (w.heap.size + 4) (w.heap.size + 5) (.slice ua rs.length uc) aa ca (.slice none 0 0) [] _ W5 X H7.out H6.out (HU.out.later HB5.out) H4.out (HS.out.later HB5.out) H5.out ⟨none, 0, rfl, by simp, Or.inl rfl⟩ rfl (fun b hb => ⟨by have := hHX b hb; omega, fun h => by
    have := hHX b hb
    rcases h with h | h | h | h | h | h
    · omega
    · omega
    · omega
    · omega
    · simp [Value.ownBlock] at h
    · exact h⟩) (fun h => by
    rcases h with h | h | h | h | h | h
    · omega
    · omega
    · omega
    · omega
    · simp [Value.ownBlock] at h
    · exact h) hst (by omega) (by simp)).mono ?_
  rintro e Wf ⟨hret, s, hw⟩
  obtain ⟨m, f', hm, hms, hj, he, hff⟩ := hw
  rw [List.nil_append] at hj
  obtain ⟨hK9, hz9, hC9, hL9, h49, h59, ⟨v, l, xs, E, hf9, hE9, hA9, ho9, hr9, hl9⟩, hnf9, hfl9⟩ := hj
  have hlt9 := ho9.lt
  have HD9 : Hid (Wf.heap[w.heap.size + 8]? = some (.deferred (some []))) := (he.block _ (by omega) (fun h => by
    rcases h with (h | h | h | h | h | h) | h
    · omega
    · omega
    · omega
    · omega
    · simp [Value.ownBlock] at h
    · exact h
    · exact h)).trans H8.out
  have HBF : Hid (∀ b, b < w.heap.size → Wf.heap[b]? = w.heap[b]?) := fun b hb => (he.block b (by omega) (fun h => by
    rcases h with (h | h | h | h | h | h) | h
    · omega
    · omega
    · omega
    · omega
    · simp [Value.ownBlock] at h
    · exact h
    · exact h)).trans (HB5.out.block b hb)
  have HOSF : Hid (Wf.os = w.os ∧ Wf.tape = w.tape ∧ Wf.output = w.output) := ⟨he.os.trans HB5.out.os, he.tape.trans HB5.out.tape, he.output.trans HB5.out.output⟩
  have HRET := hide hret
  have HL9 := hide hL9
  have HHX := hide hHX
  clear he hff hst RH hok hret
  refine ⟨HRET.out, ?_⟩
  cases s with
  | true =>
    left
    refine ⟨HL9.out, ?_⟩
    have em := hms rfl
    subst em
    rw [List.take_length] at hl9 hnf9
    have HLL := hide (hl9 rfl)
    have HNF := hide (hnf9 rfl)
    clear hl9 hnf9 hfl9 hms hm hr1 hr2 hr3 hr4 hr5 hr6
    obtain ⟨va, vc, rfl⟩ := own_form ho9
    have q4 : ∀ o, (Wf.putObj (w.heap.size + 9) o).cell? ⟨w.heap.size + 1, 0, none⟩ = some (.slice none 0 0) := fun o => (World.cell?_of_block (World.putObj_heap_other (by simp))).trans (h49.cell 0)
    have q5 : ∀ o, (Wf.putObj (w.heap.size + 9) o).cell? ⟨w.heap.size + 1 + 1, 0, none⟩ = some (.int .i64 0) := fun o => (World.cell?_of_block (World.putObj_heap_other (by simp))).trans (h59.cell 0)
    have qa : ∀ o, (Wf.putObj (w.heap.size + 9) o).cell? ⟨w.heap.size + 1 + 1 + 1, 0, none⟩ = some (.slice va l.length vc) := fun o => (World.cell?_of_block (World.putObj_heap_other (by simp))).trans (hA9.cell 0)
    have g4 : ∀ o, (Wf.putObj (w.heap.size + 9) o).frozen? ⟨w.heap.size + 1, 0, none⟩ = false := fun o => Blk.frozen (show Blk (Wf.putObj (w.heap.size + 9) o) (w.heap.size + 1) _ _ from (World.putObj_heap_other (by simp)).trans h49) 0
    have g5 : ∀ o, (Wf.putObj (w.heap.size + 9) o).frozen? ⟨w.heap.size + 1 + 1, 0, none⟩ = false := fun o => Blk.frozen (show Blk (Wf.putObj (w.heap.size + 9) o) (w.heap.size + 1 + 1) _ _ from (World.putObj_heap_other (by simp)).trans h59) 0
    have pf : ∀ (o o1 : Obj) b, b ≠ w.heap.size + 9 → b ≠ w.heap.size + 8 → b ≠ w.heap.size + 1 → b ≠ w.heap.size + 2 → ((((Wf.putObj (w.heap.size + 9) o).setCell ⟨w.heap.size + 1, 0, none⟩ (.slice va l.length vc)).setCell ⟨w.heap.size + 1 + 1, 0, none⟩ (.int .i64 0)).putObj (w.heap.size + 8) o1).heap[b]? = Wf.heap[b]? := fun o o1 b h9 h8 h1 h2 => by
      rw [World.putObj_heap_other h8, Below.heap_setCell _ _ _ _ (by simpa using h2), Below.heap_setCell _ _ _ _ (by simpa using h1), World.putObj_heap_other h9]
    have HDD : Hid (∀ o, (((Wf.putObj (w.heap.size + 9) o).setCell ⟨w.heap.size + 1, 0, none⟩ (.slice va l.length vc)).setCell ⟨w.heap.size + 1 + 1, 0, none⟩ (.int .i64 0)).heap[w.heap.size + 8]? = some (.deferred (some []))) := fun o => by
      rw [Below.heap_setCell _ _ _ _ (by simp), Below.heap_setCell _ _ _ _ (by simp), World.putObj_heap_other (by omega)]
      exact HD9.out
    have r4 : ∀ (o o1 : Obj), ((((Wf.putObj (w.heap.size + 9) o).setCell ⟨w.heap.size + 1, 0, none⟩ (.slice va l.length vc)).setCell ⟨w.heap.size + 1 + 1, 0, none⟩ (.int .i64 0)).putObj (w.heap.size + 8) o1).cell? ⟨w.heap.size + 1, 0, none⟩ = some (.slice va l.length vc) := fun o o1 => by
      have h : Blk ((((Wf.putObj (w.heap.size + 9) o).setCell ⟨w.heap.size + 1, 0, none⟩ (.slice va l.length vc)).setCell ⟨w.heap.size + 1 + 1, 0, none⟩ (.int .i64 0)).putObj (w.heap.size + 8) o1) (w.heap.size + 1) #[.slice va l.length vc] 25 := (World.putObj_heap_other (by omega)).trans ((Blk.set1R ((World.putObj_heap_other (by omega)).trans h49)).setOther _ _ (by omega))
      exact h.cell 0
    have r5 : ∀ (o o1 : Obj), ((((Wf.putObj (w.heap.size + 9) o).setCell ⟨w.heap.size + 1, 0, none⟩ (.slice va l.length vc)).setCell ⟨w.heap.size + 1 + 1, 0, none⟩ (.int .i64 0)).putObj (w.heap.size + 8) o1).cell? ⟨w.heap.size + 1 + 1, 0, none⟩ = some (.int .i64 0) := fun o o1 => by
      have h : Blk ((((Wf.putObj (w.heap.size + 9) o).setCell ⟨w.heap.size + 1, 0, none⟩ (.slice va l.length vc)).setCell ⟨w.heap.size + 1 + 1, 0, none⟩ (.int .i64 0)).putObj (w.heap.size + 8) o1) (w.heap.size + 1 + 1) #[.int .i64 0] 30 := (World.putObj_heap_other (by omega)).trans (Blk.set1R (Blk.setOther (show Blk (Wf.putObj (w.heap.size + 9) o) (w.heap.size + 1 + 1) #[.int .i64 0] 30 from (World.putObj_heap_other (by omega)).trans h59) _ _ (by omega)))
      exact h.cell 0
    have HFIN : Hid (∀ (o o1 : Obj), AllPost rs t X0 w (.returned (.tuple #[.slice va l.length vc, .int .i64 0])) ((((Wf.putObj (w.heap.size + 9) o).setCell ⟨w.heap.size + 1, 0, none⟩ (.slice va l.length vc)).setCell ⟨w.heap.size + 1 + 1, 0, none⟩ (.int .i64 0)).putObj (w.heap.size + 8) o1)) := fun o o1 => by
      refine ⟨⟨HOSF.out.1, HOSF.out.2.1, HOSF.out.2.2, by simp [World.setCell]; omega, fun b hb => (pf o o1 b (by omega) (by omega) (by omega) (by omega)).trans (HBF.out b hb)⟩, Or.inl ⟨HNF.out, _, xs, rfl, ?_, ?_⟩⟩
      · rw [← HLL.out]
        exact owns_mono (ownsRow_at ho9 fun g hg => by have := hlt9 g hg; exact pf o o1 g (by omega) (by omega) (by omega) (by omega)) (by omega)
      · rw [← HLL.out]
        refine hr9.imp fun a' k' hs' => (hs'.kept fun b hb => ?_).mono fun b hb _ => ?_
        · rcases hb with h | h
          · have := HHX.out b h; exact pf o o1 b (by omega) (by omega) (by omega) (by omega)
          · have := hE9 b h; exact pf o o1 b (by omega) (by omega) (by omega) (by omega)
        · rcases hb with h | h
          · exact Or.inl ⟨HXX.out b h, HHX.out b h⟩
          · have h1 := hE9 b h
            exact Or.inr ⟨by omega, h1.2.2⟩
    gi_wp2
    refine ⟨by simp, .inl ⟨_, _, rfl, run_takeDeferred (HDD.out _), ?_⟩⟩
    exact ⟨.tuple #[.slice va l.length vc, .int .i64 0], by simp [results, Try.results18, go_sem, r4, r5], HFIN.out _ _⟩
  | false =>
    right
    refine ⟨by rw [← hrd]; exact HL9.out, ?_⟩
    have HFL := hide (hfl9 rfl)
    clear hl9 hnf9 hfl9 hms hm hr1 hr2 hr3 hr4 hr5 hr6
    simp only [Bool.false_eq_true, if_false] at h59
    have pf : ∀ (o o1 : Obj) b, b ≠ w.heap.size + 9 → b ≠ w.heap.size + 8 → ((Wf.putObj (w.heap.size + 9) o).putObj (w.heap.size + 8) o1).heap[b]? = Wf.heap[b]? := fun o o1 b h9 h8 => (World.putObj_heap_other h8).trans (World.putObj_heap_other h9)
    have HDD : Hid (∀ o, (Wf.putObj (w.heap.size + 9) o).heap[w.heap.size + 8]? = some (.deferred (some []))) := fun o => (World.putObj_heap_other (by omega)).trans HD9.out
    have r4 : ∀ (o o1 : Obj), ((Wf.putObj (w.heap.size + 9) o).putObj (w.heap.size + 8) o1).cell? ⟨w.heap.size + 1, 0, none⟩ = some (.slice none 0 0) := fun o o1 => (World.cell?_of_block (pf o o1 _ (by simp) (by simp))).trans (h49.cell 0)
    have r5 : ∀ (o o1 : Obj), ((Wf.putObj (w.heap.size + 9) o).putObj (w.heap.size + 8) o1).cell? ⟨w.heap.size + 1 + 1, 0, none⟩ = some (.int .i64 8) := fun o o1 => (World.cell?_of_block (pf o o1 _ (by simp) (by simp))).trans (h59.cell 0)
    have HFIN : Hid (∀ (o o1 : Obj), AllPost rs t X0 w (.returned (.tuple #[.slice none 0 0, .int .i64 8])) ((Wf.putObj (w.heap.size + 9) o).putObj (w.heap.size + 8) o1)) := fun o o1 => by
      refine ⟨⟨HOSF.out.1, HOSF.out.2.1, HOSF.out.2.2, by simp; omega, fun b hb => (pf o o1 b (by omega) (by omega)).trans (HBF.out b hb)⟩, Or.inr ⟨?_, rfl⟩⟩
      obtain ⟨c, hc, h⟩ := HFL.out
      exact ⟨c, List.mem_of_mem_take hc, h⟩
    gi_wp2
    refine ⟨by simp, .inl ⟨_, _, rfl, run_takeDeferred (HDD.out _), ?_⟩⟩
    exact ⟨.tuple #[.slice none 0 0, .int .i64 8], by simp [results, Try.results18, go_sem, r4, r5], HFIN.out _ _⟩
#print axioms all_any
end Go.Proofs.Ytccbocefgoccdaa

/- Steps: what the program goes through, and what the document asks (plain). -/
namespace Go.Proofs.Ytccbocefgoccdaa
open Go.RowKit
set_option linter.unusedSimpArgs false
set_option linter.unusedVariables false

theorem errL_partsR {s : ByteArray} {a r : List Tm} (h : errL (⟨s, a⟩ :: r) = 0) : (varB s = true → a = []) ∧ errL a = 0 ∧ errL r = 0 := by
  rw [errL] at h
  split at h
  · split at h
    · cases h
    · rename_i h1 h2
      split at h
      · rename_i h3
        refine ⟨fun hv => ?_, h3, h⟩
        cases a with
        | nil => rfl
        | cons x y => simp [hv] at h2
      · rename_i h3; exact absurd h h3
  · cases h
/-- All names are variables'. -/
def VarN (ls : List Bd) : Prop := ∀ d ∈ ls, varB d.nm = true
theorem forT_memR : ∀ {ls : List Bd} {s : ByteArray} {x : Tm}, forT ls s = some x → ∃ d ∈ ls, d.nm = s
  | [], s, x, h => by simp [forT] at h
  | d :: ls, s, x, h => by
    unfold forT at h
    split at h
    · rename_i h1
      exact ⟨d, by simp, h1⟩
    · obtain ⟨d', hd, e⟩ := forT_memR h
      exact ⟨d', by simp [hd], e⟩
theorem fN_onR {ls : List Bd} (h : VarN ls) (s : ByteArray) (a bs : List Tm) (hv : varB s = true → a = []) : fN ls s bs = onN ls s a bs := by
  unfold fN onN
  cases hs : varB s with
  | true => rw [hv hs]; cases forT ls s <;> rfl
  | false =>
    cases hf : forT ls s with
    | none => rfl
    | some x =>
      obtain ⟨d, hd, e⟩ := forT_memR hf
      have := h d hd
      rw [e, hs] at this
      cases this
theorem fL_onR {ls : List Bd} (h : VarN ls) : ∀ l : List Tm, errL l = 0 → fL ls l = onL ls l
  | [], _ => by simp [fL, onL]
  | ⟨s, a⟩ :: r, he => by
    obtain ⟨h1, h2, h3⟩ := errL_partsR he
    rw [fL, onL, fL_onR h a h2, fL_onR h r h3, fN_onR h s a _ h1]
theorem fT_onR {ls : List Bd} (h : VarN ls) (t : Tm) (ht : mayE t = 0) : fT ls t = onT ls t := by
  unfold mayE at ht
  split at ht
  · cases ht
  · obtain ⟨s, a⟩ := t
    obtain ⟨h1, h2, _⟩ := errL_partsR ht
    unfold fT onT
    rw [fL_onR h a h2, fN_onR h s a _ h1]

theorem mtT_varOne {p t : Tm} {h h' : List Bd} (ih : ∀ ts g g', mtL p.args ts g = some g' → VarN g → VarN g') (he : mtT p t h = some h') (hv : VarN h) : VarN h' := by
  unfold mtT at he
  obtain ⟨s, l⟩ := p
  simp only at he
  cases hs : varB s with
  | true =>
    simp only [hs, if_true] at he
    cases hf : forT h s with
    | none =>
      simp only [hf] at he
      cases he
      intro d hd
      rcases List.mem_append.1 hd with hd | hd
      · exact hv d hd
      · simp at hd; subst hd; exact hs
    | some x =>
      simp only [hf] at he
      split at he
      · cases he; exact hv
      · cases he
  | false =>
    simp only [hs] at he
    split at he
    · rename_i h0; cases h0
    · split at he
      · exact ih _ _ _ he hv
      · cases he
theorem mtL_var : ∀ (l ts : List Tm) (h h' : List Bd), mtL l ts h = some h' → VarN h → VarN h' := by
  intro l
  induction l using Tm.indL with
  | h0 =>
    intro ts h h' he hv
    cases ts with
    | nil => simp [mtL] at he; subst he; exact hv
    | cons t ts => first | (simp [mtL] at he; done) | (simp [mtL] at he; subst he; exact hv)
  | h s l r ihl ihr =>
    intro ts h h' he hv
    cases ts with
    | nil => first | (simp [mtL] at he; done) | (simp [mtL] at he; subst he; exact hv)
    | cons t ts =>
      rw [mtL_cons] at he
      cases h1 : mtT ⟨s, l⟩ t h with
      | none => simp only [h1] at he; cases he
      | some g =>
        simp only [h1] at he
        exact ihr _ _ _ he (mtT_varOne (p := ⟨s, l⟩) ihl h1 hv)
theorem mtT_var {p t : Tm} {h' : List Bd} (he : mtT p t [] = some h') : VarN h' := mtT_varOne (fun ts g g' h1 h2 => mtL_var p.args ts g g' h1 h2) he (by intro d hd; simp at hd)

/-- What a step makes has as many knots more as what is put there has more than what stood there. -/
theorem put_size (x : Tm) : ∀ (p : List Int) (t y : Tm), atT t p = some y → sizeL [putT x p t] + sizeL [y] = sizeL [t] + sizeL [x]
  | [], t, y, h => by simp [atT] at h; subst h; simp [putT, Nat.add_comm]
  | i :: r, t, y, h => by
    obtain ⟨k, hk, rfl, h2⟩ := atT_cons h
    have ih := put_size x r _ y h2
    obtain ⟨s, l⟩ := t
    have e1 := putL_set (putT x r) l 0 k hk
    rw [Nat.zero_add] at e1
    have e2 := size_set l k hk (putT x r l[k])
    have e3 : sizeL [putT x ((k : Int) :: r) ⟨s, l⟩] = 1 + sizeL (l.set k (putT x r l[k])) := by rw [putT, e1]; simp [sizeL]
    have e4 : sizeL [(⟨s, l⟩ : Tm)] = 1 + sizeL l := by simp [sizeL]
    rw [e3, e4]
    simp only at ih
    omega

theorem filterMap_sameR {α β : Type} {f g : α → Option β} : ∀ {l : List α}, (∀ x ∈ l, f x = g x) → l.filterMap f = l.filterMap g
  | [], _ => rfl
  | x :: l, h => by
    rw [List.filterMap_cons, List.filterMap_cons, h x (by simp), filterMap_sameR fun y hy => h y (by simp [hy])]

/-- The program's steps are the document's. -/
theorem outs_all {rs : List Pr} {t : Tm} (hr : rulesE rs = 0) : (chL rs t []).map (outA t) = stAll rs t := by
  have hm : ∀ p ∈ rs, mayE p.r = 0 := fun p hp => (ruleE_parts (rulesE_all hr p hp)).2.1
  have h1 : ∀ (p : List Int) (x : Tm), (chG rs (p, x)).map (outA t) = rs.filterMap fun r => (fitT r x).map fun y => putT y p t := by
    intro p x
    unfold chG fitsL
    rw [List.map_map, List.map_filterMap]
    refine filterMap_sameR fun r hrm => ?_
    unfold fitT
    cases hf : mtT r.l x [] with
    | none => rfl
    | some g =>
      simp only [Option.map_some, Function.comp]
      unfold outA outC
      simp only
      rw [fT_onR (mtT_var hf) r.r (hm r hrm)]
  unfold chL stAll
  rw [List.map_flatMap]
  exact plc_dnT (fun p x => (chG rs (p, x)).map (outA t)) t (stAt rs t) (fun p x hx => by rw [h1]; unfold stAt; rw [hx])
theorem full_size {t : Tm} {d : Dn} {y : Ft} (h : atT t d.1 = some d.2) : isFull t d y ↔ 2000 < sizeL [putT (outC y) d.1 t] := by
  have h1 := put_size (outC y) d.1 t d.2 h
  have h2 := size_at _ _ _ h
  unfold isFull
  omega
theorem fulls_all {rs : List Pr} {t : Tm} (hr : rulesE rs = 0) : ((∀ c ∈ chL rs t [], ¬ isFull t c.1 c.2) ↔ ∀ y ∈ stAll rs t, sizeL [y] ≤ 2000) ∧ ((∃ c ∈ chL rs t [], isFull t c.1 c.2) ↔ ∃ y ∈ stAll rs t, 2000 < sizeL [y]) := by
  rw [← outs_all hr]
  constructor
  · constructor
    · intro h y hy
      obtain ⟨c, hc, rfl⟩ := List.mem_map.1 hy
      have h1 := h c hc
      rw [full_size (chL_at hc)] at h1
      unfold outA
      omega
    · intro h c hc
      rw [full_size (chL_at hc)]
      have := h _ (List.mem_map.2 ⟨c, hc, rfl⟩)
      unfold outA at this
      omega
  · constructor
    · rintro ⟨c, hc, h⟩
      exact ⟨_, List.mem_map.2 ⟨c, hc, rfl⟩, (full_size (chL_at hc)).1 h⟩
    · rintro ⟨y, hy, h⟩
      obtain ⟨c, hc, rfl⟩ := List.mem_map.1 hy
      exact ⟨c, hc, (full_size (chL_at hc)).2 h⟩
#print axioms outs_all
#print axioms fulls_all
end Go.Proofs.Ytccbocefgoccdaa

/- Plain: what stands for names is put in; how great that is; what stands there has no step. -/
namespace Go.Proofs.Ytccbocefgoccdaa
open Go.RowKit
set_option linter.unusedSimpArgs false
set_option linter.unusedVariables false

/-- What stands for a name, whatever is below it. -/
def gN (ls : List Bd) (s : ByteArray) (bs : List Tm) : Tm := match forT ls s with | some x => x | none => ⟨s, bs⟩
def gL (ls : List Bd) : List Tm → List Tm
  | [] => []
  | ⟨s, a⟩ :: r => gN ls s (gL ls a) :: gL ls r
def gT (ls : List Bd) (t : Tm) : Tm := gN ls t.name (gL ls t.args)
theorem gL_cons (ls : List Bd) (t : Tm) (r : List Tm) : gL ls (t :: r) = gT ls t :: gL ls r := by
  obtain ⟨s, a⟩ := t
  simp only [gL, gT]
theorem gL_map (ls : List Bd) : ∀ l, gL ls l = l.map (gT ls)
  | [] => by simp [gL]
  | t :: r => by rw [gL_cons, gL_map ls r, List.map_cons]
theorem gT_some {ls : List Bd} {t x : Tm} (h : forT ls t.name = some x) : gT ls t = x := by simp [gT, gN, h]
theorem gT_none {ls : List Bd} {t : Tm} (h : forT ls t.name = none) : gT ls t = ⟨t.name, gL ls t.args⟩ := by simp [gT, gN, h]
theorem gL_nil : ∀ l, gL [] l = l := by
  intro l
  induction l using Tm.indL with
  | h0 => simp [gL]
  | h s l r ihl ihr => rw [gL, ihl, ihr]; simp [gN, forT]
theorem gT_nil (t : Tm) : gT [] t = t := by
  obtain ⟨s, l⟩ := t
  unfold gT gN
  simp [forT, gL_nil]
theorem gL_take (ls : List Bd) (l : List Tm) (k : Nat) (h : k < l.length) : gL ls (l.take (k + 1)) = gL ls (l.take k) ++ [gT ls l[k]] := by
  rw [gL_map, gL_map, List.take_succ_eq_append_getElem h, List.map_append]
  rfl
theorem gL_split (ls : List Bd) (l : List Tm) (k : Nat) (h : k < l.length) : gL ls l = gL ls (l.take k) ++ gT ls l[k] :: gL ls (l.drop (k + 1)) := by
  rw [gL_map, gL_map, gL_map, ← List.map_cons, ← List.map_append, List.getElem_cons_drop h, List.take_append_drop]
theorem gL_size_take (ls : List Bd) (l : List Tm) (k : Nat) (h : k < l.length) : sizeL (gL ls (l.take (k + 1))) = sizeL (gL ls (l.take k)) + sizeL [gT ls l[k]] := by rw [gL_take ls l k h, sizeL_append]
theorem gL_size_le (ls : List Bd) (l : List Tm) (k : Nat) : sizeL (gL ls (l.take k)) ≤ sizeL (gL ls l) := by
  rw [gL_map, gL_map]
  have := sizeL_append ((l.take k).map (gT ls)) ((l.drop k).map (gT ls))
  rw [← List.map_append, List.take_append_drop] at this
  omega
theorem gL_fL {ls : List Bd} (h : VarN ls) : ∀ l, gL ls l = fL ls l := by
  intro l
  induction l using Tm.indL with
  | h0 => simp [gL, fL]
  | h s l r ihl ihr =>
    rw [gL, fL, ihl, ihr]
    congr 1
    unfold gN fN
    cases hf : forT ls s with
    | none => simp
    | some x =>
      obtain ⟨d, hd, e⟩ := forT_memR hf
      have := h d hd
      rw [e] at this
      simp [this]
theorem gT_on {ls : List Bd} (h : VarN ls) (t : Tm) (ht : mayE t = 0) : gT ls t = onT ls t := by
  rw [← fT_onR h t ht]
  unfold gT fT
  rw [gL_fL h]
  unfold gN fN
  cases hf : forT ls t.name with
  | none => simp
  | some x =>
    obtain ⟨d, hd, e⟩ := forT_memR hf
    have := h d hd
    rw [e] at this
    simp [this]
/-- All that stands there is a knot of the other term. -/
def Within (ls : List Bd) (P : Tm → Prop) : Prop := ∀ d ∈ ls, P d.t
theorem mtT_withinOne {P : Tm → Prop} {p t : Tm} {h h' : List Bd} (hP : ∀ x, P x → ∀ y ∈ x.args, P y) (ih : ∀ ts g g', mtL p.args ts g = some g' → (∀ y ∈ ts, P y) → Within g P → Within g' P) (he : mtT p t h = some h') (ht : P t) (hv : Within h P) : Within h' P := by
  unfold mtT at he
  split at he
  · split at he
    · split at he
      · cases he; exact hv
      · cases he
    · cases he
      intro d hd
      rcases List.mem_append.1 hd with hd | hd
      · exact hv d hd
      · simp at hd; subst hd; exact ht
  · split at he
    · exact ih _ _ _ he (hP t ht) hv
    · cases he
theorem mtL_within {P : Tm → Prop} (hP : ∀ x, P x → ∀ y ∈ x.args, P y) : ∀ (l ts : List Tm) (h h' : List Bd), mtL l ts h = some h' → (∀ y ∈ ts, P y) → Within h P → Within h' P := by
  intro l
  induction l using Tm.indL with
  | h0 =>
    intro ts h h' he ht hv
    simp [mtL] at he
    subst he
    exact hv
  | h s l r ihl ihr =>
    intro ts h h' he ht hv
    cases ts with
    | nil => simp [mtL] at he
    | cons t ts =>
      rw [mtL_cons] at he
      cases h1 : mtT ⟨s, l⟩ t h with
      | none => simp only [h1] at he; cases he
      | some g =>
        simp only [h1] at he
        exact ihr _ _ _ he (fun y hy => ht y (by simp [hy])) (mtT_withinOne (p := ⟨s, l⟩) hP ihl h1 (ht t (by simp)) hv)
/-- What stands for the variables of a rule's left side lies below the knot that it fits. -/
theorem mtT_below {P : Tm → Prop} (hP : ∀ x, P x → ∀ y ∈ x.args, P y) {p t : Tm} {h' : List Bd} (hnv : varB p.name = false) (he : mtT p t [] = some h') (ht : ∀ y ∈ t.args, P y) : Within h' P := by
  unfold mtT at he
  rw [if_neg (by rw [hnv]; simp)] at he
  split at he
  · exact mtL_within hP _ _ _ _ he ht (by intro d hd; simp at hd)
  · cases he
/-- No step is there. -/
def noStep (rs : List Pr) (x : Tm) : Prop := noFit rs [x]
theorem noStep_down (rs : List Pr) : ∀ x, noStep rs x → ∀ y ∈ x.args, noStep rs y := fun x h y hy => noFit_mem.1 (noFit_one.1 h).2 y hy
/-- The first rule that fits, and what it makes. -/
theorem fits_first {rs : List Pr} {x : Tm} {y : Ft} (hr : ∀ p ∈ rs, ruleE p = 0) (h : [y] <+: fitsL rs x) : y.1 ∈ rs ∧ mtT y.1.l x [] = some y.2 ∧ fstT rs x = some (gT y.2 y.1.r) ∧ VarN y.2 := by
  have key : ∀ rs : List Pr, (∀ p ∈ rs, ruleE p = 0) → [y] <+: fitsL rs x → y.1 ∈ rs ∧ mtT y.1.l x [] = some y.2 ∧ fstT rs x = some (gT y.2 y.1.r) := by
    intro rs
    induction rs with
    | nil => intro _ h; simp [fitsL] at h
    | cons r rs ih =>
      intro hr h
      cases hm : mtT r.l x [] with
      | none =>
        have e1 : fitsL (r :: rs) x = fitsL rs x := by unfold fitsL; rw [List.filterMap_cons]; simp [hm]
        rw [e1] at h
        obtain ⟨h1, h2, h3⟩ := ih (fun p hp => hr p (by simp [hp])) h
        refine ⟨by simp [h1], h2, ?_⟩
        unfold fstT at *
        rw [List.findSome?_cons]
        have e2 : fitT r x = none := by unfold fitT; rw [hm]; rfl
        rw [e2]
        exact h3
      | some g =>
        have e1 : fitsL (r :: rs) x = (r, g) :: fitsL rs x := by unfold fitsL; rw [List.filterMap_cons]; simp [hm]
        rw [e1] at h
        have e2 : y = (r, g) := by
          obtain ⟨q, hq⟩ := h
          simp at hq
          exact hq.1
        subst e2
        refine ⟨by simp, hm, ?_⟩
        unfold fstT
        rw [List.findSome?_cons]
        have e3 : fitT r x = some (onT g r.r) := by unfold fitT; rw [hm]; rfl
        rw [e3, gT_on (mtT_var hm) r.r (ruleE_parts (hr r (by simp))).2.1]
  obtain ⟨h1, h2, h3⟩ := key rs hr h
  exact ⟨h1, h2, h3, mtT_var h2⟩
theorem fits_none {rs : List Pr} {x : Tm} (h : fitsL rs x = []) : fstT rs x = none := by
  unfold fstT
  rw [List.findSome?_eq_none_iff]
  intro r hr
  unfold fitsL at h
  rw [List.filterMap_eq_nil_iff] at h
  have := h r hr
  unfold fitT
  cases hm : mtT r.l x [] with
  | none => rfl
  | some g => rw [hm] at this; simp at this
/-- What innermost working out says: with so many steps done, in what is around, the rest goes on from x; or an error ends it. -/
def InOk (rs : List Pr) (C : Tm → Tm) (m d : Nat) (t0 x : Tm) (d' : Nat) : Prop := d ≤ d' ∧ d' ≤ m ∧ noStep rs x ∧ sizeL [C x] ≤ 2000 ∧ endP rs true (m - d) (C t0) = shiftN (d' - d) (endP rs true (m - d') (C x))
theorem InOk.here {rs : List Pr} {C : Tm → Tm} {m d : Nat} {x : Tm} (hd : d ≤ m) (h : noStep rs x) (hz : sizeL [C x] ≤ 2000) : InOk rs C m d x x d :=
  ⟨Nat.le_refl _, hd, h, hz, by rw [Nat.sub_self]; exact (shiftN_zero (endP_form _ _ _ _)).symm⟩
theorem InOk.trans {rs : List Pr} {C : Tm → Tm} {m d d1 d2 : Nat} {t0 t1 x : Tm} (h1 : d ≤ d1) (h2 : endP rs true (m - d) (C t0) = shiftN (d1 - d) (endP rs true (m - d1) (C t1))) (h : InOk rs C m d1 t1 x d2) : InOk rs C m d t0 x d2 := by
  obtain ⟨a, b, c, z, e⟩ := h
  refine ⟨by omega, b, c, z, ?_⟩
  rw [h2, e, shiftN_add]
  congr 1
  omega
/-- One step in what is around. -/
theorem in_step {rs : List Pr} {C : Tm → Tm} {k m d : Nat} {a a' : Tm} (hC : CtxZ rs C k) (h : nextT rs true a = some a') (hd : d < m) (hz : sizeL [a'] + k ≤ 2000) : endP rs true (m - d) (C a) = shiftN (d + 1 - d) (endP rs true (m - (d + 1)) (C a')) := by
  have e1 : m - d = (m - (d + 1)) + 1 := by omega
  have e2 : d + 1 - d = 1 := by omega
  rw [e1, e2]
  exact endP_step (hC.1 _ _ h) (by rw [hC.2]; exact hz)
theorem in_fuel {rs : List Pr} {C : Tm → Tm} {k m : Nat} {a a' : Tm} (hC : CtxZ rs C k) (h : nextT rs true a = some a') : endP rs true (m - m) (C a) = (9, ⟨⟨#[]⟩, []⟩, 0) := by
  rw [Nat.sub_self]
  exact endP_zero (hC.1 _ _ h)
theorem in_full {rs : List Pr} {C : Tm → Tm} {k m d : Nat} {a a' : Tm} (hC : CtxZ rs C k) (h : nextT rs true a = some a') (hd : d < m) (hz : 2000 < sizeL [a'] + k) : endP rs true (m - d) (C a) = (8, ⟨⟨#[]⟩, []⟩, 0) := by
  have e1 : m - d = (m - (d + 1)) + 1 := by omega
  rw [e1]
  exact endP_full (hC.1 _ _ h) (by rw [hC.2]; exact hz)
theorem inner_topT {rs : List Pr} {t : Tm} (hl : noFit rs t.args) : nextT rs true t = fstT rs t := by
  obtain ⟨s, l⟩ := t
  exact inner_top hl
#print axioms fits_first
end Go.Proofs.Ytccbocefgoccdaa

/- Plain: matching is sound; rules that go down make every step go down; how great what one step makes is; where steps end, nothing fits. -/
namespace Go.Proofs.Ytccbocefgoccdaa
open Go.RowKit
set_option linter.unusedSimpArgs false
set_option linter.unusedVariables false

theorem forT_appOld {n : ByteArray} {x : Tm} {e : List Bd} : ∀ {h : List Bd}, forT h n = some x → forT (h ++ e) n = some x
  | [], h => by simp [forT] at h
  | d :: r, h => by
    rw [forT] at h
    rw [List.cons_append, forT]
    split at h
    · rename_i e; rw [if_pos e]; exact h
    · rename_i e; rw [if_neg e]; exact forT_appOld h
theorem forT_appNew {n : ByteArray} {x : Tm} : ∀ {h : List Bd}, forT h n = none → forT (h ++ [⟨n, x⟩]) n = some x
  | [], _ => by simp [forT]
  | d :: r, h => by
    rw [forT] at h
    rw [List.cons_append, forT]
    split at h
    · cases h
    · rename_i e; rw [if_neg e]; exact forT_appNew h
theorem forT_memD {n : ByteArray} {x : Tm} : ∀ {h : List Bd}, forT h n = some x → ∃ d ∈ h, d.nm = n ∧ d.t = x
  | [], h => by simp [forT] at h
  | d :: r, h => by
    rw [forT] at h
    split at h
    · rename_i e; exact ⟨d, by simp, e, by simpa using h⟩
    · obtain ⟨d', h1, h2⟩ := forT_memD h
      exact ⟨d', by simp [h1], h2⟩
/-- What stands in one stands in the other. -/
def ExtB (h g : List Bd) : Prop := ∀ n x, forT h n = some x → forT g n = some x
theorem mtT_soundOne {p t : Tm} {h h' : List Bd} (hv : varB p.name = true → p.args = []) (ih : ∀ ts g g', p.args.length = ts.length → mtL p.args ts g = some g' → ExtB g g' ∧ ∀ k, VarsB k → ExtB g' k → onL k p.args = ts) (he : mtT p t h = some h') : ExtB h h' ∧ ∀ k, VarsB k → ExtB h' k → onT k p = t := by
  obtain ⟨s, a⟩ := p
  unfold mtT at he
  simp only at he hv ih
  split at he
  · rename_i h1
    have ha := hv h1
    subst ha
    split at he
    · rename_i x hx
      split at he
      · rename_i h2
        cases he
        have e : x = t := sameB_iff.1 h2
        subst e
        exact ⟨fun _ _ h => h, fun k _ hk => onT_some (hk _ _ hx)⟩
      · cases he
    · rename_i hx
      cases he
      exact ⟨fun _ _ h => forT_appOld h, fun k _ hk => onT_some (hk _ _ (forT_appNew hx))⟩
  · rename_i h1
    split at he
    · rename_i h2
      rw [Bool.and_eq_true] at h2
      obtain ⟨i1, i2⟩ := ih _ _ _ (by simpa using h2.2) he
      refine ⟨i1, fun k hk hk2 => ?_⟩
      have hn : forT k s = none := by
        cases hf : forT k s with
        | none => rfl
        | some x => exact absurd (hk _ _ hf) h1
      rw [onT_deep (Or.inr hn), i2 k hk hk2]
      have e : s = t.name := bytes_inj (by simpa using h2.1)
      obtain ⟨s2, l2⟩ := t
      simp only at e ⊢
      rw [e]
    · cases he
theorem mtL_sound : ∀ (l ts : List Tm) (h h' : List Bd), errL l = 0 → l.length = ts.length → mtL l ts h = some h' → ExtB h h' ∧ ∀ k, VarsB k → ExtB h' k → onL k l = ts := by
  intro l
  induction l using Tm.indL with
  | h0 =>
    intro ts h h' _ hl he
    simp [mtL] at he
    subst he
    have e : ts = [] := by cases ts with | nil => rfl | cons a b => simp at hl
    subst e
    exact ⟨fun _ _ h => h, fun _ _ _ => by simp [onL]⟩
  | h s l r ihl ihr =>
    intro ts h h' hE hl he
    obtain ⟨e1, e2, e3⟩ := errL_partsR hE
    cases ts with
    | nil => simp at hl
    | cons t ts =>
      rw [mtL_cons] at he
      cases h1 : mtT ⟨s, l⟩ t h with
      | none => simp only [h1] at he; cases he
      | some g =>
        simp only [h1] at he
        obtain ⟨a1, a2⟩ := mtT_soundOne (p := ⟨s, l⟩) e1 (fun ts g g' h1 h2 => ihl ts g g' e2 h1 h2) h1
        obtain ⟨b1, b2⟩ := ihr ts g h' e3 (by simpa using hl) he
        refine ⟨fun n x h => b1 _ _ (a1 _ _ h), fun k hk hk2 => ?_⟩
        rw [onL_cons, a2 k hk (fun n x h => hk2 _ _ (b1 _ _ h)), b2 k hk hk2]
/-- What a rule's left side fits is the left side with what stands for its variables. -/
theorem mtT_sound {p t : Tm} {h : List Bd} (hE : errL [p] = 0) (he : mtT p t [] = some h) : VarsB h ∧ onT h p = t := by
  have hv : VarsB h := fun n x hx => by
    obtain ⟨d, hd, e, _⟩ := forT_memD hx
    rw [← e]; exact mtT_var he d hd
  have e1 : (varB p.name = true → p.args = []) ∧ errL p.args = 0 := by
    obtain ⟨s, a⟩ := p
    obtain ⟨e1, e2, _⟩ := errL_partsR hE
    exact ⟨e1, e2⟩
  exact ⟨hv, (mtT_soundOne e1.1 (fun ts g g' h1 h2 => mtL_sound p.args ts g g' e1.2 h1 h2) he).2 h hv (fun _ _ h => h)⟩

theorem errL_allD {l : List Tm} : errL l = 0 ↔ ∀ t ∈ l, errL [t] = 0 := by
  induction l with
  | nil => simp [errL]
  | cons t r ih =>
    rw [errL_cons]
    constructor
    · intro h
      split at h
      · rename_i h0
        intro y hy
        rcases List.mem_cons.1 hy with rfl | hy
        · exact h0
        · exact ih.1 h y hy
      · rename_i h0; exact absurd h h0
    · intro h
      rw [if_pos (h t (by simp))]
      exact ih.2 fun y hy => h y (by simp [hy])
theorem err_argsD {t : Tm} (h : errL [t] = 0) : ∀ y ∈ t.args, errL [y] = 0 := by
  obtain ⟨s, a⟩ := t
  exact errL_allD.1 (errL_partsR h).2.1
theorem err_knotD {s : ByteArray} {a b : List Tm} (h : errL [(⟨s, a⟩ : Tm)] = 0) (hl : a = [] → b = []) (hb : errL b = 0) : errL [(⟨s, b⟩ : Tm)] = 0 := by
  have h1 := (errL_partsR h).1
  have hn : nameB s = true := by
    cases hn : nameB s with
    | true => rfl
    | false => simp [errL, hn] at h
  cases hv : varB s with
  | false => simp [errL, hn, hv, hb]
  | true =>
    have := hl (h1 hv)
    subst this
    simp [errL, hn, hv]
theorem err_onLD {g : List Bd} (hg : ∀ d ∈ g, errL [d.t] = 0) : ∀ l : List Tm, errL l = 0 → errL (onL g l) = 0 := by
  intro l
  induction l using Tm.indL with
  | h0 => intro _; simp [onL, errL]
  | h s l r ihl ihr =>
    intro hE
    obtain ⟨e1, e2, e3⟩ := errL_partsR hE
    have h1 : errL [(⟨s, l⟩ : Tm)] = 0 := errL_allD.1 hE _ (by simp)
    have hk : errL [(⟨s, onL g l⟩ : Tm)] = 0 := err_knotD h1 (fun h => by rw [h]; simp [onL]) (ihl e2)
    rw [onL, errL_cons, if_pos, ihr e3]
    unfold onN
    cases hf : forT g s with
    | none => exact hk
    | some x =>
      simp only
      split
      · obtain ⟨d, hd, _, e⟩ := forT_memD hf
        rw [← e]; exact hg d hd
      · exact hk
theorem size_onLD {g : List Bd} {M : Nat} (hM : 1 ≤ M) (hg : ∀ d ∈ g, sizeL [d.t] ≤ M) : ∀ l : List Tm, sizeL (onL g l) ≤ sizeL l * M := by
  intro l
  induction l using Tm.indL with
  | h0 => simp [onL, sizeL]
  | h s l r ihl ihr =>
    have e1 : sizeL ((⟨s, l⟩ : Tm) :: r) * M = M + sizeL l * M + sizeL r * M := by
      simp only [sizeL]
      rw [Nat.add_mul, Nat.add_mul, Nat.one_mul]
    have hk : sizeL [(⟨s, onL g l⟩ : Tm)] ≤ M + sizeL l * M := by simp only [sizeL]; omega
    rw [e1, onL]
    have e2 : ∀ (y : Tm) (q : List Tm), sizeL (y :: q) = sizeL [y] + sizeL q := fun y q => by obtain ⟨a, b⟩ := y; simp [sizeL]
    rw [e2]
    refine Nat.add_le_add ?_ ihr
    unfold onN
    cases hf : forT g s with
    | none => exact hk
    | some x =>
      simp only
      split
      · obtain ⟨d, hd, _, e⟩ := forT_memD hf
        have := hg d hd
        rw [e] at this
        omega
      · exact hk
theorem onL_one (g : List Bd) (t : Tm) : onL g [t] = [onT g t] := by rw [onL_cons]; simp [onL]
theorem err_mayD {t : Tm} (h : mayE t = 0) : errL [t] = 0 := by
  unfold mayE at h
  split at h
  · cases h
  · exact h
/-- What is put into a place of a term. -/
theorem err_putD {y : Tm} (hy : errL [y] = 0) : ∀ (p : List Int) (t x : Tm), errL [t] = 0 → atT t p = some x → errL [putT y p t] = 0 ∧ errL [x] = 0
  | [], t, x, ht, h => by simp [atT] at h; subst h; simp [putT]; exact ⟨hy, ht⟩
  | i :: r, t, x, ht, h => by
    obtain ⟨k, hk, rfl, h2⟩ := atT_cons h
    have ha := err_argsD ht
    obtain ⟨h3, h4⟩ := err_putD hy r _ x (ha _ (List.getElem_mem hk)) h2
    refine ⟨?_, h4⟩
    obtain ⟨s, l⟩ := t
    have e1 := putL_set (putT y r) l 0 k hk
    rw [Nat.zero_add] at e1
    rw [putT, e1]
    refine err_knotD ht (fun h => by simp only at h hk; subst h; simp at hk) (errL_allD.2 fun z hz => ?_)
    rcases List.mem_or_eq_of_mem_set hz with hz | rfl
    · exact ha z hz
    · exact h3
theorem path_put {row : List ByteArray} {y : Tm} : ∀ (p : List Int) (t x : Tm), errL [t] = 0 → atT t p = some x → pathB row x y = true → pathB row t (putT y p t) = true
  | [], t, x, ht, h, hp => by simp [atT] at h; subst h; simpa [putT] using hp
  | i :: r, t, x, ht, h, hp => by
    obtain ⟨k, hk, rfl, h2⟩ := atT_cons h
    have h3 := path_put r _ x (err_argsD ht _ (List.getElem_mem hk)) h2 hp
    obtain ⟨s, l⟩ := t
    simp only at hk h3
    have e1 := putL_set (putT y r) l 0 k hk
    rw [Nat.zero_add] at e1
    have hs : varB s = false := by
      cases hv : varB s with
      | false => rfl
      | true => have := (errL_partsR ht).1 hv; subst this; simp at hk
    have e2 : l.set k (putT y r l[k]) = l.take k ++ putT y r l[k] :: l.drop (k + 1) := List.set_eq_take_append_cons_drop .. |>.trans (by rw [if_pos hk])
    have e3 : l = l.take k ++ l[k] :: l.drop (k + 1) := by rw [← List.drop_eq_getElem_cons hk, List.take_append_drop]
    rw [putT]
    simp only
    rw [e1, e2]
    have h4 := path_ctx (row := row) hs (l.take k) (l.drop (k + 1)) h3
    rw [← e3] at h4
    exact h4
/-- One step. -/
theorem step_facts {rs : List Pr} {t x : Tm} (hr : ∀ p ∈ rs, ruleE p = 0) (ht : errL [t] = 0) (hx : x ∈ stAll rs t) :
    errL [x] = 0 ∧ (∀ row, (∀ p ∈ rs, pathB row p.l p.r = true) → pathB row t x = true) ∧ ∀ K, (∀ p ∈ rs, sizeL [p.r] ≤ K) → sizeL [x] ≤ K * sizeL [t] + sizeL [t] := by
  unfold stAll at hx
  obtain ⟨p, hp, h1⟩ := List.mem_flatMap.1 hx
  unfold stAt at h1
  cases ha : atT t p with
  | none => rw [ha] at h1; simp at h1
  | some z =>
    rw [ha] at h1
    simp only at h1
    obtain ⟨r, hrm, h2⟩ := List.mem_filterMap.1 h1
    unfold fitT at h2
    cases hm : mtT r.l z [] with
    | none => rw [hm] at h2; simp at h2
    | some g =>
      rw [hm] at h2
      simp only [Option.map_some, Option.some.injEq] at h2
      subst h2
      obtain ⟨q1, q2, q3, _⟩ := ruleE_parts (hr r hrm)
      have hz0 := (err_putD ht p t z ht ha).2
      have hzs := size_at p t z ha
      obtain ⟨v1, v2⟩ := mtT_sound (err_mayD q1) hm
      have hw : Within g (fun y => errL [y] = 0 ∧ sizeL [y] ≤ sizeL [t]) := mtT_below (fun y hy c hc => ⟨err_argsD hy.1 c hc, by have := hy.2; have h9 := size_arg hc; omega⟩) q3 hm (fun c hc => ⟨err_argsD hz0 c hc, by have h9 := size_arg hc; omega⟩)
      have he : errL [onT g r.r] = 0 := by
        have := err_onLD (g := g) (fun d hd => (hw d hd).1) [r.r] (err_mayD q2)
        rw [onL_one] at this; exact this
      refine ⟨(err_putD he p t z ht ha).1, fun row hrow => ?_, fun K hK => ?_⟩
      · refine path_put p t z ht ha ?_
        have := path_on (row := row) v1 _ r.l r.r (Nat.le_refl _) (hrow r hrm)
        rw [v2] at this
        exact this
      · have h8 := put_size (onT g r.r) p t z ha
        have h9 := size_onLD (g := g) (M := sizeL [t]) (by obtain ⟨a, b⟩ := t; simp [sizeL]) (fun d hd => (hw d hd).2) [r.r]
        rw [onL_one] at h9
        have h10 := Nat.mul_le_mul_right (sizeL [t]) (hK r hrm)
        omega
theorem stAll_nil {rs : List Pr} {t : Tm} : stAll rs t = [] ↔ noFit rs [t] := by
  rw [← nextP_none rs false t]
  unfold stAll nextP
  rw [List.flatMap_eq_nil_iff, List.find?_eq_none]
  have key : ∀ p, stAt rs t p = [] ↔ ¬ okP rs false t p = true := by
    intro p
    unfold stAt okP
    cases ha : atT t p with
    | none => simp
    | some x =>
      simp only
      have h1 : fstT rs x = none ↔ ∀ r ∈ rs, fitT r x = none := by unfold fstT; rw [List.findSome?_eq_none_iff]
      rw [fstT_none] at h1
      unfold okAt
      simp only [Bool.not_false, Bool.true_or, Bool.and_true, Bool.not_eq_true]
      rw [h1, List.filterMap_eq_nil_iff]
      constructor
      · intro h r hr
        have := h r hr
        simpa using this
      · intro h r hr
        rw [h r hr]; rfl
  constructor
  · intro h p hp; exact (key p).1 (h p hp)
  · intro h p hp; exact (key p).2 (h p hp)
theorem nextT_mem {rs : List Pr} {inner : Bool} {t t' : Tm} (h : nextT rs inner t = some t') : t' ∈ stAll rs t := by
  cases hp : nextP rs inner t with
  | none => unfold nextT at h; rw [hp] at h; cases h
  | some p =>
    obtain ⟨x, y, h1, h2, h3⟩ := nextT_some hp
    rw [h] at h3
    cases h3
    have hpm : p ∈ plcT t := List.mem_of_find?_eq_some hp
    refine List.mem_flatMap.2 ⟨p, hpm, ?_⟩
    unfold stAt
    rw [h1]
    unfold fstT at h2
    obtain ⟨r, hr, h4⟩ := List.exists_of_findSome?_eq_some h2
    exact List.mem_filterMap.2 ⟨r, hr, by rw [h4]; rfl⟩
/-- Where all steps end. -/
theorem end_facts {rs : List Pr} {inner : Bool} (hr : ∀ p ∈ rs, ruleE p = 0) : ∀ (m : Nat) (t x : Tm) (n : Nat), errL [t] = 0 → endP rs inner m t = (0, x, n) → errL [x] = 0 ∧ noFit rs [x] ∧ (n = 0 ↔ noFit rs [t]) := by
  intro m
  induction m with
  | zero =>
    intro t x n ht h
    cases hn : nextT rs inner t with
    | none =>
      rw [endP_none hn] at h
      cases h
      have := (nextT_none rs inner t).1 hn
      exact ⟨ht, this, by simp [this]⟩
    | some t' => rw [endP_zero hn] at h; cases h
  | succ m ih =>
    intro t x n ht h
    cases hn : nextT rs inner t with
    | none =>
      rw [endP_none hn] at h
      cases h
      have := (nextT_none rs inner t).1 hn
      exact ⟨ht, this, by simp [this]⟩
    | some t' =>
      have hno : ¬ noFit rs [t] := fun h2 => by rw [(nextT_none rs inner t).2 h2] at hn; cases hn
      by_cases hz : 2000 < sizeL [t']
      · rw [endP_full hn hz] at h; cases h
      · rw [endP_step hn (by omega)] at h
        have ht' := (step_facts hr ht (nextT_mem hn)).1
        unfold shiftN at h
        split at h
        · rename_i h0
          cases h
          obtain ⟨h1, h2, _⟩ := ih t' (endP rs inner m t').2.1 (endP rs inner m t').2.2 ht' (Prod.ext h0 rfl)
          exact ⟨h1, h2, by simp [hno]⟩
        · rename_i h0
          simp only [Prod.mk.injEq] at h
          exact absurd h.1 h0
#print axioms step_facts
#print axioms end_facts
#print axioms stAll_nil
end Go.Proofs.Ytccbocefgoccdaa

/- Texts read as terms: what both readers do. -/
namespace Go.Proofs.Ytccbocefgoccdaa
open Go.RowKit
set_option linter.unusedSimpArgs false
set_option linter.unusedVariables false

/-- Where the letters and digits from i on end. -/
def stopF (s : ByteArray) : Nat → Nat → Nat
  | 0, i => i
  | f + 1, i => if i < s.size ∧ alnB (byteAt s i) = true then stopF s f (i + 1) else i
def stopAt (s : ByteArray) (i : Nat) : Nat := stopF s (s.size - i) i

theorem stopF_ge (s : ByteArray) : ∀ f i, i ≤ stopF s f i
  | 0, i => Nat.le_refl _
  | f + 1, i => by
    unfold stopF; split
    · have := stopF_ge s f (i + 1); omega
    · exact Nat.le_refl _
theorem stopF_le (s : ByteArray) : ∀ f i, i ≤ s.size → stopF s f i ≤ s.size
  | 0, i, h => h
  | f + 1, i, h => by
    unfold stopF; split
    · rename_i hc; exact stopF_le s f (i + 1) hc.1
    · exact h
theorem stopAt_ge (s : ByteArray) (i : Nat) : i ≤ stopAt s i := stopF_ge s _ i
theorem stopAt_le (s : ByteArray) {i : Nat} (h : i ≤ s.size) : stopAt s i ≤ s.size := stopF_le s _ i h
theorem stopAt_go {s : ByteArray} {i : Nat} (h : i < s.size) (ha : alnB (byteAt s i) = true) : stopAt s i = stopAt s (i + 1) := by
  have e : s.size - i = (s.size - (i + 1)) + 1 := by omega
  unfold stopAt
  rw [e, stopF, if_pos ⟨h, ha⟩]
theorem stopAt_end {s : ByteArray} {i : Nat} (h : ¬ (i < s.size ∧ alnB (byteAt s i) = true)) : stopAt s i = i := by
  unfold stopAt
  cases hf : s.size - i with
  | zero => rfl
  | succ f => rw [stopF, if_neg h]

/-- What reading gives: an error (0: none), a term, where it ended, how many knots there were. -/
structure Rd where
  err : Int
  t : Tm
  pos : Nat
  k : Nat
def noRd (e : Int) : Rd := ⟨e, ⟨⟨#[]⟩, []⟩, 0, 0⟩

/-- A term from i on; or, behind a name and some terms below it, the next one from behind i on. -/
def rd (s : ByteArray) : Nat → Option (ByteArray × List Tm) → Nat → Nat → Rd
  | 0, _, _, _ => noRd 99
  | f + 1, none, i, k =>
    if stopAt s i = i then noRd (if i = s.size then 13 else 12)
    else if nameB (s.extract i (stopAt s i)) = false then noRd 1
    else if 200 < k + 1 then noRd 3
    else if stopAt s i < s.size ∧ byteAt s (stopAt s i) = 40 then
      if varB (s.extract i (stopAt s i)) = true then noRd 2 else rd s f (some (s.extract i (stopAt s i), [])) (stopAt s i) (k + 1)
    else ⟨0, ⟨s.extract i (stopAt s i), []⟩, stopAt s i, k + 1⟩
  | f + 1, some (nm, acc), i, k =>
    if (rd s f none (i + 1) k).err ≠ 0 then noRd (rd s f none (i + 1) k).err
    else if (rd s f none (i + 1) k).pos = s.size then noRd 13
    else if byteAt s (rd s f none (i + 1) k).pos = 41 then ⟨0, ⟨nm, acc ++ [(rd s f none (i + 1) k).t]⟩, (rd s f none (i + 1) k).pos + 1, (rd s f none (i + 1) k).k⟩
    else if byteAt s (rd s f none (i + 1) k).pos = 44 then rd s f (some (nm, acc ++ [(rd s f none (i + 1) k).t])) (rd s f none (i + 1) k).pos (rd s f none (i + 1) k).k
    else noRd 12

theorem noRd_err (e : Int) (h : e ≠ 0) : (noRd e).err ≠ 0 := h

/-- Where it ends lies behind where it began, and within the text. -/
theorem rd_pos (s : ByteArray) : ∀ f m i k, (rd s f m i k).err = 0 → i ≤ s.size → (m.isSome = true → i < s.size) → i < (rd s f m i k).pos ∧ (rd s f m i k).pos ≤ s.size := by
  intro f
  induction f with
  | zero => intro m i k h; simp [rd, noRd] at h
  | succ f ih =>
    intro m i k h hi hm
    match m with
    | none =>
      have h1 := stopAt_ge s i
      have h2 := stopAt_le s (i := i) (by omega)
      unfold rd at h ⊢
      split at h
      · exfalso; revert h; simp only [noRd]; split <;> omega
      · rename_i hne
        rw [if_neg hne]
        split at h
        · exfalso; revert h; simp [noRd]
        · rename_i h3
          rw [if_neg h3]
          split at h
          · exfalso; revert h; simp [noRd]
          · rename_i h4
            rw [if_neg h4]
            split at h
            · rename_i h5
              rw [if_pos h5]
              split at h
              · exfalso; revert h; simp [noRd]
              · rename_i h6
                rw [if_neg h6]
                have := ih _ _ _ h (by omega) (fun _ => h5.1)
                omega
            · rename_i h5
              rw [if_neg h5]
              exact ⟨by show i < stopAt s i; omega, h2⟩
    | some (nm, acc) =>
      unfold rd at h ⊢
      split at h
      · rename_i h1
        exact absurd h h1
      · rename_i h1
        rw [if_neg h1]
        simp only [ne_eq, Decidable.not_not] at h1
        split at h
        · exfalso; revert h; simp [noRd]
        · rename_i h2
          rw [if_neg h2]
          have hi2 : i < s.size := hm rfl
          · have h3 := ih none (i + 1) k h1 (by omega) (fun h => by cases h)
            split at h
            · rename_i h4
              rw [if_pos h4]
              exact ⟨by show i < (rd s f none (i + 1) k).pos + 1; omega, by show (rd s f none (i + 1) k).pos + 1 ≤ s.size; omega⟩
            · rename_i h4
              rw [if_neg h4]
              split at h
              · rename_i h5
                rw [if_pos h5]
                have := ih _ _ _ h (by omega) (fun _ => by omega)
                omega
              · exfalso; revert h; simp [noRd]
end Go.Proofs.Ytccbocefgoccdaa


/- Walks: the reader's small functions. -/
namespace Go.Proofs.Ytccbocefgoccdaa
open Go.RowKit
set_option linter.unusedSimpArgs false
set_option linter.unusedVariables false
set_option maxRecDepth 8000

/-- What is thrown. -/
def thrown (r : Int) : Ending := .panicked [{ v := .iface 30 (.int .i64 r), recovered := false }]
end Go.Proofs.Ytccbocefgoccdaa


/- Walks: the reader's names. -/
namespace Go.Proofs.Ytccbocefgoccdaa
open Go.RowKit
set_option linter.unusedSimpArgs false
set_option linter.unusedVariables false
set_option maxRecDepth 8000

/-- How far the reader is. -/
def rdAt (w : World) (B : Nat) : Nat := match w.cell? ⟨B, 1, none⟩ with
  | some (.int _ n) => n.toNat
  | _ => 0
theorem ext_size (s : ByteArray) {i j : Nat} (hj : j ≤ s.size) : (s.extract i j).size = j - i := by
  rw [ByteArray.size_extract]; omega
theorem ext_empty {s : ByteArray} {i j : Nat} (hj : j ≤ s.size) (h : j ≤ i) : (s.extract i j).toList.isEmpty = true := isEmpty_zero (by rw [ext_size s hj]; omega)
theorem ext_some {s : ByteArray} {i j : Nat} (hj : j ≤ s.size) (h : i < j) : (s.extract i j).toList.isEmpty = false := isEmpty_pos (by rw [ext_size s hj]; omega)

end Go.Proofs.Ytccbocefgoccdaa


/- Walks: the reader's terms. -/
namespace Go.Proofs.Ytccbocefgoccdaa
open Go.RowKit
set_option linter.unusedSimpArgs false
set_option linter.unusedVariables false
set_option maxRecDepth 8000

/-- No more knots than may be. -/
theorem rd_k (s : ByteArray) : ∀ f m i k, (rd s f m i k).err = 0 → k ≤ 200 → (rd s f m i k).k ≤ 200 := by
  intro f
  induction f with
  | zero => intro m i k h; simp [rd, noRd] at h
  | succ f ih =>
    intro m i k h hk
    match m with
    | none =>
      unfold rd at h ⊢
      split at h
      · exfalso; revert h; simp only [noRd]; split <;> omega
      · rename_i h1
        rw [if_neg h1]
        split at h
        · exfalso; revert h; simp [noRd]
        · rename_i h2
          rw [if_neg h2]
          split at h
          · exfalso; revert h; simp [noRd]
          · rename_i h3
            rw [if_neg h3]
            split at h
            · rename_i h4
              rw [if_pos h4]
              split at h
              · exfalso; revert h; simp [noRd]
              · rename_i h5
                rw [if_neg h5]
                exact ih _ _ _ h (by omega)
            · rename_i h4
              rw [if_neg h4]
              show k + 1 ≤ 200
              omega
    | some (nm, acc) =>
      unfold rd at h ⊢
      split at h
      · rename_i h1
        exact absurd h h1
      · rename_i h1
        rw [if_neg h1]
        simp only [ne_eq, Decidable.not_not] at h1
        have h3 := ih none (i + 1) k h1 hk
        split at h
        · exfalso; revert h; simp [noRd]
        · rename_i h2
          rw [if_neg h2]
          split at h
          · rename_i h4
            rw [if_pos h4]
            exact h3
          · rename_i h4
            rw [if_neg h4]
            split at h
            · rename_i h5
              rw [if_pos h5]
              exact ih _ _ _ h h3
            · exfalso; revert h; simp [noRd]

theorem sl_set2 {w w7 : World} {T : Nat} {a : Option Addr} {l : List Tm} {v0 v1 : Value} (hs : Sl w7 (fun b => T + 1 ≤ b) a l) (hT : w.heap.size < T) : Sl ((w7.setCell ⟨w.heap.size, 0, none⟩ v0).setCell ⟨w.heap.size, 1, none⟩ v1) (fun b => w.heap.size ≤ b) a l :=
  (hs.kept fun b hb => by rw [Below.heap_setCell _ _ _ _ (by simp; omega), Below.heap_setCell _ _ _ _ (by simp; omega)]).mono fun b hb _ => by omega

end Go.Proofs.Ytccbocefgoccdaa

/- Walks: the document's reader. -/
namespace Go.Proofs.Ytccbocefgoccdaa
open Go.RowKit
set_option linter.unusedSimpArgs false
set_option linter.unusedVariables false
set_option maxRecDepth 8000

def RfPost (w : World) (r : Rd) (e : Ending) (w' : World) : Prop :=
  Below w.heap.size w w' ∧ ∃ (n : ByteArray) (a : Option Addr) (l c : Nat) (y z : Int), e = .returned (.tuple #[.agg #[.string n, .slice a l c], .int .i64 y, .int .i64 z, .int .i64 r.err]) ∧ (r.err = 0 → n = r.t.name ∧ l = r.t.args.length ∧ y = r.pos ∧ z = r.k ∧ Sl w' (fun b => w.heap.size ≤ b) a r.t.args)

theorem rf_no {w w' : World} {r : Rd} {z x y : Int} {n : ByteArray} {a : Option Addr} {l c : Nat} (h : r = noRd z) (hz : z ≠ 0) (hb : Below w.heap.size w w') : RfPost w r (.returned (.tuple #[.agg #[.string n, .slice a l c], .int .i64 x, .int .i64 y, .int .i64 z])) w' := by
  subst h
  exact ⟨hb, n, a, l, c, x, y, rfl, fun h => absurd h hz⟩
theorem rf_yes {w w' : World} {r : Rd} {p k c : Nat} {nm : ByteArray} {a : Option Addr} {args : List Tm} (h : r = ⟨0, ⟨nm, args⟩, p, k⟩) (hs : Sl w' (fun b => w.heap.size ≤ b) a args) (hb : Below w.heap.size w w') : RfPost w r (.returned (.tuple #[.agg #[.string nm, .slice a args.length c], .int .i64 (p : Int), .int .i64 (k : Int), .int .i64 0])) w' := by
  subst h
  exact ⟨hb, nm, a, args.length, c, p, k, rfl, fun _ => ⟨rfl, rfl, rfl, rfl, hs⟩⟩

def RfInv (w : World) (T F : Nat) (s nm : ByteArray) (r : Rd) (v1 v2 : Value) (wr : World) : Prop :=
  ∃ (f' : Nat) (acc : List Tm) (j k' : Nat) (u : Value) (xs : List Value), v1 = .int .i64 (j : Int) ∧ v2 = .int .i64 (k' : Int) ∧ f' + 1 < F ∧ 2 * (s.size - j) + 1 ≤ f' ∧ j < s.size ∧ acc.length ≤ j ∧ k' ≤ 200 ∧ r = rd s (f' + 1) (some (nm, acc)) j k' ∧ Row wr (T + 1) 27 (fun _ => False) u acc xs ∧ Below w.heap.size w wr ∧ Blk wr w.heap.size #[.string ⟨#[]⟩, .slice none 0 0] 27 ∧ Blk wr T #[.string nm, u] 27 ∧ T < wr.heap.size

theorem rf_step {w wr w1 w3 : World} {T Ty : Nat} {u : Value} {acc : List Tm} {xs : List Value} {o2 : Obj} {s' nm : ByteArray} {a1 : Option Addr} {n1 c1 g cap : Nat} {cR : Array Value} {t : Tm} (hwT : w.heap.size < T) (hTr : T < wr.heap.size)
    (hrow : Row wr (T + 1) Ty (fun _ => False) u acc xs) (hx : Below w.heap.size w wr) (hR : Blk wr w.heap.size cR Ty) (hT : Blk wr T #[.string nm, u] Ty)
    (he1 : Below wr.heap.size wr w1) (ht : TV w1 (fun b => wr.heap.size ≤ b) (.agg #[.string s', .slice a1 n1 c1]) t)
    (hown : w3.ownsRow (T + 1) Ty 2 (.slice (some ⟨g, 0, none⟩) (acc.length + 1) cap) (acc.length + 1) (xs ++ [.string s', .slice a1 n1 c1])) (hg : (w1.alloc o2).grownBy w3 u.ownBlock) (hat : u.ownBlock = some g ∨ g = (w1.alloc o2).heap.size) :
    let w4 := w3.setCell ⟨T, 1, none⟩ (.slice (some ⟨g, 0, none⟩) (acc.length + 1) cap)
    Row w4 (T + 1) Ty (fun _ => False) (.slice (some ⟨g, 0, none⟩) (acc.length + 1) cap) (acc ++ [t]) (xs ++ [.string s', .slice a1 n1 c1]) ∧ Below w.heap.size w w4 ∧ Blk w4 w.heap.size cR Ty ∧ Blk w4 T #[.string nm, .slice (some ⟨g, 0, none⟩) (acc.length + 1) cap] Ty ∧ T < w4.heap.size := by
  intro w4
  have hlt' := hrow.own.lt
  have hp := hrow.push (w1 := w1) (w2 := w1.alloc o2) (w3 := w3) (by omega) (fun _ h => h.elim) he1 (ht.mono fun b h _ => Or.inr h) o2 rfl hown hg hat
  have hne : ∀ b, b < T + 1 → some b ≠ u.ownBlock := fun b hb e => by have := (hlt' b e.symm).1; omega
  have hs1 := he1.size
  have hsx := hx.size
  have hx3 : Below w.heap.size w w3 := ((hx.trans (he1.mono (by omega))).alloc (by omega) o2).grown hg (by simp; omega) (fun k hk => by have := (hlt' k hk).1; omega)
  have hs3 := hg.size
  simp at hs3
  refine ⟨hp.setCell (by omega) (fun h => h) _, hx3.setCell (p := ⟨T, 1, none⟩) (by simp; omega) _, ?_, ?_, by simp [w4, World.setCell]; omega⟩
  · exact (((hR.below he1 (by omega)).alloc o2).grown hg (hne _ (by omega))).setOther _ _ (by omega)
  · exact (((hT.below he1 (by omega)).alloc o2).grown hg (hne _ (by omega))).set 1 _

theorem cell_two_new2 (w5 : World) (A : Obj) (v0 v1 : Value) (T : Nat) : ∀ j u, [v0, v1][j]? = some u → ((w5.alloc A).alloc (.cells #[v0, v1] T)).cell? ((⟨w5.heap.size + 1, 0, none⟩ : Addr).add j) = some u := by
  have h := cell_two_new (w5.alloc A) v0 v1 T
  have e : (w5.alloc A).heap.size = w5.heap.size + 1 := by simp
  rw [e] at h
  exact h

theorem rf_yes2 {w w4 : World} {r : Rd} {T Ty p k c : Nat} {nm : ByteArray} {a : Option Addr} {acc : List Tm} {t : Tm} {xs : List Value} {v0 v1 : Value} (h : r = ⟨0, ⟨nm, acc ++ [t]⟩, p + 1, k⟩) (hT : w.heap.size < T) (hr : Row w4 (T + 1) Ty (fun _ => False) (.slice a (acc.length + 1) c) (acc ++ [t]) xs) (hb : Below w.heap.size w w4) :
    RfPost w r (.returned (.tuple #[.agg #[.string nm, .slice a (acc.length + 1) c], .int .i64 ((p : Int) + 1), .int .i64 (k : Int), .int .i64 0])) ((w4.setCell ⟨w.heap.size, 0, none⟩ v0).setCell ⟨w.heap.size, 1, none⟩ v1) := by
  obtain ⟨a', c', e, hs⟩ := hr.sl
  simp at e
  obtain ⟨rfl, rfl⟩ := e
  subst h
  exact ⟨(hb.setCell (by simp) _).setCell (by simp) _, nm, a, acc.length + 1, c, (p : Int) + 1, k, rfl, fun _ => ⟨rfl, by simp, rfl, rfl, sl_set2 (hs.mono fun b hb _ => hb.elim False.elim id) hT⟩⟩

set_option maxHeartbeats 1000000 in
theorem read_any (s : ByteArray) (hs : s.size ≤ 4000) : ∀ (F i k : Nat) (w : World), i ≤ s.size → k ≤ 200 → 2 * (s.size - i) + 1 ≤ F →
    Calls Try.prog 24 #[.string s, .int .i64 (i : Int), .int .i64 (k : Int)] w fun e w' => RfPost w (rd s F none i k) e w' := by
  intro F
  induction F using Nat.strongRecOn with
  | ind F ih =>
    intro i k w hi hk hF
    have IH := hide ih
    clear ih
    obtain ⟨f, rfl⟩ : ∃ f, F = f + 1 := ⟨F - 1, by omega⟩
    obtain ⟨i0, hi0, hz0, hz1, hz2⟩ := info_parts Try.infoTerm
    have HRD : Hid (rd s (f + 1) none i k = if stopAt s i = i then noRd (if i = s.size then 13 else 12)
      else if nameB (s.extract i (stopAt s i)) = false then noRd 1
      else if 200 < k + 1 then noRd 3
      else if stopAt s i < s.size ∧ byteAt s (stopAt s i) = 40 then
        if varB (s.extract i (stopAt s i)) = true then noRd 2 else rd s f (some (s.extract i (stopAt s i), [])) (stopAt s i) (k + 1)
      else ⟨0, ⟨s.extract i (stopAt s i), []⟩, stopAt s i, k + 1⟩) := by unfold Hid; rw [rd]
    generalize rd s (f + 1) none i k = r at *
    go_enter Try.func24, Try.ntmps24
    go_wp2_with fail
    have R0 := hide (Blk.new w #[.string ⟨#[]⟩, .slice none 0 0] 27)
    have B0 := hide ((Below.refl w.heap.size w).alloc (Nat.le_refl _) (.cells #[.string ⟨#[]⟩, .slice none 0 0] 27))
    generalize w.alloc (.cells #[.string ⟨#[]⟩, .slice none 0 0] 27) = w0 at *
    have hR0 : w.heap.size < w0.heap.size := R0.out.lt
    go_loopw [1] (fun v wr => ∃ j : Nat, v = .int .i64 (j : Int) ∧ i ≤ j ∧ j ≤ s.size ∧ stopAt s i = stopAt s j ∧ wr = w0) (fun v wr => s.size - (intOf v).toNat)
    case atStart => exact ⟨i, rfl, Nat.le_refl _, hi, rfl, rfl⟩
    case round =>
      obtain ⟨j, rfl, hij, hjs, hst, rfl⟩ := hrel
      have HS := hide hst
      clear hst
      by_cases hlt : j < s.size
      · have hb := hide (byteAt_of hlt)
        cases ha : alnB (byteAt s j) with
        | true =>
          have HA := hide ha
          clear ha
          go_wp2_with (go_at_call 38; refine (isLetterR_any _ _).mono ?_; rintro e wz ⟨rfl, rfl⟩; rw [hb.out, HA.out])
          go_roundw
          case rel => exact ⟨j + 1, by go_num, by omega, by omega, by rw [HS.out, stopAt_go hlt HA.out], by trivial⟩
          case measure => simp [intOf]; omega
        | false =>
          have HA := hide ha
          have HST : Hid (stopAt s i = j) := HS.out.trans (stopAt_end (fun h => by have h1 := h.2; rw [HA.out] at h1; cases h1))
          clear ha
          by_cases hji : j = i
          · have HJI := hide hji
            have hne : ((j : Int) == (i : Int)) = true := by simp [hji]
            have hjz : ((j : Int) == (s.size : Int)) = false := by simp; omega
            clear hji
            have r0 : wr.cell? ⟨w.heap.size, 0, none⟩ = some (.string ⟨#[]⟩) := R0.out.cell 0
            have r1 : wr.cell? ⟨w.heap.size, 1, none⟩ = some (.slice none 0 0) := R0.out.cell 1
            have rf := R0.out.frozen
            go_wp2_with (go_at_call 38; refine (isLetterR_any _ _).mono ?_; rintro e wz ⟨rfl, rfl⟩; rw [hb.out, HA.out])
            refine bodyPost_ret (v := .tuple #[.agg #[.string ⟨#[]⟩, .slice none 0 0], .int .i64 (j : Int), .int .i64 (k : Int), .int .i64 12]) (by simp [results, Try.results24, go_sem, World.cell?_setCell_same, World.cell?_setCell_other, r0, r1]) rfl ?_
            exact rf_no (by rw [HRD.out, HST.out, if_pos HJI.out, if_neg (by have := HJI.out; omega)]) (by decide) ((B0.out.setCell (by simp) _).setCell (by simp) _)
          · have HJI := hide hji
            have hne : ((j : Int) == (i : Int)) = false := by simp; omega
            have hij2 : (i : Int) ≤ (j : Int) := by omega
            have hj2 : (j : Int) ≤ (s.size : Int) := by omega
            clear hji
            go_wp2_with (go_at_call 38; refine (isLetterR_any _ _).mono ?_; rintro e wz ⟨rfl, rfl⟩; rw [hb.out, HA.out])
            refine (isNameR_any _ _).mono ?_
            rintro e w9 ⟨rfl, rfl⟩
            have R1 := hide (R0.out.alloc (.cells #[.string (s.extract i j), .slice none 0 0] 27))
            have T1 := hide (Blk.new wz #[.string (s.extract i j), .slice none 0 0] 27)
            have B1 := hide (B0.out.alloc B0.out.size (.cells #[.string (s.extract i j), .slice none 0 0] 27))
            have hTT := hR0
            generalize wz.alloc (.cells #[.string (s.extract i j), .slice none 0 0] 27) = w1 at *
            clear R0 B0
            generalize wz.heap.size = T at *
            generalize hnme : s.extract i j = nm at *
            have HNME := hide hnme
            clear hnme
            have t0 : w1.cell? ⟨T, 0, none⟩ = some (.string nm) := T1.out.cell 0
            have t1 : w1.cell? ⟨T, 1, none⟩ = some (.slice none 0 0) := T1.out.cell 1
            have r0 : w1.cell? ⟨w.heap.size, 0, none⟩ = some (.string ⟨#[]⟩) := R1.out.cell 0
            have r1 : w1.cell? ⟨w.heap.size, 1, none⟩ = some (.slice none 0 0) := R1.out.cell 1
            have rf := R1.out.frozen
            cases hn : nameB nm with
            | false =>
              have HN := hide hn
              clear hn
              go_wp2_with fail
              refine bodyPost_ret (v := .tuple #[.agg #[.string nm, .slice none 0 0], .int .i64 (j : Int), .int .i64 (k : Int), .int .i64 1]) (by simp [results, Try.results24, go_sem, World.cell?_setCell_same, World.cell?_setCell_other, r0, r1]) rfl ?_
              exact rf_no (by rw [HRD.out, HST.out, if_neg HJI.out, HNME.out, if_pos HN.out]) (by decide) ((B1.out.setCell (by simp) _).setCell (by simp) _)
            | true =>
              have HN : Hid (¬ nameB nm = false) := by unfold Hid; rw [hn]; simp
              clear hn
              by_cases h3 : 200 < k + 1
              · go_wp2_with fail
                refine bodyPost_ret (v := .tuple #[.agg #[.string nm, .slice none 0 0], .int .i64 (j : Int), .int .i64 ((k : Int) + 1), .int .i64 3]) (by simp [results, Try.results24, go_sem, World.cell?_setCell_same, World.cell?_setCell_other, r0, r1]) rfl ?_
                exact rf_no (by rw [HRD.out, HST.out, if_neg HJI.out, HNME.out, if_neg HN.out, if_pos h3]) (by decide) ((B1.out.setCell (by simp) _).setCell (by simp) _)
              · have hjz : ((j : Int) == (s.size : Int)) = false := by simp; omega
                by_cases h4 : byteAt s j = 40
                · have hc : ((s[j].toNat : Int) != 40) = false := by rw [hb.out, h4]; rfl
                  go_wp2_with fail
                  refine (isVarR_any _ _).mono ?_
                  rintro e w9 ⟨rfl, rfl⟩
                  cases hv : varB nm with
                  | true =>
                    have HV := hide hv
                    clear hv
                    go_wp2_with fail
                    refine bodyPost_ret (v := .tuple #[.agg #[.string nm, .slice none 0 0], .int .i64 (j : Int), .int .i64 ((k : Int) + 1), .int .i64 2]) (by simp [results, Try.results24, go_sem, World.cell?_setCell_same, World.cell?_setCell_other, r0, r1]) rfl ?_
                    exact rf_no (by rw [HRD.out, HST.out, if_neg HJI.out, HNME.out, if_neg HN.out, if_neg h3, if_pos ⟨hlt, h4⟩, if_pos HV.out]) (by decide) ((B1.out.setCell (by simp) _).setCell (by simp) _)
                  | false =>
                    have HV : Hid (¬ varB nm = true) := by unfold Hid; rw [hv]; simp
                    have HR0 : Hid (r = rd s f (some (nm, [])) j (k + 1)) := by unfold Hid; rw [HRD.out, HST.out, if_neg HJI.out, HNME.out, if_neg HN.out, if_neg h3, if_pos ⟨hlt, h4⟩, if_neg HV.out]
                    clear hv
                    go_wp2_with fail
                    have hji3 : i < j := by have := HJI.out; omega
                    obtain ⟨f0, rfl⟩ : ∃ f0, f = f0 + 1 := ⟨f - 1, by omega⟩
                    have HT1 := hide T1.out.lt
                    clear t0 t1 r0 r1 rf hc hjz hne
                    go_loopw [1, 2] (fun v1 v2 wr => RfInv w T (f0 + 1 + 1) s nm r v1 v2 wr) (fun v1 v2 wr => s.size - (intOf v1).toNat)
                    case atStart => exact ⟨f0, [], j, k + 1, .slice none 0 0, [], rfl, by go_num, by omega, by omega, hlt, by simp, by omega, HR0.out, Row.start _ _ _ _, B1.out, R1.out, T1.out, HT1.out⟩
                    case round =>
                      obtain ⟨f', acc, j2, k2, u, xs, rfl, rfl, hf1, hf2, hj2, hal, hk2, hr, hrow, hbb, hR, hT, hTl⟩ := hrel
                      have IHQ := hide (IH.out f' (by omega) (j2 + 1) k2)
                      have HQ : Hid (r = if (rd s f' none (j2 + 1) k2).err ≠ 0 then noRd (rd s f' none (j2 + 1) k2).err
    else if (rd s f' none (j2 + 1) k2).pos = s.size then noRd 13
    else if byteAt s (rd s f' none (j2 + 1) k2).pos = 41 then ⟨0, ⟨nm, acc ++ [(rd s f' none (j2 + 1) k2).t]⟩, (rd s f' none (j2 + 1) k2).pos + 1, (rd s f' none (j2 + 1) k2).k⟩
    else if byteAt s (rd s f' none (j2 + 1) k2).pos = 44 then rd s f' (some (nm, acc ++ [(rd s f' none (j2 + 1) k2).t])) (rd s f' none (j2 + 1) k2).pos (rd s f' none (j2 + 1) k2).k
    else noRd 12) := by unfold Hid; rw [hr, rd]
                      have HPOS := hide (rd_pos s f' none (j2 + 1) k2)
                      have HKK := hide (rd_k s f' none (j2 + 1) k2)
                      generalize rd s f' none (j2 + 1) k2 = q at *
                      obtain ⟨ua, uc, hu, _⟩ := hrow.sl
                      subst hu
                      have XE := hide hbb
                      have XR := hide hR
                      have XT := hide hT
                      have XW := hide hrow
                      clear hbb hR hT hrow hr
                      go_wp2_with fail
                      refine (IHQ.out _ (by omega) hk2 (by omega)).mono ?_
                      intro e w5 hp
                      obtain ⟨hb5, n5, a5, l5, c5, y5, z5, rfl, hyes⟩ := hp
                      have B5 := hide hb5
                      have hwl : w.heap.size < wr.heap.size := by have := XE.out.size; omega
                      have hTl5 : T < w5.heap.size := by have := hb5.size; omega
                      have hwl5 : w.heap.size < w5.heap.size := by omega
                      have BE := hide (XE.out.trans (hb5.mono XE.out.size))
                      have R5 := hide (XR.out.below hb5 hwl)
                      have T5 := hide (XT.out.below hb5 hTl)
                      clear hb5
                      have t0 : ∀ o, (w5.alloc o).cell? ⟨T, 0, none⟩ = some (.string nm) := fun o => (T5.out.alloc o).cell 0
                      have t1 : ∀ o, (w5.alloc o).cell? ⟨T, 1, none⟩ = some (.slice ua acc.length uc) := fun o => (T5.out.alloc o).cell 1
                      have r0 : w5.cell? ⟨w.heap.size, 0, none⟩ = some (.string ⟨#[]⟩) := R5.out.cell 0
                      have r1 : w5.cell? ⟨w.heap.size, 1, none⟩ = some (.slice none 0 0) := R5.out.cell 1
                      have rf := R5.out.frozen
                      have r0' : ∀ o, (w5.alloc o).cell? ⟨w.heap.size, 0, none⟩ = some (.string ⟨#[]⟩) := fun o => (R5.out.alloc o).cell 0
                      have r1' : ∀ o, (w5.alloc o).cell? ⟨w.heap.size, 1, none⟩ = some (.slice none 0 0) := fun o => (R5.out.alloc o).cell 1
                      have rf' := fun o => (R5.out.alloc o).frozen
                      by_cases hq : q.err = 0
                      · have HQE := hide hq
                        have HP9 := hide (HPOS.out hq (by omega) (fun h => by cases h))
                        have HK9 := hide (HKK.out hq hk2)
                        obtain ⟨rfl, rfl, rfl, rfl, hsl⟩ := hyes hq
                        have S5 := hide hsl
                        rw [hq]
                        clear hq hyes hsl
                        have HOWN := hide (((XW.out.below B5.out).own.alloc (.cells #[.string q.t.name, .slice a5 q.t.args.length c5] 27)).alloc (.cells #[.string q.t.name, .slice a5 q.t.args.length c5] 27))
                        have HNEW := hide (cell_two_new2 w5 (.cells #[.string q.t.name, .slice a5 q.t.args.length c5] 27) (.string q.t.name) (.slice a5 q.t.args.length c5) 27)
                        have HN1 : Hid (∀ x ∈ [Value.string q.t.name, Value.slice a5 q.t.args.length c5], x.oneCell' = true) := fun x hx => by simp at hx; rcases hx with rfl | rfl <;> rfl
                        have HL1 : Hid (acc.length + 1 ≤ maxLen ∧ (acc.length + 1) * 40 ≤ 140737488355328) := ⟨by unfold maxLen; omega, by omega⟩
                        have HSZ : Hid (T + 1 ≤ ((w5.alloc (.cells #[.string q.t.name, .slice a5 q.t.args.length c5] 27)).alloc (.cells #[.string q.t.name, .slice a5 q.t.args.length c5] 27)).heap.size) := by unfold Hid; simp; omega
                        have HE1 := hide (B5.out.alloc B5.out.size (.cells #[.string q.t.name, .slice a5 q.t.args.length c5] 27))
                        have HTV : Hid (TV (w5.alloc (.cells #[.string q.t.name, .slice a5 q.t.args.length c5] 27)) (fun b => wr.heap.size ≤ b) (.agg #[.string q.t.name, .slice a5 q.t.args.length c5]) q.t) := ⟨a5, c5, rfl, S5.out.later ((Below.refl w5.heap.size w5).alloc (Nat.le_refl _) _)⟩
                        have hqp := HP9.out.2
                        have hTne : ¬ w.heap.size = T := by omega
                        have hTne2 : ¬ T = w.heap.size := by omega
                        by_cases hps : q.pos = s.size
                        · have hz9 : ((q.pos : Int) == (s.size : Int)) = true := by simp [hps]
                          have HPS := hide hps
                          clear hps
                          go_wp2_with (at_builtin; refine wpList_append_lies _ rfl _ _ 25 rfl (T + 1) 27 i0 _ 2 40 Try.underlying25 hi0 hz0 hz1 hz2 rfl (by decide) (.slice ua acc.length uc) acc.length xs rfl HOWN.out ⟨w5.heap.size + 1, 0, none⟩ 1 1 [.string q.t.name, .slice a5 q.t.args.length c5] rfl rfl HNEW.out HN1.out (by decide) HL1.out.1 HL1.out.2 HSZ.out _ rfl ?_; intro g cap w3 hown3 hgrow3 hat3 hlt3; have hB3 := hide (((T5.out.alloc _).alloc _).grown hgrow3 (XW.out.ne (Nat.lt_succ_self _))); have hR3 := hide (((R5.out.alloc _).alloc _).grown hgrow3 (XW.out.ne (by omega))); have hc4 : w3.cell? ⟨T, 0, none⟩ = some (.string nm) := hB3.out.cell 0; have hc5 : w3.cell? ⟨T, 1, none⟩ = some (.slice ua acc.length uc) := hB3.out.cell 1; have hf5 := hB3.out.frozen 1; have hd0 : w3.cell? ⟨w.heap.size, 0, none⟩ = some (.string ⟨#[]⟩) := hR3.out.cell 0; have hd1 : w3.cell? ⟨w.heap.size, 1, none⟩ = some (.slice none 0 0) := hR3.out.cell 1; have hdf := hR3.out.frozen; have HFIN := hide (rf_step hTT hTl XW.out XE.out XR.out XT.out HE1.out HTV.out hown3 hgrow3 hat3))
                          refine bodyPost_ret (v := .tuple #[.agg #[.string nm, .slice (some ⟨g, 0, none⟩) (acc.length + 1) cap], .int .i64 (q.pos : Int), .int .i64 (q.k : Int), .int .i64 13]) (by simp [results, Try.results24, go_sem, World.cell?_setCell_same, World.cell?_setCell_other, hd0, hd1, hc4, hc5, hTne, hTne2]) rfl ?_
                          exact rf_no (by rw [HQ.out, if_neg (by rw [HQE.out]; simp), if_pos HPS.out]) (by decide) ((HFIN.out.2.1.setCell (by simp) _).setCell (by simp) _)
                        · have hz9 : ((q.pos : Int) == (s.size : Int)) = false := by simp; omega
                          have hl9 : q.pos < s.size := by omega
                          have hb9 := hide (byteAt_of hl9)
                          have hl92 : (q.pos : Int) < (s.size : Int) := by omega
                          by_cases h41 : byteAt s q.pos = 41
                          · have hc9 : ((s[q.pos].toNat : Int) == 41) = true := by rw [hb9.out, h41]; rfl
                            have H41 := hide h41
                            clear h41
                            go_wp2_with (at_builtin; refine wpList_append_lies _ rfl _ _ 25 rfl (T + 1) 27 i0 _ 2 40 Try.underlying25 hi0 hz0 hz1 hz2 rfl (by decide) (.slice ua acc.length uc) acc.length xs rfl HOWN.out ⟨w5.heap.size + 1, 0, none⟩ 1 1 [.string q.t.name, .slice a5 q.t.args.length c5] rfl rfl HNEW.out HN1.out (by decide) HL1.out.1 HL1.out.2 HSZ.out _ rfl ?_; intro g cap w3 hown3 hgrow3 hat3 hlt3; have hB3 := hide (((T5.out.alloc _).alloc _).grown hgrow3 (XW.out.ne (Nat.lt_succ_self _))); have hR3 := hide (((R5.out.alloc _).alloc _).grown hgrow3 (XW.out.ne (by omega))); have hc4 : w3.cell? ⟨T, 0, none⟩ = some (.string nm) := hB3.out.cell 0; have hc5 : w3.cell? ⟨T, 1, none⟩ = some (.slice ua acc.length uc) := hB3.out.cell 1; have hf5 := hB3.out.frozen 1; have hd0 : w3.cell? ⟨w.heap.size, 0, none⟩ = some (.string ⟨#[]⟩) := hR3.out.cell 0; have hd1 : w3.cell? ⟨w.heap.size, 1, none⟩ = some (.slice none 0 0) := hR3.out.cell 1; have hdf := hR3.out.frozen; have HFIN := hide (rf_step hTT hTl XW.out XE.out XR.out XT.out HE1.out HTV.out hown3 hgrow3 hat3))
                            refine bodyPost_ret (v := .tuple #[.agg #[.string nm, .slice (some ⟨g, 0, none⟩) (acc.length + 1) cap], .int .i64 ((q.pos : Int) + 1), .int .i64 (q.k : Int), .int .i64 0]) (by simp [results, Try.results24, go_sem, World.cell?_setCell_same, World.cell?_setCell_other, hd0, hd1, hc4, hc5, hTne, hTne2]) rfl ?_
                            exact rf_yes2 (by rw [HQ.out, if_neg (by rw [HQE.out]; simp), if_neg hps, if_pos H41.out]) hTT HFIN.out.1 HFIN.out.2.1
                          · have hc9 : ((s[q.pos].toNat : Int) == 41) = false := by rw [hb9.out]; simpa using h41
                            by_cases h44 : byteAt s q.pos = 44
                            · have hc8 : ((s[q.pos].toNat : Int) != 44) = false := by rw [hb9.out, h44]; rfl
                              obtain ⟨f2, rfl⟩ : ∃ f2, f' = f2 + 1 := ⟨f' - 1, by omega⟩
                              have HR9 : Hid (r = rd s (f2 + 1) (some (nm, acc ++ [q.t])) q.pos q.k) := by unfold Hid; rw [HQ.out, if_neg (by rw [HQE.out]; simp), if_neg hps, if_neg h41, if_pos h44]
                              clear h44 h41
                              go_wp2_with (at_builtin; refine wpList_append_lies _ rfl _ _ 25 rfl (T + 1) 27 i0 _ 2 40 Try.underlying25 hi0 hz0 hz1 hz2 rfl (by decide) (.slice ua acc.length uc) acc.length xs rfl HOWN.out ⟨w5.heap.size + 1, 0, none⟩ 1 1 [.string q.t.name, .slice a5 q.t.args.length c5] rfl rfl HNEW.out HN1.out (by decide) HL1.out.1 HL1.out.2 HSZ.out _ rfl ?_; intro g cap w3 hown3 hgrow3 hat3 hlt3; have hB3 := hide (((T5.out.alloc _).alloc _).grown hgrow3 (XW.out.ne (Nat.lt_succ_self _))); have hR3 := hide (((R5.out.alloc _).alloc _).grown hgrow3 (XW.out.ne (by omega))); have hc4 : w3.cell? ⟨T, 0, none⟩ = some (.string nm) := hB3.out.cell 0; have hc5 : w3.cell? ⟨T, 1, none⟩ = some (.slice ua acc.length uc) := hB3.out.cell 1; have hf5 := hB3.out.frozen 1; have hd0 : w3.cell? ⟨w.heap.size, 0, none⟩ = some (.string ⟨#[]⟩) := hR3.out.cell 0; have hd1 : w3.cell? ⟨w.heap.size, 1, none⟩ = some (.slice none 0 0) := hR3.out.cell 1; have hdf := hR3.out.frozen; have HFIN := hide (rf_step hTT hTl XW.out XE.out XR.out XT.out HE1.out HTV.out hown3 hgrow3 hat3))
                              go_roundw
                              case rel =>
                                obtain ⟨g1, g2, g3, g4, g5⟩ := HFIN.out
                                have hp9 := HP9.out
                                exact ⟨f2, acc ++ [q.t], q.pos, q.k, _, _, rfl, rfl, by omega, by omega, hl9, by simp; omega, HK9.out, HR9.out, g1, g2, g3, g4, g5⟩
                              case measure =>
                                have hp9 := HP9.out
                                simp [intOf]; omega
                            · have hc8 : ((s[q.pos].toNat : Int) != 44) = true := by rw [hb9.out]; simpa using h44
                              have HR9 : Hid (r = noRd 12) := by unfold Hid; rw [HQ.out, if_neg (by rw [HQE.out]; simp), if_neg hps, if_neg h41, if_neg h44]
                              clear h44 h41
                              go_wp2_with (at_builtin; refine wpList_append_lies _ rfl _ _ 25 rfl (T + 1) 27 i0 _ 2 40 Try.underlying25 hi0 hz0 hz1 hz2 rfl (by decide) (.slice ua acc.length uc) acc.length xs rfl HOWN.out ⟨w5.heap.size + 1, 0, none⟩ 1 1 [.string q.t.name, .slice a5 q.t.args.length c5] rfl rfl HNEW.out HN1.out (by decide) HL1.out.1 HL1.out.2 HSZ.out _ rfl ?_; intro g cap w3 hown3 hgrow3 hat3 hlt3; have hB3 := hide (((T5.out.alloc _).alloc _).grown hgrow3 (XW.out.ne (Nat.lt_succ_self _))); have hR3 := hide (((R5.out.alloc _).alloc _).grown hgrow3 (XW.out.ne (by omega))); have hc4 : w3.cell? ⟨T, 0, none⟩ = some (.string nm) := hB3.out.cell 0; have hc5 : w3.cell? ⟨T, 1, none⟩ = some (.slice ua acc.length uc) := hB3.out.cell 1; have hf5 := hB3.out.frozen 1; have hd0 : w3.cell? ⟨w.heap.size, 0, none⟩ = some (.string ⟨#[]⟩) := hR3.out.cell 0; have hd1 : w3.cell? ⟨w.heap.size, 1, none⟩ = some (.slice none 0 0) := hR3.out.cell 1; have hdf := hR3.out.frozen; have HFIN := hide (rf_step hTT hTl XW.out XE.out XR.out XT.out HE1.out HTV.out hown3 hgrow3 hat3))
                              refine bodyPost_ret (v := .tuple #[.agg #[.string nm, .slice (some ⟨g, 0, none⟩) (acc.length + 1) cap], .int .i64 (q.pos : Int), .int .i64 (q.k : Int), .int .i64 12]) (by simp [results, Try.results24, go_sem, World.cell?_setCell_same, World.cell?_setCell_other, hd0, hd1, hc4, hc5, hTne, hTne2]) rfl ?_
                              exact rf_no HR9.out (by decide) ((HFIN.out.2.1.setCell (by simp) _).setCell (by simp) _)
                      · have HQE := hide hq
                        have hqe : (q.err == 0) = false := by simpa using hq
                        clear hq hyes
                        go_wp2_with fail
                        refine bodyPost_ret (v := .tuple #[.agg #[.string nm, .slice ua acc.length uc], .int .i64 y5, .int .i64 z5, .int .i64 q.err]) (by simp [results, Try.results24, go_sem, World.cell?_setCell_same, World.cell?_setCell_other, r0, r1, hwl5, World.cell?_alloc_old]) rfl ?_
                        exact rf_no (by rw [HQ.out, if_pos HQE.out]) HQE.out (((BE.out.setCell (by simp) _).setCell (by simp) _).alloc (by have := BE.out.size; simpa [World.setCell] using this) _)
                · have hc : ((s[j].toNat : Int) != 40) = true := by rw [hb.out]; simpa using h4
                  have H4 : Hid (¬ (j < s.size ∧ byteAt s j = 40)) := fun h => h4 h.2
                  go_wp2_with fail
                  refine bodyPost_ret (v := .tuple #[.agg #[.string nm, .slice none 0 0], .int .i64 (j : Int), .int .i64 ((k : Int) + 1), .int .i64 0]) (by simp [results, Try.results24, go_sem, World.cell?_setCell_same, World.cell?_setCell_other, r0, r1]) rfl ?_
                  exact rf_yes (args := []) (k := k + 1) (by rw [HRD.out, HST.out, if_neg HJI.out, HNME.out, if_neg HN.out, if_neg h3, if_neg H4.out]) ⟨by simp, Or.inl rfl⟩ ((B1.out.setCell (by simp) _).setCell (by simp) _)
      · have HST : Hid (stopAt s i = j) := HS.out.trans (stopAt_end (fun h => hlt h.1))
        by_cases hji : j = i
        · have HJI := hide hji
          have hne : ((j : Int) == (i : Int)) = true := by simp [hji]
          have hjz : ((j : Int) == (s.size : Int)) = true := by simp; omega
          clear hji
          have r0 : wr.cell? ⟨w.heap.size, 0, none⟩ = some (.string ⟨#[]⟩) := R0.out.cell 0
          have r1 : wr.cell? ⟨w.heap.size, 1, none⟩ = some (.slice none 0 0) := R0.out.cell 1
          have rf := R0.out.frozen
          go_wp2_with fail
          refine bodyPost_ret (v := .tuple #[.agg #[.string ⟨#[]⟩, .slice none 0 0], .int .i64 (j : Int), .int .i64 (k : Int), .int .i64 13]) (by simp [results, Try.results24, go_sem, World.cell?_setCell_same, World.cell?_setCell_other, r0, r1]) rfl ?_
          exact rf_no (by rw [HRD.out, HST.out, if_pos HJI.out, if_pos (by have := HJI.out; omega)]) (by decide) ((B0.out.setCell (by simp) _).setCell (by simp) _)
        · have HJI := hide hji
          have hne : ((j : Int) == (i : Int)) = false := by simp; omega
          have hij2 : (i : Int) ≤ (j : Int) := by omega
          have hj2 : (j : Int) ≤ (s.size : Int) := by omega
          clear hji
          go_wp2_with fail
          refine (isNameR_any _ _).mono ?_
          rintro e w9 ⟨rfl, rfl⟩
          have R1 := hide (R0.out.alloc (.cells #[.string (s.extract i j), .slice none 0 0] 27))
          have T1 := hide (Blk.new wr #[.string (s.extract i j), .slice none 0 0] 27)
          have B1 := hide (B0.out.alloc B0.out.size (.cells #[.string (s.extract i j), .slice none 0 0] 27))
          have hTT := hR0
          generalize wr.alloc (.cells #[.string (s.extract i j), .slice none 0 0] 27) = w1 at *
          clear R0 B0
          generalize wr.heap.size = T at *
          generalize hnme : s.extract i j = nm at *
          have HNME := hide hnme
          clear hnme
          have t0 : w1.cell? ⟨T, 0, none⟩ = some (.string nm) := T1.out.cell 0
          have t1 : w1.cell? ⟨T, 1, none⟩ = some (.slice none 0 0) := T1.out.cell 1
          have r0 : w1.cell? ⟨w.heap.size, 0, none⟩ = some (.string ⟨#[]⟩) := R1.out.cell 0
          have r1 : w1.cell? ⟨w.heap.size, 1, none⟩ = some (.slice none 0 0) := R1.out.cell 1
          have rf := R1.out.frozen
          cases hn : nameB nm with
          | false =>
            have HN := hide hn
            clear hn
            go_wp2_with fail
            refine bodyPost_ret (v := .tuple #[.agg #[.string nm, .slice none 0 0], .int .i64 (j : Int), .int .i64 (k : Int), .int .i64 1]) (by simp [results, Try.results24, go_sem, World.cell?_setCell_same, World.cell?_setCell_other, r0, r1]) rfl ?_
            exact rf_no (by rw [HRD.out, HST.out, if_neg HJI.out, HNME.out, if_pos HN.out]) (by decide) ((B1.out.setCell (by simp) _).setCell (by simp) _)
          | true =>
            have HN : Hid (¬ nameB nm = false) := by unfold Hid; rw [hn]; simp
            clear hn
            by_cases h3 : 200 < k + 1
            · go_wp2_with fail
              refine bodyPost_ret (v := .tuple #[.agg #[.string nm, .slice none 0 0], .int .i64 (j : Int), .int .i64 ((k : Int) + 1), .int .i64 3]) (by simp [results, Try.results24, go_sem, World.cell?_setCell_same, World.cell?_setCell_other, r0, r1]) rfl ?_
              exact rf_no (by rw [HRD.out, HST.out, if_neg HJI.out, HNME.out, if_neg HN.out, if_pos h3]) (by decide) ((B1.out.setCell (by simp) _).setCell (by simp) _)
            · have H4 : Hid (¬ (j < s.size ∧ byteAt s j = 40)) := fun h => by omega
              have hjz : ((j : Int) == (s.size : Int)) = true := by simp; omega
              go_wp2_with fail
              refine bodyPost_ret (v := .tuple #[.agg #[.string nm, .slice none 0 0], .int .i64 (j : Int), .int .i64 ((k : Int) + 1), .int .i64 0]) (by simp [results, Try.results24, go_sem, World.cell?_setCell_same, World.cell?_setCell_other, r0, r1]) rfl ?_
              exact rf_yes (args := []) (k := k + 1) (by rw [HRD.out, HST.out, if_neg HJI.out, HNME.out, if_neg HN.out, if_neg h3, if_neg H4.out]) ⟨by simp, Or.inl rfl⟩ ((B1.out.setCell (by simp) _).setCell (by simp) _)
end Go.Proofs.Ytccbocefgoccdaa


/- Walks: reading a text, and what is thrown is caught. -/
namespace Go.Proofs.Ytccbocefgoccdaa
open Go.RowKit
set_option linter.unusedSimpArgs false
set_option linter.unusedVariables false
set_option maxRecDepth 8000

theorem assertErrno (v : Value) (xT : TypeId) (w : World) : (Instr.typeAssert (.iface 30 v) xT 30 false).run Try.prog w = .ok v w := by
  simp [Instr.typeAssert, run_underlying Try.underlying30, go_sem, Result.andThen]

/-- What making a reader does. -/
def NewPost (w : World) (s : ByteArray) (e : Ending) (w' : World) : Prop :=
  if 4000 < s.size then e = thrown 3 ∧ Below w.heap.size w w' else e = .returned (.agg #[.string s, .int .i64 0, .int .i64 0]) ∧ Below w.heap.size w w'
def EndPost (w : World) (e : Ending) (w' : World) : Prop := (∃ v, e = .returned v) ∧ ∃ m, w' = w.drewN m
/-- What reading the whole text gives. -/
def rdAll (s : ByteArray) : Rd :=
  if 4000 < s.size then noRd 3
  else if (rd s (2 * s.size + 1) none 0 0).err ≠ 0 then noRd (rd s (2 * s.size + 1) none 0 0).err
  else if (rd s (2 * s.size + 1) none 0 0).pos = s.size then rd s (2 * s.size + 1) none 0 0
  else noRd 12

def ParsePost (w : World) (r : Rd) (e : Ending) (w' : World) : Prop :=
  ∃ v, e = .returned (.tuple #[v, .int .i64 r.err]) ∧ (r.err = 0 → TV w' (fun b => w.heap.size ≤ b) v r.t) ∧ (r.err ≠ 0 → v = .agg #[.string ⟨#[]⟩, .slice none 0 0]) ∧ Below w.heap.size w w'

theorem parse_no {w w' : World} {r : Rd} {z : Int} (h : r = noRd z) (hz : z ≠ 0) (hb : Below w.heap.size w w') : ParsePost w r (.returned (.tuple #[.agg #[.string ⟨#[]⟩, .slice none 0 0], .int .i64 z])) w' := by
  subst h
  exact ⟨_, rfl, fun h => absurd h hz, fun _ => rfl, hb⟩

theorem Ex.below {w w0 w' : World} {B : Nat} (h : Ex B w0 w') (h0 : Below w.heap.size w w0) (hB : w.heap.size ≤ B) : Below w.heap.size w w' :=
  ⟨h.os.trans h0.os, h.tape.trans h0.tape, h.output.trans h0.output, Nat.le_trans h0.size h.size, fun k hk => (h.block k (Nat.lt_of_lt_of_le hk h0.size) (by omega)).trans (h0.block k hk)⟩

end Go.Proofs.Ytccbocefgoccdaa


/- Walks: the document's reading of a whole text, and the law TermParses. -/
namespace Go.Proofs.Ytccbocefgoccdaa
open Go.RowKit
set_option linter.unusedSimpArgs false
set_option linter.unusedVariables false
set_option maxRecDepth 8000

theorem rd_world {w w5 : World} {o0 o1 : Obj} {a : Option Addr} {l : List Tm} {v0 v1 : Value} (hs : Sl w5 (fun b => (w.alloc o0).heap.size ≤ b) a l) : Sl (((w5.setCell ⟨w.heap.size, 0, none⟩ v0).setCell ⟨w.heap.size, 1, none⟩ v1).alloc o1) (fun b => w.heap.size ≤ b) a l := by
  refine ((hs.mono (Y := fun b => w.heap.size < b ∧ b < w5.heap.size) fun b h1 h2 => ⟨by simp at h1; omega, h2⟩).kept fun b hb => ?_).mono fun b hb _ => by omega
  rw [Below.heap_alloc _ _ _ (by simp [World.setCell]; omega), Below.heap_setCell _ _ _ _ (by simp; omega), Below.heap_setCell _ _ _ _ (by simp; omega)]

set_option maxHeartbeats 1000000 in
theorem readAll_any (s : ByteArray) (w : World) :
    Calls Try.prog 15 #[.string s] w fun e w' => ParsePost w (rdAll s) e w' := by
  generalize hr : rdAll s = r at *
  by_cases hs : 4000 < s.size
  · have HR0 : Hid (r = noRd 3) := by unfold Hid; rw [← hr]; unfold rdAll; rw [if_pos hs]
    clear hr
    go_enter Try.func15, Try.ntmps15
    go_wp2_with fail
    have q0 := (Blk.new w #[.string ⟨#[]⟩, .slice none 0 0] 27).cell 0
    have q1 := (Blk.new w #[.string ⟨#[]⟩, .slice none 0 0] 27).cell 1
    simp at q0 q1
    refine bodyPost_ret (v := .tuple #[.agg #[.string ⟨#[]⟩, .slice none 0 0], .int .i64 3]) (by simp [results, Try.results15, go_sem, q0, q1]) rfl ?_
    exact parse_no HR0.out (by decide) ((Below.refl _ _).alloc (Nat.le_refl _) _)
  · have HR0 : Hid (r = if (rd s (2 * s.size + 1) none 0 0).err ≠ 0 then noRd (rd s (2 * s.size + 1) none 0 0).err else if (rd s (2 * s.size + 1) none 0 0).pos = s.size then rd s (2 * s.size + 1) none 0 0 else noRd 12) := by unfold Hid; rw [← hr]; unfold rdAll; rw [if_neg hs]
    have IHQ := hide (fun w' => read_any s (by omega) (2 * s.size + 1) 0 0 w' (by omega) (by omega) (by omega))
    have HPOS := hide (rd_pos s (2 * s.size + 1) none 0 0)
    generalize rd s (2 * s.size + 1) none 0 0 = q at *
    clear hr
    go_enter Try.func15, Try.ntmps15
    go_wp2_with fail
    refine (IHQ.out _).mono ?_
    intro e w5 hp
    obtain ⟨hb5, n5, a5, l5, c5, y5, z5, rfl, hyes⟩ := hp
    have R5 := hide ((Blk.new w #[.string ⟨#[]⟩, .slice none 0 0] 27).below hb5 (by simp))
    have B5 := hide (((Below.refl w.heap.size w).alloc (Nat.le_refl _) (.cells #[.string ⟨#[]⟩, .slice none 0 0] 27)).trans (hb5.mono (by simp)))
    have hlt5 : w.heap.size < w5.heap.size := R5.out.lt
    clear hb5
    have r0 : w5.cell? ⟨w.heap.size, 0, none⟩ = some (.string ⟨#[]⟩) := R5.out.cell 0
    have r1 : w5.cell? ⟨w.heap.size, 1, none⟩ = some (.slice none 0 0) := R5.out.cell 1
    have rf := R5.out.frozen
    have r0' : ∀ o, (w5.alloc o).cell? ⟨w.heap.size, 0, none⟩ = some (.string ⟨#[]⟩) := fun o => (R5.out.alloc o).cell 0
    have r1' : ∀ o, (w5.alloc o).cell? ⟨w.heap.size, 1, none⟩ = some (.slice none 0 0) := fun o => (R5.out.alloc o).cell 1
    have rf' := fun o => (R5.out.alloc o).frozen
    by_cases hq : q.err = 0
    · obtain ⟨rfl, rfl, rfl, rfl, hsl⟩ := hyes hq
      have HQE := hide hq
      have HP9 := hide (HPOS.out hq (by omega) (fun h => by cases h))
      have S5 := hide hsl
      have hpl := HP9.out.2
      rw [hq]
      clear hq hyes hsl
      by_cases hps : q.pos = s.size
      · have hlt9 : ¬ (q.pos : Int) < (s.size : Int) := by omega
        have HR9 : Hid (r = q) := by unfold Hid; rw [HR0.out, if_neg (by rw [HQE.out]; simp), if_pos hps]
        clear hps
        go_wp2_with fail
        refine bodyPost_ret (v := .tuple #[.agg #[.string q.t.name, .slice a5 q.t.args.length c5], .int .i64 0]) (by simp [results, Try.results15, go_sem, World.cell?_setCell_same, World.cell?_setCell_other, r0, r1, hlt5, World.cell?_alloc_old]) rfl ?_
        refine ⟨.agg #[.string q.t.name, .slice a5 q.t.args.length c5], by rw [HR9.out, HQE.out], fun _ => ?_, fun h => absurd (by rw [HR9.out]; exact HQE.out) h, (((B5.out.setCell (by simp) _).setCell (by simp) _).alloc (by have := B5.out.size; simpa [World.setCell] using this) _)⟩
        rw [HR9.out]
        exact ⟨a5, c5, rfl, rd_world S5.out⟩
      · have hlt9 : (q.pos : Int) < (s.size : Int) := by omega
        have HR9 : Hid (r = noRd 12) := by unfold Hid; rw [HR0.out, if_neg (by rw [HQE.out]; simp), if_neg hps]
        clear hps
        go_wp2_with fail
        refine bodyPost_ret (v := .tuple #[.agg #[.string ⟨#[]⟩, .slice none 0 0], .int .i64 12]) (by simp [results, Try.results15, go_sem, World.cell?_setCell_same, World.cell?_setCell_other, r0, r1, hlt5, World.cell?_alloc_old]) rfl ?_
        exact parse_no HR9.out (by decide) (((B5.out.setCell (by simp) _).setCell (by simp) _).alloc (by have := B5.out.size; simpa [World.setCell] using this) _)
    · have hqe : (q.err == 0) = false := by simpa using hq
      have HR9 : Hid (r = noRd q.err ∧ q.err ≠ 0) := ⟨by rw [HR0.out, if_pos hq], hq⟩
      clear hq hyes
      go_wp2_with fail
      refine bodyPost_ret (v := .tuple #[.agg #[.string ⟨#[]⟩, .slice none 0 0], .int .i64 q.err]) (by simp [results, Try.results15, go_sem, World.cell?_setCell_same, World.cell?_setCell_other, r0, r1, hlt5, World.cell?_alloc_old]) rfl ?_
      exact parse_no HR9.out.1 HR9.out.2 (((B5.out.setCell (by simp) _).setCell (by simp) _).alloc (by have := B5.out.size; simpa [World.setCell] using this) _)

theorem form_of {w' : World} {r : Rd} {Z : Nat → Prop} {v : Value} (hy : r.err = 0 → TV w' Z v r.t) (hn : r.err ≠ 0 → v = .agg #[.string ⟨#[]⟩, .slice none 0 0]) : ∃ s a n c, v = .agg #[.string s, .slice a n c] := by
  by_cases h : r.err = 0
  · obtain ⟨a, c, e, _⟩ := hy h
    exact ⟨_, a, _, c, e⟩
  · exact ⟨_, none, 0, 0, hn h⟩

end Go.Proofs.Ytccbocefgoccdaa
