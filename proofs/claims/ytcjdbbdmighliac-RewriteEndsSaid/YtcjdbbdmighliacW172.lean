/- Walks: the steps that could be done, handed over one by one. -/
import Derived.Test.YtcjdbbdmighliacZCRewriteEndsOwn
import Derived.Test.YtcjdbbdmighliacW171
import Derived.Test.YtcjdbbdmighliacRg3
namespace Go.Proofs.Ytcjdbbdmighliac
open Go.RowKit Go.Shelf
attribute [local go_sem] Oper.semAt_some
set_option linter.unusedSimpArgs false
set_option linter.unusedVariables false
set_option maxRecDepth 8000

theorem downCS_any {J : Tk Dn} {K : Nat → Prop} {all : List Dn} (hJ : TkOk J K) (lp : Nat) {S : World → Prop} (RH : RndS lp LpD J all S) (t : Tm) (fs : List Int) (T F : Nat) (aa : Option Addr) (ca : Nat) (fv : Value) (pre : List Dn) (f : Nat → Prop) (w : World) (X : Nat → Prop) (hT : Blk w T #[.string t.name, .slice aa t.args.length ca] 25) (hs : Sl w X aa t.args) (hF : Blk w F #[fv] 34) (hfv : PV w X fv fs) (hat : (atT t fs).isSome = true) (hX : ∀ b, X b → b < w.heap.size ∧ ¬ f b) (hj : J pre true f w) (hz : sizeL [t] ≤ 800000) (hOk : (pre ++ dnT [] fs t) <+: all) :
    Calls Try.prog 104 #[.func (.yield lp) #[] #[], .pointer (some ⟨T, 0, none⟩), .pointer (some ⟨F, 0, none⟩)] w fun e w' => WentS J (dnT [] fs t) pre f S w e w' := by
  have t0 := hT.cell 0
  have t1 := hT.cell 1
  have f0 := hF.cell 0
  have hK : ∀ b, K b → b < w.heap.size := fun b hb => hJ.inside hj b (Or.inr hb)
  obtain ⟨fa, fc, rfl, hfl, hfc⟩ := hfv
  have HD := hide (downS_any hJ w.heap.size lp hK RH t (.agg #[.string t.name, .slice aa t.args.length ca]) (.slice none 0 0) (.slice fa fs.length fc) [] fs pre f w X ⟨aa, ca, rfl, hs⟩ ⟨fa, fc, rfl, hfl, hfc⟩ hat hX (Nat.le_refl _) (World.ownsRow_nil _ _ _ _) (by simp [Value.ownBlock]) hj (by simp; omega) hOk)
  simp only [List.getElem?_toArray, List.getElem?_cons_zero, List.getElem?_cons_succ] at t0 t1 f0
  clear hT hs hF hfl hfc hat hX hj hz hK RH hJ hOk
  go_enter Try.func104, Try.ntmps104
  go_wp2_with fail
  refine HD.out.mono ?_
  rintro e w1 ⟨b, rfl, hw, _, hS⟩
  go_wp2_with fail
  go_end0
  exact ⟨⟨_, rfl⟩, b, (hw.mono fun b hb _ => by simp [Value.ownBlock] at hb), hS⟩

theorem stepsFits_any (uv : Value) (hone : ∃ a n c, uv = .slice a n c) (s : ByteArray) (aa : Option Addr) (n ca : Nat) (w : World) :
    Calls Try.prog 103 #[uv, .agg #[.string s, .slice aa n ca]] w fun e w' => e = .returned (.func (.func 123) #[] #[.pointer (some ⟨w.heap.size, 0, none⟩), .pointer (some ⟨w.heap.size + 1, 0, none⟩)]) ∧ w' = (w.alloc (.cells #[uv] 43)).alloc (.cells #[.string s, .slice aa n ca] 25) := by
  obtain ⟨a, n1, c, rfl⟩ := hone
  have hmf : ∀ (fn : Fn) (first cap : Array Value) (w : World), (Instr.makeFunc fn first cap).run Try.prog w = .ok (.func fn first cap) w := fun _ _ _ _ => rfl
  go_enter Try.func103, Try.ntmps103
  go_wp2_with fail
  go_ret
  exact ⟨rfl, rfl⟩

/-- A step that could be done: the place, the term there; the rule, what stands for its variables. -/
abbrev Ch := Dn × Ft
def chG (rs : List Pr) (d : Dn) : List Ch := (fitsL rs d.2).map fun x => (d, x)
def chL (rs : List Pr) (t : Tm) (fs : List Int) : List Ch := (dnT [] fs t).flatMap (chG rs)
/-- How it is handed over. -/
def LpC (x : Ch) (args : Array Value) (W : World) (Z : Nat → Prop) : Prop :=
  ∃ ua uc xa xc ra rc q L, args = #[.agg #[.slice ua x.1.1.length uc, .string x.1.2.name, .slice xa x.1.2.args.length xc, .string x.2.1.r.name, .slice ra x.2.1.r.args.length rc, .map (some q)]] ∧ PV W Z (.slice ua x.1.1.length uc) x.1.1 ∧ Sl W Z xa x.1.2.args ∧ Sl W Z ra x.2.1.r.args ∧ Z q ∧ EnvR W q Z x.2.2 L

set_option maxHeartbeats 2000000 in
theorem chances1S_any {J : Tk Ch} {K : Nat → Prop} {all : List Ch} (hJ : TkOk J K) (lp : Nat) {S : World → Prop} (hSt : StopOk S) (RH : RndS lp LpC J all S) (rs : List Pr) (t : Tm) (fs : List Int) (P R T F : Nat) (uv : Value) (aa : Option Addr) (ca : Nat) (fv : Value) (pre : List Ch) (f : Nat → Prop) (w : World) (X : Nat → Prop) (hP : Blk w P #[.func (.func 104) #[] #[.pointer (some ⟨T, 0, none⟩), .pointer (some ⟨F, 0, none⟩)]] 113) (hR : Blk w R #[uv] 43) (hu : QV w X uv rs) (hT : Blk w T #[.string t.name, .slice aa t.args.length ca] 25) (hs : Sl w X aa t.args) (hF : Blk w F #[fv] 34) (hfv : PV w X fv fs) (hat : (atT t fs).isSome = true) (hX : ∀ b, X b → b < w.heap.size ∧ ¬ f b) (hRf : ¬ f R) (hj : J pre true f w) (hz : sizeL [t] ≤ 800000) (hOk : (pre ++ chL rs t fs) <+: all) :
    Calls Try.prog 102 #[.func (.yield lp) #[] #[], .pointer (some ⟨P, 0, none⟩), .pointer (some ⟨R, 0, none⟩)] w fun e w' => WentS J (chL rs t fs) pre f S w e w' := by
  have HST := hide hSt
  clear hSt
  have p0 := hP.cell 0
  have hPl := hP.lt
  have hRl := hR.lt
  have hXa : Hid (∀ b, X b → b < w.heap.size ∧ ¬ f b) := hX
  simp only [List.getElem?_toArray, List.getElem?_cons_zero, List.getElem?_cons_succ] at p0
  have p1 : ∀ o, (w.alloc o).cell? ⟨P, 0, none⟩ = some (.func (.func 104) #[] #[.pointer (some ⟨T, 0, none⟩), .pointer (some ⟨F, 0, none⟩)]) := fun o => (hP.alloc o).cell 0
  have HI : Hid (∀ b, f b ∨ K b → b < w.heap.size) := hJ.inside hj
  have HAP : Hid (∀ b, K b → ¬ f b) := hJ.apart hj
  have hB1 : Below w.heap.size w (w.alloc (.cells #[.func (.yield lp) #[] #[]] 142)) := (Below.refl _ _).alloc (Nat.le_refl _) _
  have HJ := hide hJ
  have HRH := hide RH
  have HR := hide hR
  have HU := hide hu
  have HT := hide hT
  have HS := hide hs
  have HF := hide hF
  have HFV := hide hfv
  have HJ0 := hide hj
  clear hJ RH hR hu hT hs hF hfv hj hX hP
  refine (callsIn_wide (n := 3)).1 ?_
  refine callsIn_of_wp_marks Try.func102 rfl trivial ?_ rfl
  simp only [Try.ntmps102, List.size_toArray, List.length_cons, List.length_nil, Nat.reduceAdd, Nat.reduceSub, Array.replicate_succ, Array.replicate_zero, List.push_toArray, List.append_toArray, List.nil_append, List.cons_append]
  gi_wp2
  refine wp_range2 (gf := 104) (lb := #[.pointer (some ⟨T, 0, none⟩), .pointer (some ⟨F, 0, none⟩)]) rfl (enters_of Try.func104 (by kernel_rfl) rfl) ?_
  intro r hr1 hr2 hr3 hr4 hr5 hr6
  have hz1 : (w.alloc (.cells #[.func (.yield lp) #[] #[]] 142)).heap.size = w.heap.size + 1 := by simp
  rw [hz1]
  have hz5 : (((w.alloc (.cells #[.func (.yield lp) #[] #[]] 142)).alloc (.deferred (some []))).alloc (.loop r)).heap.size = w.heap.size + 3 := by simp
  have hB5 : Below w.heap.size w (((w.alloc (.cells #[.func (.yield lp) #[] #[]] 142)).alloc (.deferred (some []))).alloc (.loop r)) := below3 _ _ _
  have hY5 : Blk (((w.alloc (.cells #[.func (.yield lp) #[] #[]] 142)).alloc (.deferred (some []))).alloc (.loop r)) w.heap.size #[.func (.yield lp) #[] #[]] 142 := ((Blk.new w #[.func (.yield lp) #[] #[]] 142).alloc _).alloc _
  have hD5 : (((w.alloc (.cells #[.func (.yield lp) #[] #[]] 142)).alloc (.deferred (some []))).alloc (.loop r)).heap[w.heap.size + 1]? = some (.deferred (some [])) := by
    have h1 := (Below.heap_alloc ((w.alloc (.cells #[.func (.yield lp) #[] #[]] 142)).alloc (.deferred (some []))) (.loop r) (w.alloc (.cells #[.func (.yield lp) #[] #[]] 142)).heap.size (by simp)).trans (World.alloc_heap_new (w.alloc (.cells #[.func (.yield lp) #[] #[]] 142)) (.deferred (some [])))
    rw [hz1] at h1
    exact h1
  have hL5 : (((w.alloc (.cells #[.func (.yield lp) #[] #[]] 142)).alloc (.deferred (some []))).alloc (.loop r)).heap[w.heap.size + 1 + 1]? = some (.loop r) := by
    have h1 := World.alloc_heap_new ((w.alloc (.cells #[.func (.yield lp) #[] #[]] 142)).alloc (.deferred (some []))) (.loop r)
    rw [World.size_alloc, hz1] at h1
    exact h1
  generalize (((w.alloc (.cells #[.func (.yield lp) #[] #[]] 142)).alloc (.deferred (some []))).alloc (.loop r)) = W5 at *
  have e5 : ∀ b, b < w.heap.size → W5.heap[b]? = w.heap[b]? := fun b hb => hB5.block b hb
  obtain ⟨K2, hK2⟩ : ∃ K2 : Nat → Prop, K2 = fun b => K b ∨ X b ∨ b = R ∨ b = w.heap.size ∨ b = w.heap.size + 1 := ⟨_, rfl⟩
  have HKK : Hid (∀ b, K b → K2 b) := fun b hb => by rw [hK2]; exact Or.inl hb
  have HKX : Hid (∀ b, X b → K2 b) := fun b hb => by rw [hK2]; exact Or.inr (Or.inl hb)
  have HKR : Hid (K2 R) := by unfold Hid; rw [hK2]; exact Or.inr (Or.inr (Or.inl rfl))
  have HKY : Hid (K2 w.heap.size) := by unfold Hid; rw [hK2]; exact Or.inr (Or.inr (Or.inr (Or.inl rfl)))
  have HKD : Hid (K2 (w.heap.size + 1)) := by unfold Hid; rw [hK2]; exact Or.inr (Or.inr (Or.inr (Or.inr rfl)))
  have HK5 : Hid (∀ b, K2 b → b < W5.heap.size ∧ ¬ f b ∧ b ≠ w.heap.size + 1 + 1) := fun b hb => by
    rw [hK2] at hb
    have hfs := HI.out
    rcases hb with h | h | h | h | h
    · have := HI.out b (Or.inr h); exact ⟨by omega, HAP.out b h, by omega⟩
    · have := hXa.out b h; exact ⟨by omega, this.2, by omega⟩
    · subst h; exact ⟨by omega, hRf, by omega⟩
    · subst h; exact ⟨by omega, fun h => by have := hfs _ (Or.inl h); omega, by omega⟩
    · subst h; exact ⟨by omega, fun h => by have := hfs _ (Or.inl h); omega, by omega⟩
  clear hK2
  obtain ⟨rd, hrd⟩ : ∃ rd : Loop, rd = { r with state := .done, pending := some .ret } := ⟨_, rfl⟩
  obtain ⟨rb, hrb⟩ : ∃ rb : Loop, rb = { r with state := .busy } := ⟨_, rfl⟩
  have hok : TkOk (JL J K2 (chG rs) pre (w.heap.size + 1 + 1) r rd W5) K2 := JL.ok HJ.out HKK.out
  have HY5 := hide hY5
  have HR5 : Hid (Blk W5 R #[uv] 43) := (e5 R hRl).trans HR.out
  have HU5 := hide (HU.out.later hB5)
  obtain ⟨un, ul, uc0, huv⟩ : ∃ a n c, uv = .slice a n c := by obtain ⟨a, c, e, _⟩ := HU.out; exact ⟨a, _, c, e⟩
  have HOK := hide hOk
  clear hOk
  have RH2 : RndS (w.heap.size + 1 + 1) LpD (JL J K2 (chG rs) pre (w.heap.size + 1 + 1) r rd W5) (dnT [] fs t) S := by
    have HR1 := hide hr1
    have HR2 := hide hr2
    have HR3 := hide hr3
    have HR4 := hide hr4
    have HRR5 := hide hr5
    have HR6 := hide hr6
    clear hr1 hr2 hr3 hr4 hr5 hr6 p0 p1 hD5 hL5 hok hB1 hB5 hat hz
    intro n pre2 x args Z f2 W hokx hjj hl hZ
    have HOKX := hide hokx
    clear hokx
    obtain ⟨f1, m, hf2, hm, hm2, hj1, hfL, hL, hK1, hzW, hC⟩ := hjj
    obtain ⟨u, v, rfl, hu1, hv1⟩ := hl
    obtain ⟨ua, uc, rfl, hul, huc⟩ := hu1
    obtain ⟨xa, xc, rfl, hxs⟩ := hv1
    have HPU : Hid (PV W Z (.slice ua x.1.length uc) x.1) := ⟨ua, uc, rfl, hul, huc⟩
    have HXS := hide hxs
    have em := hm2 rfl
    subst em
    rw [List.take_length] at hj1
    simp only [if_true] at hL
    have HJ1 := hide hj1
    have HIN1 := hide (HJ.out.inside hj1)
    have HF2 := hide hf2
    have HK1 := hide hK1
    have HC := hide hC
    have HZ := hide hZ
    have HL := hide hL
    have hlL : w.heap.size + 1 + 1 < W.heap.size := (Array.getElem?_eq_some_iff.1 hL).1
    clear hul huc hxs hj1 hf2 hK1 hC hZ hm hm2
    refine yield_two hrb hrd HRR5.out HR6.out HR4.out HR3.out hL HR1.out HR2.out rfl ?_
    have hL2 : ((W.alloc (.cells #[.slice ua x.1.length uc] 34)).alloc (.cells #[.string x.2.name, .slice xa x.2.args.length xc] 25)).heap[w.heap.size + 1 + 1]? = some (.loop r) := (Below.heap_alloc _ _ _ (by simp; omega)).trans ((Below.heap_alloc _ _ _ hlL).trans hL)
    have kV : ∀ b, b < W.heap.size → b ≠ w.heap.size + 1 + 1 → (((W.alloc (.cells #[.slice ua x.1.length uc] 34)).alloc (.cells #[.string x.2.name, .slice xa x.2.args.length xc] 25)).putObj (w.heap.size + 1 + 1) (.loop rb)).heap[b]? = W.heap[b]? := fun b hb hne => (World.putObj_heap_other hne).trans ((Below.heap_alloc _ _ _ (by simp; omega)).trans (Below.heap_alloc _ _ _ hb))
    have hzV : (((W.alloc (.cells #[.slice ua x.1.length uc] 34)).alloc (.cells #[.string x.2.name, .slice xa x.2.args.length xc] 25)).putObj (w.heap.size + 1 + 1) (.loop rb)).heap.size = W.heap.size + 2 := by simp
    have hP4 : Blk (((W.alloc (.cells #[.slice ua x.1.length uc] 34)).alloc (.cells #[.string x.2.name, .slice xa x.2.args.length xc] 25)).putObj (w.heap.size + 1 + 1) (.loop rb)) W.heap.size #[.slice ua x.1.length uc] 34 := (World.putObj_heap_other (by omega)).trans ((Blk.new W _ _).alloc _)
    have hP5 : Blk (((W.alloc (.cells #[.slice ua x.1.length uc] 34)).alloc (.cells #[.string x.2.name, .slice xa x.2.args.length xc] 25)).putObj (w.heap.size + 1 + 1) (.loop rb)) (W.heap.size + 1) #[.string x.2.name, .slice xa x.2.args.length xc] 25 := (World.putObj_heap_other (by omega)).trans (by
      have h := Blk.new (W.alloc (.cells #[.slice ua x.1.length uc] 34)) #[.string x.2.name, .slice xa x.2.args.length xc] 25
      rw [World.size_alloc] at h
      exact h)
    have hLV : (((W.alloc (.cells #[.slice ua x.1.length uc] 34)).alloc (.cells #[.string x.2.name, .slice xa x.2.args.length xc] 25)).putObj (w.heap.size + 1 + 1) (.loop rb)).heap[w.heap.size + 1 + 1]? = some (.loop rb) := World.putObj_heap_same (by simp; omega)
    have hRV : Blk (((W.alloc (.cells #[.slice ua x.1.length uc] 34)).alloc (.cells #[.string x.2.name, .slice xa x.2.args.length xc] 25)).putObj (w.heap.size + 1 + 1) (.loop rb)) R #[uv] 43 := (kV R (by have := HK1.out R HKR.out; omega) (HK1.out R HKR.out).2.2).trans ((HC.out R HKR.out).trans HR5.out)
    have cR : (((W.alloc (.cells #[.slice ua x.1.length uc] 34)).alloc (.cells #[.string x.2.name, .slice xa x.2.args.length xc] 25)).putObj (w.heap.size + 1 + 1) (.loop rb)).cell? ⟨R, 0, none⟩ = some uv := hRV.cell 0
    have cX0 : (((W.alloc (.cells #[.slice ua x.1.length uc] 34)).alloc (.cells #[.string x.2.name, .slice xa x.2.args.length xc] 25)).putObj (w.heap.size + 1 + 1) (.loop rb)).cell? ⟨W.heap.size + 1, 0, none⟩ = some (.string x.2.name) := hP5.cell 0
    have cX1 : (((W.alloc (.cells #[.slice ua x.1.length uc] 34)).alloc (.cells #[.string x.2.name, .slice xa x.2.args.length xc] 25)).putObj (w.heap.size + 1 + 1) (.loop rb)).cell? ⟨W.heap.size + 1, 1, none⟩ = some (.slice xa x.2.args.length xc) := hP5.cell 1
    have HOSV : Hid ((((W.alloc (.cells #[.slice ua x.1.length uc] 34)).alloc (.cells #[.string x.2.name, .slice xa x.2.args.length xc] 25)).putObj (w.heap.size + 1 + 1) (.loop rb)).os = W.os ∧ (((W.alloc (.cells #[.slice ua x.1.length uc] 34)).alloc (.cells #[.string x.2.name, .slice xa x.2.args.length xc] 25)).putObj (w.heap.size + 1 + 1) (.loop rb)).tape = W.tape ∧ (((W.alloc (.cells #[.slice ua x.1.length uc] 34)).alloc (.cells #[.string x.2.name, .slice xa x.2.args.length xc] 25)).putObj (w.heap.size + 1 + 1) (.loop rb)).output = W.output) := ⟨rfl, rfl, rfl⟩
    have HP4 := hide hP4
    have HP5 := hide hP5
    have HLV := hide hLV
    have HKV := hide kV
    clear hP4 hP5 hLV kV hRV hrb hrd
    have hf1 : (Fence.wide.inRound (w.heap.size + 1 + 1)).fn 103 := trivial
    subst huv
    gi_wp2
    generalize (((W.alloc (.cells #[.slice ua x.1.length uc] 34)).alloc (.cells #[.string x.2.name, .slice xa x.2.args.length xc] 25)).putObj (w.heap.size + 1 + 1) (.loop rb)) = V at *
    refine ⟨trivial, (fun h => by simp [Fence.wide] at h), ?_⟩
    refine (CallsIn.inRound _ (callsIn_wide.2 (stepsFits_any _ ⟨_, _, _, rfl⟩ _ _ _ _ _))).mono ?_
    rintro e w' ⟨rfl, rfl⟩
    gi_wp2
    clear cR cX0 cX1
    refine wp_rangeN (l₀ := w.heap.size + 1 + 1) (r₀ := rb) (by exact (Below.heap_alloc _ _ _ (by simp; omega)).trans ((Below.heap_alloc _ _ _ (by omega)).trans HLV.out)) (gf := 123) (lb := #[.pointer (some ⟨W.heap.size + 2, 0, none⟩), .pointer (some ⟨W.heap.size + 2 + 1, 0, none⟩)]) rfl (enters_of Try.func123 (by kernel_rfl) rfl) ?_
    intro r3 h31 h32 h33 h34 h35 h36
    have hz2 : ((V.alloc (.cells #[.slice un ul uc0] 43)).alloc (.cells #[.string x.2.name, .slice xa x.2.args.length xc] 25)).heap.size = W.heap.size + 4 := by simp; omega
    rw [hz2]
    have hz6 : (((V.alloc (.cells #[.slice un ul uc0] 43)).alloc (.cells #[.string x.2.name, .slice xa x.2.args.length xc] 25)).alloc (.loop r3)).heap.size = W.heap.size + 5 := by simp; omega
    have hB6 : Below V.heap.size V (((V.alloc (.cells #[.slice un ul uc0] 43)).alloc (.cells #[.string x.2.name, .slice xa x.2.args.length xc] 25)).alloc (.loop r3)) := below3 _ _ _
    have hR6 : Blk (((V.alloc (.cells #[.slice un ul uc0] 43)).alloc (.cells #[.string x.2.name, .slice xa x.2.args.length xc] 25)).alloc (.loop r3)) (W.heap.size + 2) #[.slice un ul uc0] 43 := by
      have h := ((Blk.new V #[.slice un ul uc0] 43).alloc (.cells #[.string x.2.name, .slice xa x.2.args.length xc] 25)).alloc (.loop r3)
      rw [hzV] at h
      exact h
    have hT6 : Blk (((V.alloc (.cells #[.slice un ul uc0] 43)).alloc (.cells #[.string x.2.name, .slice xa x.2.args.length xc] 25)).alloc (.loop r3)) (W.heap.size + 2 + 1) #[.string x.2.name, .slice xa x.2.args.length xc] 25 := by
      have h := (Blk.new (V.alloc (.cells #[.slice un ul uc0] 43)) #[.string x.2.name, .slice xa x.2.args.length xc] 25).alloc (.loop r3)
      rw [World.size_alloc, hzV] at h
      exact h
    have hL6 : (((V.alloc (.cells #[.slice un ul uc0] 43)).alloc (.cells #[.string x.2.name, .slice xa x.2.args.length xc] 25)).alloc (.loop r3)).heap[W.heap.size + 4]? = some (.loop r3) := by
      have h1 := World.alloc_heap_new ((V.alloc (.cells #[.slice un ul uc0] 43)).alloc (.cells #[.string x.2.name, .slice xa x.2.args.length xc] 25)) (.loop r3)
      rw [hz2] at h1
      exact h1
    have HOS6 : Hid ((((V.alloc (.cells #[.slice un ul uc0] 43)).alloc (.cells #[.string x.2.name, .slice xa x.2.args.length xc] 25)).alloc (.loop r3)).os = W.os ∧ (((V.alloc (.cells #[.slice un ul uc0] 43)).alloc (.cells #[.string x.2.name, .slice xa x.2.args.length xc] 25)).alloc (.loop r3)).tape = W.tape ∧ (((V.alloc (.cells #[.slice un ul uc0] 43)).alloc (.cells #[.string x.2.name, .slice xa x.2.args.length xc] 25)).alloc (.loop r3)).output = W.output) := HOSV.out
    generalize (((V.alloc (.cells #[.slice un ul uc0] 43)).alloc (.cells #[.string x.2.name, .slice xa x.2.args.length xc] 25)).alloc (.loop r3)) = W6 at *
    have e6 : ∀ b, b < W.heap.size → b ≠ w.heap.size + 1 + 1 → W6.heap[b]? = W.heap[b]? := fun b hb hne => (hB6.block b (by omega)).trans (HKV.out b hb hne)
    have hLb6 : W6.heap[w.heap.size + 1 + 1]? = some (.loop rb) := (hB6.block _ (by omega)).trans HLV.out
    have hP4 : Blk W6 W.heap.size #[.slice ua x.1.length uc] 34 := HP4.out.below hB6 (by omega)
    have hP5 : Blk W6 (W.heap.size + 1) #[.string x.2.name, .slice xa x.2.args.length xc] 25 := HP5.out.below hB6 (by omega)
    obtain ⟨K3, hK3⟩ : ∃ K3 : Nat → Prop, K3 = fun b => K2 b ∨ (Z b ∧ b ≠ w.heap.size + 1 + 1) ∨ b = w.heap.size + 1 + 1 ∨ b = W.heap.size ∨ b = W.heap.size + 1 := ⟨_, rfl⟩
    have k3a : Hid (∀ b, K2 b → K3 b) := fun b hb => by rw [hK3]; exact Or.inl hb
    have k3z : Hid (∀ b, Z b → K3 b) := fun b hb => by
      rw [hK3]
      by_cases h : b = w.heap.size + 1 + 1
      · exact Or.inr (Or.inr (Or.inl h))
      · exact Or.inr (Or.inl ⟨hb, h⟩)
    have k3l : Hid (K3 (w.heap.size + 1 + 1)) := by unfold Hid; rw [hK3]; exact Or.inr (Or.inr (Or.inl rfl))
    have k34 : Hid (K3 W.heap.size) := by unfold Hid; rw [hK3]; exact Or.inr (Or.inr (Or.inr (Or.inl rfl)))
    have k35 : Hid (K3 (W.heap.size + 1)) := by unfold Hid; rw [hK3]; exact Or.inr (Or.inr (Or.inr (Or.inr rfl)))
    have hZf : Hid (∀ b, Z b → b < W.heap.size ∧ ¬ f1 b ∧ b ≠ w.heap.size + 1 + 1) := fun b hb => ⟨(HZ.out b hb).1, fun h => (HZ.out b hb).2 ((HF2.out b).2 (Or.inl h)), fun h => (HZ.out b hb).2 ((HF2.out b).2 (Or.inr h))⟩
    have HK6 : Hid (∀ b, K3 b → b < W6.heap.size ∧ ¬ f1 b ∧ b ≠ W.heap.size + 4) := fun b hb => by
      rw [hK3] at hb
      have hfs := HIN1.out
      rcases hb with h | h | h | h | h
      · have := HK1.out b h; exact ⟨by omega, this.2.1, by omega⟩
      · have := hZf.out b h.1; exact ⟨by omega, this.2.1, by omega⟩
      · subst h; exact ⟨by omega, hfL, by omega⟩
      · subst h; exact ⟨by omega, fun h => by have := hfs _ (Or.inl h); omega, by omega⟩
      · subst h; exact ⟨by omega, fun h => by have := hfs _ (Or.inl h); omega, by omega⟩
    clear hK3
    obtain ⟨rd3, hrd3⟩ : ∃ rd : Loop, rd = { r3 with state := .done, pending := some .ret } := ⟨_, rfl⟩
    obtain ⟨rb3, hrb3⟩ : ∃ rb : Loop, rb = { r3 with state := .busy } := ⟨_, rfl⟩
    have hJ6 : J (pre ++ pre2.flatMap (chG rs)) true f1 W6 := HJ.out.abide HJ1.out (by omega) fun b hb => e6 b (HIN1.out b hb) (fun h => by
      rcases hb with hb | hb
      · rw [h] at hb; exact hfL hb
      · exact (HK1.out b (HKK.out b hb)).2.2 h)
    have hok3 : TkOk (JL J K3 (fun y : Ft => [((x, y) : Ch)]) (pre ++ pre2.flatMap (chG rs)) (W.heap.size + 4) r3 rd3 W6) K3 := JL.ok HJ.out fun b hb => k3a.out b (HKK.out b hb)
    have hU6 : QV W6 X (.slice un ul uc0) rs := ((HU5.out.mono (Y := fun b => X b ∧ b < W5.heap.size) fun b h1 h2 => ⟨h1, h2⟩).kept fun b hb => by
      have h1 := HK1.out b (HKX.out b hb.1)
      exact (e6 b (by omega) h1.2.2).trans (HC.out b (HKX.out b hb.1))).mono fun b hb _ => hb.1
    have HPU6 : Hid (PV W6 Z (.slice ua x.1.length uc) x.1) := HPU.out.kept fun b hb => e6 b (hZf.out b hb).1 (hZf.out b hb).2.2
    have hXS6 : Sl W6 Z xa x.2.args := HXS.out.kept fun b hb => e6 b (hZf.out b hb).1 (hZf.out b hb).2.2
    have HXS6 := hide hXS6
    have hY6 : Blk W6 w.heap.size #[.func (.yield lp) #[] #[]] 142 := (e6 _ (by omega) (by omega)).trans ((HC.out _ HKY.out).trans HY5.out)
    have HY6 := hide hY6
    have HP46 := hide hP4
    have HP56 := hide hP5
    have HLB6 := hide hLb6
    have HE6 := hide e6
    have HL6 := hide hL6
    have HJ6 := hide hJ6
    have HT6 := hide hT6
    have HR6' := hide hR6
    have HU6 := hide hU6
    have HOK3 := hide hok3
    clear hY6 hP4 hP5 hLb6 e6 hL6 hJ6 hT6 hR6 hU6 hXS6 hok3 hB6 hz2
    have RH3 : RndS (W.heap.size + 4) LpF (JL J K3 (fun y : Ft => [((x, y) : Ch)]) (pre ++ pre2.flatMap (chG rs)) (W.heap.size + 4) r3 rd3 W6) (fitsL rs x.2) S := by
      intro n3 pre3 y args Z3 f3 U hoky hjj hl hZ3
      have HOKY := hide hoky
      clear hoky
      obtain ⟨g1, m3, hg3, hm3, hm32, hj3, hgL, hL3, hK3', hzU, hC3⟩ := hjj
      obtain ⟨ra, rc, q, Lm, rfl, hra, hq, henv⟩ := hl
      have em3 := hm32 rfl
      subst em3
      rw [List.take_length] at hj3
      simp only [if_true] at hL3
      have HRA := hide hra
      have HQ := hide hq
      have HEN := hide henv
      have HJ3 := hide hj3
      have HING := hide (HJ.out.inside hj3)
      have HG3 := hide hg3
      have HK3' := hide hK3'
      have HC3 := hide hC3
      have HZ3 := hide hZ3
      have HL3 := hide hL3
      have hlL3 : W.heap.size + 4 < U.heap.size := (Array.getElem?_eq_some_iff.1 hL3).1
      clear hra hq henv hj3 hg3 hK3' hC3 hZ3 hm3 hm32
      refine yield_two hrb3 hrd3 h35 h36 h34 h33 hL3 h31 h32 rfl ?_
      have hL32 : (U.alloc (.cells #[.string y.1.r.name, .slice ra y.1.r.args.length rc, .map (some q)] 117)).heap[W.heap.size + 4]? = some (.loop r3) := (Below.heap_alloc _ _ _ hlL3).trans hL3
      have kU : ∀ b, b < U.heap.size → b ≠ W.heap.size + 4 → ((U.alloc (.cells #[.string y.1.r.name, .slice ra y.1.r.args.length rc, .map (some q)] 117)).putObj (W.heap.size + 4) (.loop rb3)).heap[b]? = U.heap[b]? := fun b hb hne => (World.putObj_heap_other hne).trans (Below.heap_alloc _ _ _ hb)
      have hzU2 : ((U.alloc (.cells #[.string y.1.r.name, .slice ra y.1.r.args.length rc, .map (some q)] 117)).putObj (W.heap.size + 4) (.loop rb3)).heap.size = U.heap.size + 1 := by simp
      have hFB : Blk ((U.alloc (.cells #[.string y.1.r.name, .slice ra y.1.r.args.length rc, .map (some q)] 117)).putObj (W.heap.size + 4) (.loop rb3)) U.heap.size #[.string y.1.r.name, .slice ra y.1.r.args.length rc, .map (some q)] 117 := (World.putObj_heap_other (by omega)).trans (Blk.new U _ _)
      have hLU : ((U.alloc (.cells #[.string y.1.r.name, .slice ra y.1.r.args.length rc, .map (some q)] 117)).putObj (W.heap.size + 4) (.loop rb3)).heap[W.heap.size + 4]? = some (.loop rb3) := World.putObj_heap_same (by simp; omega)
      have k6 : ∀ b, K3 b → ((U.alloc (.cells #[.string y.1.r.name, .slice ra y.1.r.args.length rc, .map (some q)] 117)).putObj (W.heap.size + 4) (.loop rb3)).heap[b]? = W6.heap[b]? := fun b hb => (kU b (by have := (HK3'.out b hb).1; omega) (HK3'.out b hb).2.2).trans (HC3.out b hb)
      have cY : ((U.alloc (.cells #[.string y.1.r.name, .slice ra y.1.r.args.length rc, .map (some q)] 117)).putObj (W.heap.size + 4) (.loop rb3)).cell? ⟨w.heap.size, 0, none⟩ = some (.func (.yield lp) #[] #[]) := Blk.cell (show Blk _ w.heap.size _ _ from (k6 _ (k3a.out _ HKY.out)).trans HY6.out) 0
      have cP : ((U.alloc (.cells #[.string y.1.r.name, .slice ra y.1.r.args.length rc, .map (some q)] 117)).putObj (W.heap.size + 4) (.loop rb3)).cell? ⟨W.heap.size, 0, none⟩ = some (.slice ua x.1.length uc) := Blk.cell (show Blk _ W.heap.size _ _ from (k6 _ k34.out).trans HP46.out) 0
      have cX0 : ((U.alloc (.cells #[.string y.1.r.name, .slice ra y.1.r.args.length rc, .map (some q)] 117)).putObj (W.heap.size + 4) (.loop rb3)).cell? ⟨W.heap.size + 1, 0, none⟩ = some (.string x.2.name) := Blk.cell (show Blk _ (W.heap.size + 1) _ _ from (k6 _ k35.out).trans HP56.out) 0
      have cX1 : ((U.alloc (.cells #[.string y.1.r.name, .slice ra y.1.r.args.length rc, .map (some q)] 117)).putObj (W.heap.size + 4) (.loop rb3)).cell? ⟨W.heap.size + 1, 1, none⟩ = some (.slice xa x.2.args.length xc) := Blk.cell (show Blk _ (W.heap.size + 1) _ _ from (k6 _ k35.out).trans HP56.out) 1
      have cF0 : ((U.alloc (.cells #[.string y.1.r.name, .slice ra y.1.r.args.length rc, .map (some q)] 117)).putObj (W.heap.size + 4) (.loop rb3)).cell? ⟨U.heap.size, 0, none⟩ = some (.string y.1.r.name) := hFB.cell 0
      have cF1 : ((U.alloc (.cells #[.string y.1.r.name, .slice ra y.1.r.args.length rc, .map (some q)] 117)).putObj (W.heap.size + 4) (.loop rb3)).cell? ⟨U.heap.size, 1, none⟩ = some (.slice ra y.1.r.args.length rc) := hFB.cell 1
      have cF2 : ((U.alloc (.cells #[.string y.1.r.name, .slice ra y.1.r.args.length rc, .map (some q)] 117)).putObj (W.heap.size + 4) (.loop rb3)).cell? ⟨U.heap.size, 2, none⟩ = some (.map (some q)) := hFB.cell 2
      have hJU : J ((pre ++ pre2.flatMap (chG rs)) ++ pre3.flatMap (fun y : Ft => [((x, y) : Ch)])) true g1 ((U.alloc (.cells #[.string y.1.r.name, .slice ra y.1.r.args.length rc, .map (some q)] 117)).putObj (W.heap.size + 4) (.loop rb3)) := HJ.out.abide HJ3.out (by omega) fun b hb => kU b (HING.out b hb) (fun h => by
        rcases hb with hb | hb
        · rw [h] at hb; exact hgL hb
        · exact (HK3'.out b (k3a.out b (HKK.out b hb))).2.2 h)
      have hZ3f : Hid (∀ b, Z3 b → b < U.heap.size ∧ ¬ g1 b ∧ b ≠ W.heap.size + 4) := fun b hb => ⟨(HZ3.out b hb).1, fun h => (HZ3.out b hb).2 ((HG3.out b).2 (Or.inl h)), fun h => (HZ3.out b hb).2 ((HG3.out b).2 (Or.inr h))⟩
      have HOS : Hid (((U.alloc (.cells #[.string y.1.r.name, .slice ra y.1.r.args.length rc, .map (some q)] 117)).putObj (W.heap.size + 4) (.loop rb3)).os = U.os ∧ ((U.alloc (.cells #[.string y.1.r.name, .slice ra y.1.r.args.length rc, .map (some q)] 117)).putObj (W.heap.size + 4) (.loop rb3)).tape = U.tape ∧ ((U.alloc (.cells #[.string y.1.r.name, .slice ra y.1.r.args.length rc, .map (some q)] 117)).putObj (W.heap.size + 4) (.loop rb3)).output = U.output) := ⟨rfl, rfl, rfl⟩
      have HKU := hide kU
      have HLU := hide hLU
      have HKU6 := hide k6
      clear kU hLU k6 hFB
      have RHW := HRH.out (n3 - 1) _ (x, y) #[.agg #[.slice ua x.1.length uc, .string x.2.name, .slice xa x.2.args.length xc, .string y.1.r.name, .slice ra y.1.r.args.length rc, .map (some q)]] (fun b => Z b ∨ Z3 b) g1 ((U.alloc (.cells #[.string y.1.r.name, .slice ra y.1.r.args.length rc, .map (some q)] 117)).putObj (W.heap.size + 4) (.loop rb3)) (by
          obtain ⟨q3, e3⟩ := HOKY.out
          obtain ⟨q2, e2⟩ := HOKX.out
          refine List.IsPrefix.trans ⟨(q3.map fun z => (x, z)) ++ q2.flatMap (chG rs), ?_⟩ HOK.out
          unfold chL
          rw [← e2, List.flatMap_append, List.flatMap_append, List.flatMap_singleton, chG, ← e3, List.map_append, List.map_append, ← List.map_eq_flatMap]
          simp) hJU
        ⟨ua, uc, xa, xc, ra, rc, q, Lm, rfl, (HPU6.out.kept fun b hb => HKU6.out b (k3z.out b hb)).mono fun b hb _ => Or.inl hb, (HXS6.out.kept fun b hb => HKU6.out b (k3z.out b hb)).mono fun b hb _ => Or.inl hb, (HRA.out.kept fun b hb => HKU.out b (hZ3f.out b hb).1 (hZ3f.out b hb).2.2).mono fun b hb _ => Or.inr hb, Or.inr HQ.out, HEN.out.1.kept (HKU.out q (hZ3f.out q HQ.out).1 (hZ3f.out q HQ.out).2.2), HEN.out.2.imp fun a l hs => (hs.kept fun b hb => HKU.out b (hZ3f.out b hb).1 (hZ3f.out b hb).2.2).mono fun b hb _ => Or.inr hb⟩
        (fun b hb => by
          rcases hb with hb | hb
          · have h1 := HK3'.out b (k3z.out b hb); exact ⟨by omega, h1.2.1⟩
          · have h1 := hZ3f.out b hb; exact ⟨by omega, h1.2.1⟩)
      obtain ⟨hfn, htmps, hasg, hbody, hy, hR⟩ := RHW
      have HRR := hide hR
      clear hR hJU hrb3 hrd3
      gi_wp2
      refine ⟨(Array.getElem?_eq_some_iff.1 hL32).2, ?_⟩
      generalize ((U.alloc (.cells #[.string y.1.r.name, .slice ra y.1.r.args.length rc, .map (some q)] 117)).putObj (W.heap.size + 4) (.loop rb3)) = V3 at *
      gi_wp2
      refine ⟨(fun h => by simp [Fence.wide] at h), ?_⟩
      refine RoundIn.mono (F := Fence.wide.inRound (W.heap.size + 4)) HRR.out ?_
      rintro e W9 ⟨s9, rfl, f9, hj9, he9, hff9, hS9⟩
      have HS9 := hide hS9
      clear hS9
      have hz9 := he9.size
      have HL9 : Hid (W9.heap[W.heap.size + 4]? = some (.loop rb3)) := (he9.block _ (by omega) hgL).trans HLU.out
      have HFIN : Hid (∀ o : Loop, o = (if s9 = true then r3 else rd3) → ∃ f', JL J K3 (fun y : Ft => [((x, y) : Ch)]) (pre ++ pre2.flatMap (chG rs)) (W.heap.size + 4) r3 rd3 W6 (pre3 ++ [y]) s9 f' (W9.putObj (W.heap.size + 4) (.loop o)) ∧ ExQ f3 U (W9.putObj (W.heap.size + 4) (.loop o)) ∧ (∀ b, f' b → f3 b ∨ U.heap.size ≤ b) ∧ IfNo s9 (S (W9.putObj (W.heap.size + 4) (.loop o)))) := fun o ho => by
        subst ho
        have h4n : ¬ f9 (W.heap.size + 4) := fun h => by
          rcases hff9 _ h with h | h
          · exact hgL h
          · omega
        have hk9 : ∀ b, K3 b → W9.heap[b]? = W6.heap[b]? ∧ ¬ f9 b := fun b hb => by
          have h1 := HK3'.out b hb
          refine ⟨(he9.block b (by omega) h1.2.1).trans (HKU6.out b hb), fun h => ?_⟩
          rcases hff9 _ h with h | h
          · exact h1.2.1 h
          · omega
        refine ⟨fun b => f9 b ∨ b = W.heap.size + 4, ⟨f9, _, fun b => Iff.rfl, Nat.le_refl _, fun _ => rfl, ?_, h4n, World.putObj_heap_same (by omega), fun b hb => ⟨(HK3'.out b hb).1, (hk9 b hb).2, (HK3'.out b hb).2.2⟩, by simp; omega, fun b hb => (World.putObj_heap_other (HK3'.out b hb).2.2).trans (hk9 b hb).1⟩, ?_, (fun b hb => ?_), fun h => HST.out.put (HS9.out h) HL9.out _⟩
        · rw [List.take_length, List.flatMap_append]
          refine HJ.out.abide (by simpa using hj9) (by simp) fun b hb => World.putObj_heap_other fun h => ?_
          rcases hb with hb | hb
          · rw [h] at hb; exact h4n hb
          · exact (HK3'.out b (k3a.out b (HKK.out b hb))).2.2 h
        · refine ⟨?_, ?_, ?_, by simp; omega, fun b hb hn => ?_⟩
          · exact he9.os.trans HOS.out.1
          · exact he9.tape.trans HOS.out.2.1
          · exact he9.output.trans HOS.out.2.2
          · have h1 : b ≠ W.heap.size + 4 := fun h => hn ((HG3.out b).2 (Or.inr h))
            rw [World.putObj_heap_other h1, he9.block b (by omega) (fun h => hn ((HG3.out b).2 (Or.inl h))), HKU.out b hb h1]
        · rcases hb with hb | hb
          · rcases hff9 b hb with h | h
            · exact Or.inl ((HG3.out b).2 (Or.inl h))
            · right; omega
          · exact Or.inl ((HG3.out b).2 (Or.inr hb))
      clear hj9 he9 hff9
      cases s9 with
      | true =>
        gi_wp2
        exact ⟨HL9.out, HFIN.out _ rfl⟩
      | false =>
        gi_wp2
        exact ⟨HL9.out, HFIN.out _ rfl⟩
    have hXf : ∀ b, X b ∨ Z b → b < W6.heap.size ∧ ¬ (f1 b ∨ b = W.heap.size + 4) := fun b hb => by
      have h1 : K3 b := by
        rcases hb with hb | hb
        · exact k3a.out b (HKX.out b hb)
        · exact k3z.out b hb
      have h2 := HK6.out b h1
      exact ⟨h2.1, fun h => by
        rcases h with h | h
        · exact h2.2.1 h
        · exact h2.2.2 h⟩
    refine (fits1S_any HOK3.out (W.heap.size + 4) RH3 rs x.2 (W.heap.size + 2) (W.heap.size + 2 + 1) (.slice un ul uc0) xa xc [] (fun b => f1 b ∨ b = W.heap.size + 4) W6 (fun b => X b ∨ Z b) HR6'.out (HU6.out.mono fun b hb _ => Or.inl hb) HT6.out (HXS6.out.mono fun b hb _ => Or.inr hb) hXf (fun h => by
      rcases h with h | h
      · have := HIN1.out _ (Or.inl h); omega
      · omega) (fun h => by
      rcases h with h | h
      · have := HIN1.out _ (Or.inl h); omega
      · omega) (JL.start HJ6.out (fun h => by have := HIN1.out _ (Or.inl h); omega) HL6.out HK6.out) (by simp)).mono ?_
    clear RH3 hXf
    rintro e W7 ⟨hret, s7, hw7, hS7⟩
    have HS7 := hide hS7
    clear hS7
    obtain ⟨f7, m7, hm7, hm72, hj7, hfL7, hL7, hK7, he7, hff7⟩ := hw7.unJL
    have hz7 := he7.size
    have HRET := hide hret
    have HFIN : Hid (∀ (o : Loop) (o3 : Obj), o = (if s7 = true then r else rd) → (W7.putObj (W.heap.size + 4) o3).heap[w.heap.size + 1 + 1]? = some (.loop rb) ∧ ∃ f', JL J K2 (chG rs) pre (w.heap.size + 1 + 1) r rd W5 (pre2 ++ [x]) s7 f' ((W7.putObj (W.heap.size + 4) o3).putObj (w.heap.size + 1 + 1) (.loop o)) ∧ ExQ f2 W ((W7.putObj (W.heap.size + 4) o3).putObj (w.heap.size + 1 + 1) (.loop o)) ∧ (∀ b, f' b → f2 b ∨ W.heap.size ≤ b) ∧ IfNo s7 (S ((W7.putObj (W.heap.size + 4) o3).putObj (w.heap.size + 1 + 1) (.loop o)))) := fun o o3 ho => by
      subst ho
      have hLb := hK7 _ k3l.out
      have kk : ∀ b, b ≠ W.heap.size + 4 → b ≠ w.heap.size + 1 + 1 → ((W7.putObj (W.heap.size + 4) o3).putObj (w.heap.size + 1 + 1) (.loop (if s7 = true then r else rd))).heap[b]? = W7.heap[b]? := fun b h1 h2 => (World.putObj_heap_other h2).trans (World.putObj_heap_other h1)
      have hmap : (fitsL rs x.2).flatMap (fun y : Ft => [((x, y) : Ch)]) = chG rs x := by unfold chG; rw [List.map_eq_flatMap]
      rw [hmap] at hm7 hm72 hj7
      refine ⟨(World.putObj_heap_other (by omega)).trans (hLb.2.2.2.trans HLB6.out), fun b => f7 b ∨ b = w.heap.size + 1 + 1, ⟨f7, (pre2.flatMap (chG rs)).length + m7, fun b => Iff.rfl, by rw [List.flatMap_append, List.length_append]; simp; omega, fun h => by rw [List.flatMap_append, List.length_append, hm72 h]; simp, ?_, hLb.2.1, World.putObj_heap_same (by simp; omega), fun b hb => ⟨(HK1.out b hb).1, (hK7 b (k3a.out b hb)).2.1, (HK1.out b hb).2.2⟩, by simp; omega, fun b hb => ?_⟩, ?_, (fun b hb => ?_), fun h => HST.out.put (HST.out.put (HS7.out h) hL7 _) ((World.putObj_heap_other (by omega)).trans (hLb.2.2.2.trans HLB6.out)) _⟩
      · refine HJ.out.abide (W := W7) (by
          rw [List.flatMap_append, List.take_append, List.take_of_length_le (by omega)]
          simpa [List.append_assoc] using hj7) (by simp) fun b hb => kk b (fun h => ?_) (fun h => ?_)
        · rcases hb with hb | hb
          · rw [h] at hb; exact hfL7 hb
          · exact (hK7 b (k3a.out b (HKK.out b hb))).2.2.1 h
        · rcases hb with hb | hb
          · rw [h] at hb; exact hLb.2.1 hb
          · exact (HK1.out b (HKK.out b hb)).2.2 h
      · have h1 := hK7 b (k3a.out b hb)
        have h2 := HK1.out b hb
        exact (kk b h1.2.2.1 h2.2.2).trans (h1.2.2.2.trans ((HE6.out b (by omega) h2.2.2).trans (HC.out b hb)))
      · refine ⟨?_, ?_, ?_, by simp; omega, fun b hb hn => ?_⟩
        · exact he7.os.trans HOS6.out.1
        · exact he7.tape.trans HOS6.out.2.1
        · exact he7.output.trans HOS6.out.2.2
        · have h1 : b ≠ w.heap.size + 1 + 1 := fun h => hn ((HF2.out b).2 (Or.inr h))
          have h2 : ¬ f1 b := fun h => hn ((HF2.out b).2 (Or.inl h))
          rw [kk b (by omega) h1, he7.block b (by omega) (fun h => by
            rcases h with (h | h) | h
            · exact h2 h
            · omega
            · exact h), HE6.out b hb h1]
      · rcases hb with hb | hb
        · rcases hff7 b hb with (h | h) | h
          · exact Or.inl ((HF2.out b).2 (Or.inl h))
          · right; omega
          · right; omega
        · exact Or.inl ((HF2.out b).2 (Or.inr hb))
    have HL7 := hide hL7
    clear hw7 hj7 hK7 he7 hff7 hm7 hm72 hret
    refine ⟨HRET.out, ?_⟩
    cases s7 with
    | true =>
      left
      refine ⟨HL7.out, ?_⟩
      gi_wp2
      exact HFIN.out _ _ rfl
    | false =>
      right
      refine ⟨by rw [← hrd3]; exact HL7.out, ?_⟩
      gi_wp2
      exact HFIN.out _ _ rfl
  refine (downCS_any hok (w.heap.size + 1 + 1) RH2 t fs T F aa ca fv [] (fun b => f b ∨ b = w.heap.size + 1 + 1) W5 X (HT.out.below hB5 HT.out.lt) (HS.out.later hB5) (HF.out.below hB5 HF.out.lt) (HFV.out.later hB5) hat (fun b hb => ⟨(HK5.out b (HKX.out b hb)).1, fun h => by
    rcases h with h | h
    · exact (HK5.out b (HKX.out b hb)).2.1 h
    · exact (HK5.out b (HKX.out b hb)).2.2 h⟩) (JL.start (HJ.out.abide HJ0.out (by omega) fun b hb => e5 b (HI.out b hb)) (fun h => by have := HI.out _ (Or.inl h); omega) hL5 HK5.out) hz (by simp)).mono ?_
  rintro e W ⟨hret, s, hw, hSS⟩
  have HSS := hide hSS
  clear hSS
  obtain ⟨f', m, hm, hm2, hj', hfL', hL', hK', he', hff'⟩ := hw.unJL
  have hz' := he'.size
  have HDW : Hid (∀ o, (W.putObj (w.heap.size + 1 + 1) o).heap[w.heap.size + 1]? = some (.deferred (some []))) := fun o => (World.putObj_heap_other (by omega)).trans ((hK' _ HKD.out).2.2.2.trans hD5)
  have HFIN : Hid (∀ o o1, Went J (chL rs t fs) pre f (fun _ => False) w s ((W.putObj (w.heap.size + 1 + 1) o).putObj (w.heap.size + 1) o1)) := fun o o1 => by
    have kk : ∀ b, b ≠ w.heap.size + 1 + 1 → b ≠ w.heap.size + 1 → ((W.putObj (w.heap.size + 1 + 1) o).putObj (w.heap.size + 1) o1).heap[b]? = W.heap[b]? := fun b h1 h2 => (World.putObj_heap_other h2).trans (World.putObj_heap_other h1)
    have hKd := hK' _ HKD.out
    refine ⟨m, f', hm, hm2, HJ.out.abide hj' (by simp) fun b hb => kk b (fun h => ?_) (fun h => ?_), ⟨?_, ?_, ?_, by simp; omega, fun b hb hn => ?_⟩, fun b hb => ?_⟩
    · rcases hb with hb | hb
      · rw [h] at hb; exact hfL' hb
      · exact (hK' b (HKK.out b hb)).2.2.1 h
    · rcases hb with hb | hb
      · rw [h] at hb; exact hKd.2.1 hb
      · have := HI.out b (Or.inr hb); omega
    · exact he'.os.trans hB5.os
    · exact he'.tape.trans hB5.tape
    · exact he'.output.trans hB5.output
    · rw [kk b (by omega) (by omega), he'.block b (by omega) (fun h => by
        rcases h with (h | h) | h
        · exact hn (Or.inl h)
        · omega
        · exact h), e5 b hb]
    · rcases hff' b hb with (h | h) | h
      · exact Or.inl h
      · right; omega
      · right; omega
  have HFS : Hid (∀ o o1, IfNo s (S ((W.putObj (w.heap.size + 1 + 1) o).putObj (w.heap.size + 1) o1))) := fun o o1 h => HST.out.putD (HST.out.put (HSS.out h) hL' _) (HDW.out _) _
  have HL' := hide hL'
  have HRET := hide hret
  clear hw hj' hK' he' hff' hm hm2 hret RH2 hok hB5 hD5 hL5 e5
  refine ⟨HRET.out, ?_⟩
  cases s with
  | true =>
    left
    refine ⟨HL'.out, ?_⟩
    gi_wp2
    refine ⟨by simp, .inl ⟨_, _, rfl, run_takeDeferred (HDW.out _), ?_⟩⟩
    exact ⟨_, results_none rfl _ _ _, ⟨_, rfl⟩, ⟨true, HFIN.out _ _, HFS.out _ _⟩⟩
  | false =>
    right
    refine ⟨by rw [← hrd]; exact HL'.out, ?_⟩
    gi_wp2
    refine ⟨by simp, .inl ⟨_, _, rfl, run_takeDeferred (HDW.out _), ?_⟩⟩
    exact ⟨_, results_none rfl _ _ _, ⟨_, rfl⟩, ⟨false, HFIN.out _ _, HFS.out _ _⟩⟩
set_option maxHeartbeats 2000000 in
theorem chances1I_any {J : Tk Ch} {K : Nat → Prop} {all : List Ch} (hJ : TkOk J K) (lp : Nat) (RH : Rnd lp LpC J all) (rs : List Pr) (t : Tm) (fs : List Int) (P R T F : Nat) (uv : Value) (aa : Option Addr) (ca : Nat) (fv : Value) (pre : List Ch) (f : Nat → Prop) (w : World) (X : Nat → Prop) (hP : Blk w P #[.func (.func 104) #[] #[.pointer (some ⟨T, 0, none⟩), .pointer (some ⟨F, 0, none⟩)]] 113) (hR : Blk w R #[uv] 43) (hu : QV w X uv rs) (hT : Blk w T #[.string t.name, .slice aa t.args.length ca] 25) (hs : Sl w X aa t.args) (hF : Blk w F #[fv] 34) (hfv : PV w X fv fs) (hat : (atT t fs).isSome = true) (hX : ∀ b, X b → b < w.heap.size ∧ ¬ f b) (hRf : ¬ f R) (hj : J pre true f w) (hz : sizeL [t] ≤ 800000) (hOk : (pre ++ chL rs t fs) <+: all) :
    Calls Try.prog 102 #[.func (.yield lp) #[] #[], .pointer (some ⟨P, 0, none⟩), .pointer (some ⟨R, 0, none⟩)] w fun e w' => (∃ v, e = .returned v) ∧ ∃ b, Went J (chL rs t fs) pre f (fun _ => False) w b w' := by
  refine (chances1S_any hJ lp StopOk.triv RH.toS rs t fs P R T F uv aa ca fv pre f w X hP hR hu hT hs hF hfv hat hX hRf hj hz hOk).mono ?_
  rintro e w' ⟨h1, b, h2, _⟩
  exact ⟨h1, b, h2⟩
#print axioms chances1I_any
end Go.Proofs.Ytcjdbbdmighliac
