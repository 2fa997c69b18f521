/- Several texts in one. -/
import Derived.Test.YtlcbpfeeafibmaaGreatDoorZHTopSubstitutionOwn
import Derived.Test.YtlcbpfeeafibmaaGreatDoorL12
import Derived.Test.YtlcbpfeeafibmaaGreatDoorZJTopSubstitutionOwn
/- Plain: how great what the law TopSubstitution makes is, and that it may be. -/
namespace Go.Proofs.YtlcbpfeeafibmaaGreatDoor
open Go.RowKit
set_option linter.unusedSimpArgs false
set_option linter.unusedVariables false
set_option maxRecDepth 8000

def PX.sz : PX → Nat
  | .v _ => 1
  | .c _ => 1
  | .l b => 1 + b.sz
  | .a f x => 1 + (f.sz + x.sz)
def PX.lv : PX → Nat
  | .v _ => 1
  | .c _ => 1
  | .l b => b.lv
  | .a f x => f.lv + x.lv
theorem PX.lv_sz : ∀ p : PX, 2 * p.lv ≤ p.sz + 1
  | .v _ => by simp [PX.lv, PX.sz]
  | .c _ => by simp [PX.lv, PX.sz]
  | .l b => by have := PX.lv_sz b; simp only [PX.lv, PX.sz]; omega
  | .a f x => by have := PX.lv_sz f; have := PX.lv_sz x; simp only [PX.lv, PX.sz]; omega
theorem PX.ren_sz (p : PX) : ∀ r : Nat → Nat, (p.ren r).sz = p.sz := by
  induction p with
  | v i => intro r; rfl
  | c k => intro r; rfl
  | l b ih => intro r; simp only [PX.ren, PX.sz, ih]
  | a f x hf hx => intro r; simp only [PX.ren, PX.sz, hf, hx]
theorem PX.sub_sz (K : Nat) (hK : 1 ≤ K) (p : PX) : ∀ s : Nat → PX, (∀ i, (s i).sz ≤ K) → (p.sub s).sz ≤ p.sz + p.lv * (K - 1) := by
  induction p with
  | v i => intro s hs; have := hs i; simp only [PX.sub, PX.sz, PX.lv]; omega
  | c k => intro s hs; simp only [PX.sub, PX.sz, PX.lv]; omega
  | l b ih =>
    intro s hs
    have := ih (up s) (fun i => by
      cases i with
      | zero => exact hK
      | succ i => simp only [PX.up]; rw [PX.ren_sz]; exact hs i)
    simp only [PX.sub, PX.sz, PX.lv]; omega
  | a f x hf hx =>
    intro s hs
    have h1 := hf s hs
    have h2 := hx s hs
    simp only [PX.sub, PX.sz, PX.lv]
    rw [Nat.add_mul]
    omega
theorem PX.ins_sz {q : PX} {K : Nat} (hq : q.sz ≤ K) (hK : 1 ≤ K) (p : PX) : (p.sub (ins q)).sz ≤ p.sz + p.lv * (K - 1) :=
  PX.sub_sz K hK p _ fun i => by cases i with | zero => exact hq | succ i => exact hK
theorem PX.one_sz (p : PX) : ∀ s : Nat → PX, (∀ i, ∃ j, s i = .v j) → (p.sub s).sz = p.sz := by
  induction p with
  | v i => intro s hs; obtain ⟨j, hj⟩ := hs i; simp only [PX.sub]; rw [hj]; rfl
  | c k => intro s hs; rfl
  | l b ih =>
    intro s hs
    simp only [PX.sub, PX.sz]
    rw [ih (up s) (fun i => by
      cases i with
      | zero => exact ⟨0, rfl⟩
      | succ i => obtain ⟨j, hj⟩ := hs i; exact ⟨j + 1, by simp only [PX.up]; rw [hj]; rfl⟩)]
  | a f x hf hx => intro s hs; simp only [PX.sub, PX.sz]; rw [hf s hs, hx s hs]
theorem px_sz : ∀ p : PX, sizeM [p.m] = p.sz
  | .v i => by simp [PX.m, sizeM, PX.sz]
  | .c k => by simp [PX.m, sizeM, PX.sz]
  | .l b => by have := px_sz b; simp only [PX.m, PX.sz]; rw [← this]; simp [sizeM]
  | .a f x => by
    have h1 := px_sz f
    have h2 := px_sz x
    simp only [PX.m, PX.sz]
    rw [← h1, ← h2]
    have h3 : sizeM [f.m, x.m] = sizeM [f.m] + sizeM [x.m] := sizeM_append [f.m] [x.m]
    rw [← h3]
    simp [sizeM]
/-- May it be, under so many? -/
def PX.ok : PX → Nat → Prop
  | .v i, u => i < u
  | .c k, _ => 0 ≤ k ∧ k < 40
  | .l b, u => b.ok (u + 1)
  | .a f x, u => f.ok u ∧ x.ok u
theorem px_ok : ∀ (p : PX) (u : Nat), errM (u : Int) 0 [p.m] = 0 ↔ p.ok u
  | .v i, u => by
    simp only [PX.m, PX.ok]
    rw [err_one0, knE_zero]
    simp [subsK, mostK, errM]
  | .c k, u => by
    simp only [PX.m, PX.ok]
    rw [err_one0, knE_zero]
    simp [subsK, mostK, errM]
  | .l b, u => by
    have h := px_ok b (u + 1)
    simp only [PX.m, PX.ok]
    rw [← h, err_one0, knE_zero]
    simp [subsK, mostK, deepK]
  | .a f x, u => by
    have h1 := px_ok f u
    have h2 := px_ok x u
    simp only [PX.m, PX.ok]
    rw [← h1, ← h2, err_one0, knE_zero, err_two0]
    simp [subsK, mostK, deepK]
theorem PX.ren_ok (p : PX) : ∀ (r : Nat → Nat) (u u' : Nat), (∀ i, i < u → r i < u') → p.ok u → (p.ren r).ok u' := by
  induction p with
  | v i => intro r u u' h hp; exact h i hp
  | c k => intro r u u' h hp; exact hp
  | l b ih =>
    intro r u u' h hp
    exact ih _ (u + 1) (u' + 1) (fun i hi => by cases i with | zero => simp [PX.upr] | succ i => have := h i (by omega); simp only [PX.upr]; omega) hp
  | a f x hf hx => intro r u u' h hp; exact ⟨hf r u u' h hp.1, hx r u u' h hp.2⟩
theorem PX.sub_ok (p : PX) : ∀ (s : Nat → PX) (u u' : Nat), (∀ i, i < u → (s i).ok u') → p.ok u → (p.sub s).ok u' := by
  induction p with
  | v i => intro s u u' h hp; exact h i hp
  | c k => intro s u u' h hp; exact hp
  | l b ih =>
    intro s u u' h hp
    refine ih _ (u + 1) (u' + 1) (fun i hi => ?_) hp
    cases i with
    | zero => simp [PX.up, PX.ok]
    | succ i => exact PX.ren_ok (s i) (· + 1) u' (u' + 1) (fun i hi => by omega) (h i (by omega))
  | a f x hf hx => intro s u u' h hp; exact ⟨hf s u u' h hp.1, hx s u u' h hp.2⟩
theorem PX.ins_ok {q : PX} {u : Nat} (hq : q.ok u) {p : PX} (hp : p.ok (u + 1)) : (p.sub (ins q)).ok u :=
  PX.sub_ok p _ (u + 1) u (fun i hi => by cases i with | zero => exact hq | succ i => show i < u; omega) hp

/-- All that the law asks. -/
structure TsF (m x y : Lm) : Prop where
  pa : putE m x 2 = 0
  pb : putE (insT x 0 m) y 1 = 0
  pc : putE (swpT m) (higT 1 0 y) 2 = 0
  pz : putE x y 1 = 0
  pd : putE (insT (higT 1 0 y) 0 (swpT m)) (insT y 0 x) 1 = 0
  eq : insT (insT y 0 x) 0 (insT (higT 1 0 y) 0 (swpT m)) = insT y 0 (insT x 0 m)
theorem put_ok {t z : Lm} {u : Nat} (hu : u < 40) (ht : errM ((u + 1 : Nat) : Int) 0 [t] = 0) (hts : sizeM [t] ≤ 200) (hz : errM (u : Int) 0 [z] = 0) (hzs : sizeM [z] ≤ 200) (hs : sizeM [insT z 0 t] ≤ 2000) : putE t z u = 0 := by
  unfold putE lamE
  have e : ((u : Int) + 1) = ((u + 1 : Nat) : Int) := by omega
  rw [e, if_neg (by omega), if_neg, if_neg, if_neg (by omega)]
  · rw [if_neg (by omega), if_neg (by omega), hz]; simp
  · rw [if_neg (by omega), if_neg (by omega), ht]; simp
theorem ts_all {m x y : Lm} (hm : errM 3 0 [m] = 0) (hx : errM 2 0 [x] = 0) (hy : errM 1 0 [y] = 0) (zm : sizeM [m] ≤ 29) (zx : sizeM [x] ≤ 9) (zy : sizeM [y] ≤ 9) : TsF m x y := by
  have hL := ts_lemma hm hx hy
  obtain ⟨p, rfl⟩ := px_of m _ hm
  obtain ⟨q, rfl⟩ := px_of x _ hx
  obtain ⟨r, rfl⟩ := px_of y _ hy
  have op : p.ok 3 := (px_ok p 3).1 hm
  have oq : q.ok 2 := (px_ok q 2).1 hx
  have or : r.ok 1 := (px_ok r 1).1 hy
  rw [px_sz] at zm zx zy
  have h1 := px_hig 1 r 0
  rw [show ((1 : Nat) : Int) = 1 from rfl, show ((0 : Nat) : Int) = 0 from rfl] at h1
  have e : r.ren (PX.mv 1 0) = r.ren (· + 1) := by
    congr 1
  rw [e] at h1
  have lp := PX.lv_sz p
  -- the first
  have sa := PX.ins_sz zx (by omega) p
  have oa : (p.sub (PX.ins q)).ok 2 := PX.ins_ok oq op
  have la := PX.lv_sz (p.sub (PX.ins q))
  have a1 : p.lv * (9 - 1) ≤ 15 * 8 := Nat.mul_le_mul (by omega) (by omega)
  have sb := PX.ins_sz zy (by omega) (p.sub (PX.ins q))
  have b1 : (p.sub (PX.ins q)).lv * (9 - 1) ≤ 75 * 8 := Nat.mul_le_mul (by omega) (by omega)
  -- the other way round
  have osw : (p.sub (PX.swAt 0)).ok 3 := PX.sub_ok p _ 3 3 (fun i hi => by
    have : i = 0 ∨ i = 1 ∨ i = 2 := by omega
    rcases this with rfl | rfl | rfl <;> simp [PX.swAt, PX.ok]) op
  have zsw : (p.sub (PX.swAt 0)).sz = p.sz := PX.one_sz p _ fun i => by
    unfold PX.swAt
    split
    · exact ⟨_, rfl⟩
    · split
      · exact ⟨_, rfl⟩
      · exact ⟨_, rfl⟩
  have oh : (r.ren (· + 1)).ok 2 := PX.ren_ok r _ 1 2 (fun i hi => by omega) or
  have zh : (r.ren (· + 1)).sz ≤ 9 := by rw [PX.ren_sz]; exact zy
  have lsw := PX.lv_sz (p.sub (PX.swAt 0))
  have sc := PX.ins_sz zh (by omega) (p.sub (PX.swAt 0))
  have c1 : (p.sub (PX.swAt 0)).lv * (9 - 1) ≤ 15 * 8 := Nat.mul_le_mul (by omega) (by omega)
  have oc : ((p.sub (PX.swAt 0)).sub (PX.ins (r.ren (· + 1)))).ok 2 := PX.ins_ok oh osw
  have lq := PX.lv_sz q
  have sz := PX.ins_sz zy (by omega) q
  have z1 : q.lv * (9 - 1) ≤ 5 * 8 := Nat.mul_le_mul (by omega) (by omega)
  have oz : (q.sub (PX.ins r)).ok 1 := PX.ins_ok or oq
  have hd : sizeM [insT (insT r.m 0 q.m) 0 (insT (higT 1 0 r.m) 0 (swpT p.m))] ≤ 2000 := by
    rw [← hL, px_ins, px_ins, px_sz]; omega
  refine ⟨?_, ?_, ?_, ?_, ?_, hL.symm⟩
  · exact put_ok (u := 2) (by omega) hm (by rw [px_sz]; omega) hx (by rw [px_sz]; omega) (by rw [px_ins, px_sz]; omega)
  · rw [px_ins]
    exact put_ok (u := 1) (by omega) ((px_ok _ 2).2 oa) (by rw [px_sz]; omega) hy (by rw [px_sz]; omega) (by rw [px_ins, px_sz]; omega)
  · rw [h1, px_swp]
    exact put_ok (u := 2) (by omega) ((px_ok _ 3).2 osw) (by rw [px_sz]; omega) ((px_ok _ 2).2 oh) (by rw [px_sz]; omega) (by rw [px_ins, px_sz]; omega)
  · exact put_ok (u := 1) (by omega) hx (by rw [px_sz]; omega) hy (by rw [px_sz]; omega) (by rw [px_ins, px_sz]; omega)
  · refine put_ok (u := 1) (by omega) ?_ ?_ ?_ ?_ hd
    · rw [h1, px_swp, px_ins]; exact (px_ok _ 2).2 oc
    · rw [h1, px_swp, px_ins, px_sz]; omega
    · rw [px_ins]; exact (px_ok _ 1).2 oz
    · rw [px_ins, px_sz]; omega
#print axioms ts_all
end Go.Proofs.YtlcbpfeeafibmaaGreatDoor

/- Walks: the two nearest that are bound from outside, the other way round. -/
namespace Go.Proofs.YtlcbpfeeafibmaaGreatDoor
open Go.RowKit
set_option linter.unusedSimpArgs false
set_option linter.unusedVariables false
set_option maxRecDepth 8000

theorem bnd_mv2 {t : Lm} (he : errM 3 0 [t] = 0) (hz : sizeM [t] ≤ 1000) : BndM [higT 2 2 t] ∧ sizeM [higT 2 2 t] = sizeM [t] := by
  have h := err_higT (m := 0) (u := 1) (c := 2) (y := 2) (t := t) (by omega) (by omega) (by omega) (by simpa using he)
  have hs : sizeM [higT 2 2 t] = sizeM [t] := higT_size (lf_of_err _ _ _ he)
  exact ⟨bnd_of_err _ _ 0 (by omega) (by rw [hs]; omega) (by omega) h, hs⟩

set_option maxHeartbeats 4000000 in
theorem swapped_any (t : Lm) (he : errM 3 0 [t] = 0) (hz : sizeM [t] ≤ 1000) (v : Value) (w : World) (X : Nat → Prop) (hv : MV w X v t) :
    Calls Tryz.prog 9 #[v] w fun e w' => ∃ a c, e = .returned (.agg #[.int .i64 (swpT t).kind, .int .i64 (swpT t).idx, .slice a (swpT t).subs.length c]) ∧ SlM w' (fun _ => True) a (swpT t).subs ∧ Below w.heap.size w w' := by
  obtain ⟨a, c, rfl, hs⟩ := hv
  have HS := hide hs
  clear hs
  have HBM := hide (bnd_mv2 he hz)
  have HBT := hide (bnd_of_err [t] 3 0 (by omega) (by omega) (by omega) he)
  have B2 : Hid (Below w.heap.size w ((w.alloc (.cells #[.int .i64 t.kind, .int .i64 t.idx, .slice a t.subs.length c] 25)).alloc (.cells #[.int .i64 0, .int .i64 0, .slice none 0 0] 25))) := ((Below.refl _ _).alloc (Nat.le_refl _) _).alloc (by simp) _
  have R2 : Hid (Blk ((w.alloc (.cells #[.int .i64 t.kind, .int .i64 t.idx, .slice a t.subs.length c] 25)).alloc (.cells #[.int .i64 0, .int .i64 0, .slice none 0 0] 25)) (w.heap.size + 1) #[.int .i64 0, .int .i64 0, .slice none 0 0] 25) := by
    have h := Blk.new (w.alloc (.cells #[.int .i64 t.kind, .int .i64 t.idx, .slice a t.subs.length c] 25)) #[.int .i64 0, .int .i64 0, .slice none 0 0] 25
    rw [World.size_alloc] at h
    exact h
  have HS2 := hide (((HS.out.mono (Y := fun b => b < w.heap.size) fun b _ h2 => h2).below B2.out (fun b h _ => h)).mono (Y := fun b => b < w.heap.size) fun b h _ => h)
  go_enter Tryz.func9, Tryz.ntmps9
  go_wp2_with fail
  have hz2 : ((w.alloc (.cells #[.int .i64 t.kind, .int .i64 t.idx, .slice a t.subs.length c] 25)).alloc (.cells #[.int .i64 0, .int .i64 0, .slice none 0 0] 25)).heap.size = w.heap.size + 2 := by simp
  generalize ((w.alloc (.cells #[.int .i64 t.kind, .int .i64 t.idx, .slice a t.subs.length c] 25)).alloc (.cells #[.int .i64 0, .int .i64 0, .slice none 0 0] 25)) = w2 at *
  refine (higher_any 2 (by omega) (by omega) t _ 2 _ (fun b => b < w.heap.size) ⟨a, c, rfl, by exact HS2.out⟩ (by omega) (by omega) HBT.out).mono ?_
  rintro e w3 ⟨ah, ch, rfl, hs, hb⟩
  have hz3 := hb.size
  have B3 := hide (B2.out.trans (hb.mono (by omega)))
  have R3 := hide (R2.out.below hb R2.out.lt)
  have S3 := hide (hs.mono (Y := fun b => b ≠ w.heap.size + 1) fun b h _ => by rcases h with h | h; exact Nat.ne_of_lt (by have := h.1; omega); omega)
  clear hs hb B2 R2 HS2
  go_wp2_with fail
  refine (varQ_any 1 _).mono ?_
  rintro e w4 ⟨rfl, hb⟩
  have hz4 := hb.size
  have B4 := hide (B3.out.trans (hb.mono B3.out.size))
  have R4 := hide (R3.out.below hb R3.out.lt)
  have S4 := hide (S3.out.later hb)
  clear hb B3 R3 S3
  go_wp2_with fail
  refine (varQ_any 0 _).mono ?_
  rintro e w5 ⟨rfl, hb⟩
  have hz5 := hb.size
  have B5 := hide (B4.out.trans (hb.mono B4.out.size))
  have R5 := hide (R4.out.below hb R4.out.lt)
  have S5 := hide (S4.out.later hb)
  clear hb B4 R4 S4
  have B6 : Hid (Below w.heap.size w (w5.alloc (.cells #[.int .i64 1, .int .i64 1, .slice none 0 0, .int .i64 1, .int .i64 0, .slice none 0 0] 25))) := B5.out.alloc B5.out.size _
  have R6 := hide (R5.out.alloc (.cells #[.int .i64 1, .int .i64 1, .slice none 0 0, .int .i64 1, .int .i64 0, .slice none 0 0] 25))
  have S6 := hide (S5.out.later ((Below.refl _ _).alloc (Nat.le_refl _) (.cells #[.int .i64 1, .int .i64 1, .slice none 0 0, .int .i64 1, .int .i64 0, .slice none 0 0] 25)))
  have K6 := hide (Blk.new w5 #[.int .i64 1, .int .i64 1, .slice none 0 0, .int .i64 1, .int .i64 0, .slice none 0 0] 25)
  have L6 : Hid (SlM (w5.alloc (.cells #[.int .i64 1, .int .i64 1, .slice none 0 0, .int .i64 1, .int .i64 0, .slice none 0 0] 25)) (fun b => b ≠ w.heap.size + 1) (some ⟨w5.heap.size, 0, none⟩) [⟨1, 1, []⟩, ⟨1, 0, []⟩]) := by
    have hne : w5.heap.size ≠ w.heap.size + 1 := by omega
    refine ⟨by simp, Or.inr ⟨_, _, rfl, ?_⟩⟩
    simp only [LiesM]
    exact ⟨hne, K6.out.cell 0, K6.out.cell 1, ⟨none, 0, K6.out.cell 2, ⟨by simp, Or.inl trivial⟩⟩, hne, K6.out.cell 3, K6.out.cell 4, ⟨none, 0, K6.out.cell 5, ⟨by simp, Or.inl trivial⟩⟩, trivial⟩
  have hz6 : (w5.alloc (.cells #[.int .i64 1, .int .i64 1, .slice none 0 0, .int .i64 1, .int .i64 0, .slice none 0 0] 25)).heap.size = w5.heap.size + 1 := by simp
  have hr0 := R5.out.lt
  clear K6 S5 R5
  go_wp2_with fail
  generalize (w5.alloc (.cells #[.int .i64 1, .int .i64 1, .slice none 0 0, .int .i64 1, .int .i64 0, .slice none 0 0] 25)) = w6 at *
  have hb2 : ∀ z ∈ ([⟨1, 1, []⟩, ⟨1, 0, []⟩] : List Lm), sizeM [z] ≤ 100000 ∧ BndM [z] := by
    intro z hz'
    simp only [List.mem_cons, List.not_mem_nil, or_false] at hz'
    rcases hz' with rfl | rfl <;> simp [sizeM, BndM]
  refine (insteadL_any [⟨1, 1, []⟩, ⟨1, 0, []⟩] _ _ (by simp) hb2 (higT 2 2 t) _ 0 _ (fun b => b ≠ w.heap.size + 1) ⟨ah, ch, rfl, by exact S6.out⟩ (by exact L6.out) (by omega) (by rw [HBM.out.2]; omega) HBM.out.1).mono ?_
  rintro e w7 ⟨as', cs', rfl, hs, hb⟩
  have HSW : Hid (insLT [⟨1, 1, []⟩, ⟨1, 0, []⟩] 0 (higT 2 2 t) = swpT t) := rfl
  rw [HSW.out] at hs ⊢
  have B7 := hide (B6.out.trans (hb.mono B6.out.size))
  have R7 := hide (R6.out.below hb R6.out.lt)
  have S7 := hide (hs.mono (Y := fun b => b ≠ w.heap.size + 1) fun b h _ => by rcases h with h | h; exact h.1; omega)
  clear hs hb hb2 B6 R6 S6 L6 B5
  have r0 : w7.cell? ⟨w.heap.size + 1, 0, none⟩ = some (.int .i64 0) := R7.out.cell 0
  have r1 : w7.cell? ⟨w.heap.size + 1, 1, none⟩ = some (.int .i64 0) := R7.out.cell 1
  have r2 : w7.cell? ⟨w.heap.size + 1, 2, none⟩ = some (.slice none 0 0) := R7.out.cell 2
  have rf := R7.out.frozen
  have hRl : w.heap.size + 1 < w7.heap.size := R7.out.lt
  go_wp2_with fail
  refine bodyPost_ret (v := .agg #[.int .i64 (swpT t).kind, .int .i64 (swpT t).idx, .slice as' (swpT t).subs.length cs']) (by simp [results, Tryz.results9, go_sem, World.cell?_setCell_same, World.cell?_setCell_other, r0, r1, r2, hRl]) rfl ?_
  refine ⟨as', cs', rfl, (S7.out.kept fun b hb => ?_).mono fun _ _ _ => trivial, ((B7.out.setCell (by simp) _).setCell (by simp) _).setCell (by simp) _⟩
  rw [Below.heap_setCell _ _ _ _ (by simpa using hb), Below.heap_setCell _ _ _ _ (by simpa using hb), Below.heap_setCell _ _ _ _ (by simpa using hb)]
#print axioms swapped_any
end Go.Proofs.YtlcbpfeeafibmaaGreatDoor
