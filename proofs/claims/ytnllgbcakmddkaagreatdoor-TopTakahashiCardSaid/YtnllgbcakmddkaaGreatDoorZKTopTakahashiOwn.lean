/- Several texts in one. -/
import Derived.Test.YtnllgbcakmddkaaGreatDoorZJTopTakahashiOwn
/- Plain: the development of a small term is small; what parallel steps give, as a list. -/
namespace Go.Proofs.YtnllgbcakmddkaaGreatDoor
open Go.RowKit
set_option linter.unusedSimpArgs false
set_option linter.unusedVariables false
set_option maxRecDepth 8000

/-- One more than how many knots a term of so many knots has at most behind parallel steps. -/
def gD (n : Nat) : Nat := [0, 2, 3, 4, 5, 6, 7, 8, 9, 10, 12, 15, 18, 21, 24, 28, 32, 37, 45, 54, 63, 73, 84, 98, 112, 135, 162, 189, 220, 255, 294, 343, 405, 486, 567, 661, 770].getD n 0
theorem gD_lam : ∀ n, n < 36 → 1 ≤ n → gD n + 1 ≤ gD (n + 1) := by decide +kernel
theorem gD_app : ∀ i, i < 36 → ∀ j, j < 36 → 1 ≤ i → 1 ≤ j → i + j + 1 ≤ 36 → gD i + gD j ≤ gD (i + j + 1) := by decide +kernel
theorem gD_red : ∀ i, i < 36 → ∀ j, j < 36 → 1 ≤ i → 1 ≤ j → i + j + 2 ≤ 36 → gD i * gD j ≤ 2 * gD (i + j + 2) + 1 := by decide +kernel
theorem gD_top : ∀ i, i < 37 → gD i ≤ 770 := by decide +kernel
theorem gD_17 : ∀ i, i < 18 → gD i ≤ 37 := by decide +kernel
theorem PX.sz_pos : ∀ p : PX, 1 ≤ p.sz
  | .v _ => by simp [PX.sz]
  | .c _ => by simp [PX.sz]
  | .l b => by simp only [PX.sz]; omega
  | .a f x => by simp only [PX.sz]; omega
theorem red_sz {b x : PX} {B X : Nat} (hb : b.sz + 1 ≤ B) (hx : x.sz + 1 ≤ X) : 2 * ((b.sub (PX.ins x)).sz + 1) ≤ B * X := by
  have h1 := PX.ins_sz (q := x) (K := x.sz) (Nat.le_refl _) (PX.sz_pos x) b
  have h2 := PX.lv_sz b
  have h3 := PX.sz_pos x
  obtain ⟨y, hy⟩ : ∃ y, x.sz = y + 1 := ⟨x.sz - 1, by omega⟩
  rw [hy] at h1 hx
  rw [Nat.add_sub_cancel] at h1
  have h4 : 2 * (b.lv * y) ≤ (b.sz + 1) * y := by
    rw [← Nat.mul_assoc]
    exact Nat.mul_le_mul_right y h2
  have h5 : (b.sz + 1) * (y + 2) ≤ B * X := Nat.mul_le_mul hb hx
  rw [Nat.mul_add] at h5
  omega
theorem par_sz {p q : PX} (h : PX.Par p q) : p.sz ≤ 36 → q.sz + 1 ≤ gD p.sz := by
  induction h with
  | v i => intro _; show 1 + 1 ≤ gD 1; decide
  | c k => intro _; show 1 + 1 ≤ gD 1; decide
  | @l b b' hb ih =>
    intro h
    simp only [PX.sz] at h ⊢
    have h1 := ih (by omega)
    have h2 := gD_lam b.sz (by omega) (PX.sz_pos b)
    rw [Nat.add_comm 1 b.sz]
    omega
  | @a f f' x x' _ _ h1 h2 =>
    intro h
    simp only [PX.sz] at h ⊢
    have h1 := h1 (by omega)
    have h2 := h2 (by omega)
    have h4 := gD_app f.sz (by omega) x.sz (by omega) (PX.sz_pos f) (PX.sz_pos x) (by omega)
    rw [show 1 + (f.sz + x.sz) = f.sz + x.sz + 1 by omega]
    omega
  | @b b b' x x' _ _ h1 h2 =>
    intro h
    simp only [PX.sz] at h ⊢
    have h1 := h1 (by omega)
    have h2 := h2 (by omega)
    have h3 := red_sz h1 h2
    have h4 := gD_red b.sz (by omega) x.sz (by omega) (PX.sz_pos b) (PX.sz_pos x) (by omega)
    rw [show 1 + (1 + b.sz + x.sz) = b.sz + x.sz + 2 by omega]
    omega
theorem dev_sz (p : PX) (h : p.sz ≤ 36) : p.dev.sz + 1 ≤ gD p.sz := par_sz (PX.taka (.refl p)) h
theorem px_devK (f x : PX) : devK 3 0 [f.m, x.m] [f.dev.m, x.dev.m] = (PX.a f x).dev.m := by
  unfold devK
  by_cases hr : rdxT (⟨3, 0, [f.m, x.m]⟩ : Lm) = true
  · obtain ⟨b, rfl⟩ := px_rdx (f := f) (x := x) hr
    rw [if_pos hr]
    simp only [PX.dev]
    exact px_con b.dev x.dev
  · rw [if_neg hr]
    cases f with
    | v i => rfl
    | c k => rfl
    | a g y => rfl
    | l b => exact absurd (by simp [rdxT, PX.m]) hr
/-- A small term has a development. -/
theorem dev_some : ∀ (n : Nat) (p : PX), p.sz ≤ n → p.sz ≤ 36 → devT n p.m = some p.dev.m
  | 0, p, h, _ => by have := PX.sz_pos p; omega
  | n + 1, p, h, h27 => by
    have hs : sizeM [p.dev.m] ≤ 2000 := by
      rw [px_sz]
      have := dev_sz p h27
      have := gD_top p.sz (by omega)
      omega
    cases p with
    | v i => simp [PX.m, devT, devL, devK, rdxT, PX.dev, sizeM]
    | c k => simp [PX.m, devT, devL, devK, rdxT, PX.dev, sizeM]
    | l b =>
      simp only [PX.sz] at h h27
      have h1 := dev_some n b (by omega) (by omega)
      simp only [PX.m, PX.dev] at hs ⊢
      rw [devT, devL_cons, h1]
      have e : devK 2 0 [b.m] [b.dev.m] = ⟨2, 0, [b.dev.m]⟩ := by simp [devK, rdxT]
      simp only [devL, e]
      rw [if_neg (by omega)]
    | a f x =>
      simp only [PX.sz] at h h27
      have h1 := dev_some n f (by omega) (by omega)
      have h2 := dev_some n x (by omega) (by omega)
      show devT (n + 1) ⟨3, 0, [f.m, x.m]⟩ = _
      rw [devT, devL_cons, h1]
      simp only [devL_cons, h2, devL, px_devK]
      rw [if_neg (by omega)]
theorem tk_dev {n : Nat} {t : Lm} (he : errM n 0 [t] = 0) (hz : sizeM [t] ≤ 36) : ∃ p : PX, p.m = t ∧ devT 2001 t = some p.dev.m := by
  obtain ⟨p, rfl⟩ := px_of t _ he
  rw [px_sz] at hz
  exact ⟨p, rfl, dev_some 2001 p (by omega) hz⟩
end Go.Proofs.YtnllgbcakmddkaaGreatDoor

/- Plain: what the document tells of parallel steps has all of them, or is too long. -/
namespace Go.Proofs.YtnllgbcakmddkaaGreatDoor
open Go.RowKit
set_option linter.unusedSimpArgs false
set_option linter.unusedVariables false
set_option maxRecDepth 8000

/-- Each of these with each of those behind it, but not many more than most. -/
def prdT (most : Nat) (all : List (List Lm)) (l : List Lm) : List (List Lm) := (all.flatMap fun a => l.map fun x => a ++ [x]).take (most + 1)
/-- What each gives, till there are more than most. -/
def outL (most : Nat) (f : List Lm → List Lm) : List (List Lm) → List Lm → List Lm
  | [], out => out
  | a :: r, out => if out.length ≤ most then outL most f r (out ++ f a) else out
/-- What a knot gives, by what its Subs have become. -/
def knoT (t : Lm) (a : List Lm) : List Lm := ⟨t.kind, t.idx, a⟩ :: (if rdxT t = true then [conT a] else [])
def parR (most : Nat) : Nat → Lm → List Lm
  | 0, _ => []
  | n + 1, t => outL most (knoT t) (t.subs.foldl (fun all s => prdT most all (parR most n s)) [[]]) []

theorem flat_len (all : List (List Lm)) (l : List Lm) : (all.flatMap fun a => l.map fun x => a ++ [x]).length = all.length * l.length := by
  induction all with
  | nil => simp
  | cons a r ih => simp only [List.flatMap_cons, List.length_append, List.length_map, ih, List.length_cons]; rw [Nat.add_mul]; omega
theorem prdT_ne {most : Nat} {all : List (List Lm)} {l : List Lm} (ha : all ≠ []) (hl : l ≠ []) : prdT most all l ≠ [] := by
  intro h
  have h1 := congrArg List.length h
  unfold prdT at h1
  rw [List.length_take, flat_len] at h1
  have h2 : 0 < all.length := List.length_pos_iff.2 ha
  have h3 : 0 < l.length := List.length_pos_iff.2 hl
  have h4 : 0 < all.length * l.length := Nat.mul_pos h2 h3
  simp at h1
  omega
/-- There, or too long. -/
theorem prdT_in {most : Nat} {all : List (List Lm)} {l : List Lm} {a : List Lm} {x : Lm} (hn : all ≠ []) (hl : l ≠ []) (ha : a ∈ all ∨ most < all.length) (hx : x ∈ l ∨ most < l.length) : a ++ [x] ∈ prdT most all l ∨ most < (prdT most all l).length := by
  have h2 : 0 < all.length := List.length_pos_iff.2 hn
  have h3 : 0 < l.length := List.length_pos_iff.2 hl
  by_cases hlong : most < all.length * l.length
  · right
    unfold prdT
    rw [List.length_take, flat_len]
    omega
  · left
    have h4 : all.length ≤ all.length * l.length := Nat.le_mul_of_pos_right _ h3
    have h5 : l.length ≤ all.length * l.length := Nat.le_mul_of_pos_left _ h2
    have ha' : a ∈ all := by rcases ha with h | h; exact h; omega
    have hx' : x ∈ l := by rcases hx with h | h; exact h; omega
    unfold prdT
    rw [List.take_of_length_le (by rw [flat_len]; omega)]
    rw [List.mem_flatMap]
    exact ⟨a, ha', List.mem_map.2 ⟨x, hx', rfl⟩⟩
theorem outL_pre {most : Nat} {f : List Lm → List Lm} : ∀ (all : List (List Lm)) (out : List Lm), ∃ r, outL most f all out = out ++ r
  | [], out => ⟨[], by simp [outL]⟩
  | a :: r, out => by
    unfold outL
    split
    · obtain ⟨q, hq⟩ := outL_pre (most := most) (f := f) r (out ++ f a)
      exact ⟨f a ++ q, by rw [hq, List.append_assoc]⟩
    · exact ⟨[], by simp⟩
theorem outL_long {most : Nat} {f : List Lm → List Lm} (hf : ∀ a, f a ≠ []) : ∀ (all : List (List Lm)) (out : List Lm), most < (outL most f all out).length ∨ out.length + all.length ≤ (outL most f all out).length
  | [], out => by right; simp [outL]
  | a :: r, out => by
    unfold outL
    split
    · rcases outL_long hf r (out ++ f a) with h | h
      · exact Or.inl h
      · right
        have := List.length_pos_iff.2 (hf a)
        simp only [List.length_append, List.length_cons] at h ⊢
        omega
    · left; omega
theorem outL_in {most : Nat} {f : List Lm → List Lm} {a : List Lm} {y : Lm} (hy : y ∈ f a) : ∀ (all : List (List Lm)) (out : List Lm), a ∈ all → y ∈ outL most f all out ∨ most < (outL most f all out).length
  | [], out, h => by simp at h
  | b :: r, out, h => by
    unfold outL
    split
    · rcases List.mem_cons.1 h with h | h
      · subst h
        obtain ⟨q, hq⟩ := outL_pre (most := most) (f := f) r (out ++ f a)
        left
        rw [hq]
        simp [hy]
      · exact outL_in hy r _ h
    · right; omega
theorem knoT_ne (t : Lm) (a : List Lm) : knoT t a ≠ [] := by simp [knoT]
theorem outL_all {most : Nat} {t : Lm} {all : List (List Lm)} {a : List Lm} {y : Lm} (hy : y ∈ knoT t a) (ha : a ∈ all ∨ most < all.length) : y ∈ outL most (knoT t) all [] ∨ most < (outL most (knoT t) all []).length := by
  rcases ha with h | h
  · exact outL_in hy all [] h
  · right
    rcases outL_long (knoT_ne t) all [] with h1 | h1
    · exact h1
    · simp at h1; omega
theorem outL_ne {most : Nat} {t : Lm} {all : List (List Lm)} (h : all ≠ []) : outL most (knoT t) all [] ≠ [] := by
  obtain ⟨a, r, rfl⟩ := List.exists_cons_of_ne_nil h
  intro e
  have := outL_in (most := most) (f := knoT t) (a := a) (y := ⟨t.kind, t.idx, a⟩) (by simp [knoT]) (a :: r) [] (by simp)
  rw [e] at this
  simp at this
theorem parR_ne (most : Nat) : ∀ (n : Nat) (p : PX), p.sz ≤ n → parR most n p.m ≠ []
  | 0, p, h => by have := PX.sz_pos p; omega
  | n + 1, p, h => by
    unfold parR
    refine outL_ne ?_
    cases p with
    | v i => simp [PX.m]
    | c k => simp [PX.m]
    | l b =>
      simp only [PX.sz] at h
      exact prdT_ne (by simp) (parR_ne most n b (by omega))
    | a f x =>
      simp only [PX.sz] at h
      exact prdT_ne (prdT_ne (by simp) (parR_ne most n f (by omega))) (parR_ne most n x (by omega))
/-- All of what parallel steps give is there, or it is too long. -/
theorem parR_all (most : Nat) : ∀ (n : Nat) (p q : PX), p.sz ≤ n → PX.Par p q → q.m ∈ parR most n p.m ∨ most < (parR most n p.m).length
  | 0, p, q, h, _ => by have := PX.sz_pos p; omega
  | n + 1, p, q, h, hp => by
    cases hp with
    | v i =>
      unfold parR
      exact outL_all (a := []) (by simp [knoT, PX.m]) (Or.inl (by simp [PX.m]))
    | c k =>
      unfold parR
      exact outL_all (a := []) (by simp [knoT, PX.m]) (Or.inl (by simp [PX.m]))
    | @l b b' hb =>
      simp only [PX.sz] at h
      have h1 := parR_all most n b b' (by omega) hb
      have h2 := prdT_in (most := most) (all := [[]]) (a := []) (by simp) (parR_ne most n b (by omega)) (Or.inl (by simp)) h1
      unfold parR
      exact outL_all (a := [b'.m]) (by simp [knoT, PX.m]) h2
    | @a f f' x x' hf hx =>
      simp only [PX.sz] at h
      have h1 := parR_all most n f f' (by omega) hf
      have h2 := parR_all most n x x' (by omega) hx
      have n1 := parR_ne most n f (by omega)
      have n2 := parR_ne most n x (by omega)
      have h3 := prdT_in (most := most) (all := [[]]) (a := []) (by simp) n1 (Or.inl (by simp)) h1
      have h4 := prdT_in (most := most) (prdT_ne (by simp) n1) n2 h3 h2
      unfold parR
      exact outL_all (a := [f'.m, x'.m]) (by simp [knoT, PX.m]) h4
    | @b b b' x x' hb hx =>
      simp only [PX.sz] at h
      have h1 := parR_all most n (.l b) (.l b') (by simp only [PX.sz]; omega) (.l hb)
      have h2 := parR_all most n x x' (by omega) hx
      have n1 := parR_ne most n (.l b) (by simp only [PX.sz]; omega)
      have n2 := parR_ne most n x (by omega)
      have h3 := prdT_in (most := most) (all := [[]]) (a := []) (by simp) n1 (Or.inl (by simp)) h1
      have h4 := prdT_in (most := most) (prdT_ne (by simp) n1) n2 h3 h2
      have hr : rdxT (PX.a (.l b) x).m = true := by simp [PX.m, rdxT]
      unfold parR
      refine outL_all (a := [(PX.l b').m, x'.m]) ?_ h4
      unfold knoT
      rw [if_pos hr, px_con]
      simp
/-- TAKAHASHI: from every step there are parallel steps to the development. -/
theorem tk_all (most : Nat) {n : Nat} {t d : Lm} {e : Hnd} (he : errM n 0 [t] = 0) (hd : devT 2001 t = some d) (hh : e ∈ hndT 2001 t) (k : Nat) (hk : sizeM [e.2.2] ≤ k) : d ∈ parR most k e.2.2 ∨ most < (parR most k e.2.2).length := by
  obtain ⟨p, rfl⟩ := px_of t _ he
  obtain ⟨q, h1, h2⟩ := px_hnd 2001 p e hh
  rw [px_dev 2001 p d hd, h1]
  rw [h1, px_sz] at hk
  exact parR_all most k q p.dev hk (PX.taka h2)
end Go.Proofs.YtnllgbcakmddkaaGreatDoor

/- Plain: all that the document tells of parallel steps comes by parallel steps; how its loops go. -/
namespace Go.Proofs.YtnllgbcakmddkaaGreatDoor
open Go.RowKit
set_option linter.unusedSimpArgs false
set_option linter.unusedVariables false
set_option maxRecDepth 8000

/-- Parallel steps keep what may be. -/
theorem par_ok {p q : PX} (h : PX.Par p q) : ∀ u, p.ok u → q.ok u := by
  induction h with
  | v i => intro u hp; exact hp
  | c k => intro u hp; exact hp
  | l _ ih => intro u hp; exact ih (u + 1) hp
  | a _ _ h1 h2 => intro u hp; exact ⟨h1 u hp.1, h2 u hp.2⟩
  | b _ _ h1 h2 => intro u hp; exact PX.ins_ok (h2 u hp.2) (h1 (u + 1) hp.1)
/-- Each of a list comes by parallel steps of each of another one. -/
def ParL (ps : List PX) (a : List Lm) : Prop := ∃ qs : List PX, a = qs.map PX.m ∧ qs.length = ps.length ∧ ∀ i (h : i < ps.length) (h' : i < qs.length), PX.Par ps[i] qs[i]
theorem parL_nil : ParL [] [] := ⟨[], rfl, rfl, fun i h => by simp at h⟩
theorem parL_snoc {ps : List PX} {a : List Lm} {p q : PX} (h : ParL ps a) (hq : PX.Par p q) : ParL (ps ++ [p]) (a ++ [q.m]) := by
  obtain ⟨qs, rfl, hl, hp⟩ := h
  refine ⟨qs ++ [q], by simp, by simp [hl], fun i h h' => ?_⟩
  by_cases hi : i < ps.length
  · rw [List.getElem_append_left hi, List.getElem_append_left (by omega)]
    exact hp i hi (by omega)
  · have e : i = ps.length := by simp at h; omega
    subst e
    rw [List.getElem_append_right (Nat.le_refl _), List.getElem_append_right (by omega)]
    simp [hl]
    exact hq
theorem prdT_par {most : Nat} {ps : List PX} {p : PX} {all : List (List Lm)} {l : List Lm} (ha : ∀ a ∈ all, ParL ps a) (hl : ∀ y ∈ l, ∃ q : PX, y = q.m ∧ PX.Par p q) : ∀ a ∈ prdT most all l, ParL (ps ++ [p]) a := by
  intro a h
  have h1 := List.mem_of_mem_take h
  rw [List.mem_flatMap] at h1
  obtain ⟨b, hb, h1⟩ := h1
  rw [List.mem_map] at h1
  obtain ⟨y, hy, rfl⟩ := h1
  obtain ⟨q, rfl, hq⟩ := hl y hy
  exact parL_snoc (ha b hb) hq
theorem outL_mem {most : Nat} {f : List Lm → List Lm} : ∀ (all : List (List Lm)) (out : List Lm) (y : Lm), y ∈ outL most f all out → y ∈ out ∨ ∃ a ∈ all, y ∈ f a
  | [], out, y, h => Or.inl (by simpa [outL] using h)
  | b :: r, out, y, h => by
    unfold outL at h
    split at h
    · rcases outL_mem r _ y h with h | ⟨a, ha, h⟩
      · rcases List.mem_append.1 h with h | h
        · exact Or.inl h
        · exact Or.inr ⟨b, by simp, h⟩
      · exact Or.inr ⟨a, by simp [ha], h⟩
    · exact Or.inl h
/-- All of it comes by parallel steps. -/
theorem parR_sub (most : Nat) : ∀ (n : Nat) (p : PX) (y : Lm), y ∈ parR most n p.m → ∃ q : PX, y = q.m ∧ PX.Par p q
  | 0, p, y, h => by simp [parR] at h
  | n + 1, p, y, h => by
    unfold parR at h
    rcases outL_mem _ _ y h with h | ⟨a, ha, h⟩
    · simp at h
    · cases p with
      | v i =>
        simp [PX.m] at ha
        subst ha
        simp [knoT, PX.m, rdxT] at h
        exact ⟨.v i, h, .v i⟩
      | c k =>
        simp [PX.m] at ha
        subst ha
        simp [knoT, PX.m, rdxT] at h
        exact ⟨.c k, h, .c k⟩
      | l b =>
        have h1 := prdT_par (most := most) (ps := []) (p := b) (all := [[]]) (fun a h => by simp at h; subst h; exact parL_nil) (fun y hy => parR_sub most n b y hy) a ha
        obtain ⟨qs, rfl, hl, hp⟩ := h1
        simp at hl
        obtain ⟨q, rfl⟩ := List.length_eq_one_iff.1 hl
        have hq := hp 0 (by simp) (by simp)
        simp [knoT, PX.m, rdxT] at h
        exact ⟨.l q, h, .l hq⟩
      | a f x =>
        have h1 := prdT_par (most := most) (ps := []) (p := f) (all := [[]]) (fun a h => by simp at h; subst h; exact parL_nil) (fun y hy => parR_sub most n f y hy)
        have h2 := prdT_par (most := most) (p := x) h1 (fun y hy => parR_sub most n x y hy) a ha
        obtain ⟨qs, rfl, hl, hp⟩ := h2
        simp at hl
        match qs, hl with
        | [f', x'], _ =>
          have hf := hp 0 (by simp) (by simp)
          have hx := hp 1 (by simp) (by simp)
          simp only [List.nil_append, List.cons_append, List.getElem_cons_zero, List.getElem_cons_succ] at hf hx
          unfold knoT at h
          rcases List.mem_cons.1 h with h9 | h9
          · exact ⟨.a f' x', h9, .a hf hx⟩
          · by_cases hr : rdxT (PX.a f x).m = true
            · rw [if_pos hr] at h9
              clear h
              obtain ⟨b, rfl⟩ := px_rdx hr
              obtain ⟨b', rfl, hb⟩ := hf.lam
              simp only [List.map_cons, List.map_nil, List.mem_singleton] at h9
              exact ⟨b'.sub (PX.ins x'), by rw [h9, px_con], .b hb hx⟩
            · rw [if_neg hr] at h9; simp at h9
/-- What has been gone through: the first k of all, and of the next one the first j. -/
def gonP (all : List (List Lm)) (l : List Lm) (k j : Nat) : List (List Lm) := ((all.take k).flatMap fun a => l.map fun x => a ++ [x]) ++ (l.take j).map fun x => (all[k]?.getD []) ++ [x]
theorem gonP_zero (all : List (List Lm)) (l : List Lm) : gonP all l 0 0 = [] := by simp [gonP]
theorem gonP_step {all : List (List Lm)} {l : List Lm} {k j : Nat} (hk : k < all.length) (hj : j < l.length) : gonP all l k (j + 1) = gonP all l k j ++ [all[k] ++ [l[j]]] := by
  unfold gonP
  rw [List.take_succ_eq_append_getElem hj, List.map_append, List.getElem?_eq_getElem hk]
  simp
theorem gonP_row {all : List (List Lm)} {l : List Lm} {k : Nat} (hk : k < all.length) : gonP all l (k + 1) 0 = gonP all l k l.length := by
  unfold gonP
  rw [List.take_succ_eq_append_getElem hk, List.getElem?_eq_getElem hk, List.flatMap_append]
  simp only [List.flatMap_cons, List.flatMap_nil, List.append_nil, List.take_zero, List.map_nil, List.take_length, Option.getD_some]
theorem gonP_all (all : List (List Lm)) (l : List Lm) : gonP all l all.length 0 = all.flatMap fun a => l.map fun x => a ++ [x] := by
  unfold gonP; simp
/-- What has been gone through is the beginning of all. -/
theorem gonP_pre {all : List (List Lm)} {l : List Lm} {k j : Nat} (hk : k < all.length) : ∃ r, (all.flatMap fun a => l.map fun x => a ++ [x]) = gonP all l k j ++ r := by
  have h1 : all = all.take k ++ all[k] :: all.drop (k + 1) := by simp
  refine ⟨((l.drop j).map fun x => all[k] ++ [x]) ++ (all.drop (k + 1)).flatMap (fun a => l.map fun x => a ++ [x]), ?_⟩
  have h2 : l.map (fun x => all[k] ++ [x]) = (l.take j).map (fun x => all[k] ++ [x]) ++ (l.drop j).map (fun x => all[k] ++ [x]) := by
    rw [← List.map_append, List.take_append_drop]
  conv => lhs; rw [h1]
  unfold gonP
  rw [List.flatMap_append, List.flatMap_cons, h2, List.getElem?_eq_getElem hk]
  simp only [Option.getD_some, List.append_assoc]
/-- Where it has become too long, it is what it should be. -/
theorem gonP_full {most : Nat} {all : List (List Lm)} {l : List Lm} {k j : Nat} (hk : k < all.length) (h : most < ((gonP all l k j).take (most + 1)).length) : (gonP all l k j).take (most + 1) = prdT most all l := by
  obtain ⟨r, hr⟩ := gonP_pre (l := l) (j := j) hk
  unfold prdT
  rw [hr, List.take_append_of_le_length]
  rw [List.length_take] at h
  omega
theorem take_snoc {most : Nat} {P : List (List Lm)} {x : List Lm} (h : (P.take (most + 1)).length ≤ most) : (P ++ [x]).take (most + 1) = P.take (most + 1) ++ [x] := by
  rw [List.length_take] at h
  rw [List.take_of_length_le (by simp; omega), List.take_of_length_le (by omega)]
end Go.Proofs.YtnllgbcakmddkaaGreatDoor
