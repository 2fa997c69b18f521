import Derived.Test.YtofebfjkodceeaaZJAutoMadeOwn
namespace Go.Proofs.Ytofebfjkodceeaa
open Go.RowKit
set_option linter.unusedSimpArgs false
set_option linter.unusedVariables false
set_option maxRecDepth 8000
structure Mv where
 name : ByteArray
 frm : List Int
 to : Int
structure Au where
 st : Int
 mv : List Mv
 la : List Int
def okSt (n : Int) (l : List Int) : Bool := l.all fun s => decide (0 ≤ s) && decide (s < n)
def mvE (n : Int) (m : Mv) : Int := if (nameB m.name && !varB m.name) = true then (if 4 < m.frm.length then 3 else if (okSt n m.frm && okSt n [m.to]) = true then 0 else 10) else 1
def mvsE (n : Int) : List Mv → Int
 | [] => 0
 | m :: r => if mvE n m = 0 then mvsE n r else mvE n m
def auE (S M : Nat) (A : Au) : Int := if A.st < 0 ∨ (S : Int) < A.st ∨ M < A.mv.length then 3 else if mvsE A.st A.mv = 0 then (if okSt A.st A.la = true then 0 else 10) else mvsE A.st A.mv
theorem okSt_mem {n : Int} {l : List Int} (h : okSt n l = true) : ∀ s ∈ l, 0 ≤ s ∧ s < n := by
 intro s hs
 unfold okSt at h
 rw [List.all_eq_true] at h
 have := h s hs
 simp at this
 exact this
theorem okSt_of {n : Int} {l : List Int} (h : ∀ s ∈ l, 0 ≤ s ∧ s < n) : okSt n l = true := by
 unfold okSt
 rw [List.all_eq_true]
 intro s hs
 have := h s hs
 simp
 exact this
structure OkMv (n : Int) (m : Mv) : Prop where
 nm : (nameB m.name && !varB m.name) = true
 len : m.frm.length ≤ 4
 frm : ∀ s ∈ m.frm, 0 ≤ s ∧ s < n
 to : 0 ≤ m.to ∧ m.to < n
theorem mvE_zero {n : Int} {m : Mv} : mvE n m = 0 ↔ OkMv n m := by
 unfold mvE
 constructor
 ·intro h
  by_cases h1 : (nameB m.name && !varB m.name) = true
  ·rw [if_pos h1] at h
   by_cases h2 : 4 < m.frm.length
   ·rw [if_pos h2] at h; cases h
   ·rw [if_neg h2] at h
    by_cases h3 : (okSt n m.frm && okSt n [m.to]) = true
    ·rw [Bool.and_eq_true] at h3
     exact ⟨h1, by omega, okSt_mem h3.1, okSt_mem h3.2 _ (by simp)⟩
    ·rw [if_neg h3] at h; cases h
  ·rw [if_neg h1] at h; cases h
 ·intro h
  rw [if_pos h.nm, if_neg (by have := h.len; omega), if_pos]
  rw [Bool.and_eq_true]
  exact ⟨okSt_of h.frm, okSt_of fun s hs => by simp at hs; subst hs; exact h.to⟩
theorem mvsE_zero {n : Int} : ∀ {l : List Mv}, mvsE n l = 0 ↔ ∀ m ∈ l, OkMv n m
 | [] => by simp [mvsE]
 | m :: r => by
  unfold mvsE
  by_cases h : mvE n m = 0
  ·rw [if_pos h, mvsE_zero]
   constructor
   ·intro h2 x hx
    rcases List.mem_cons.1 hx with rfl | hx
    ·exact mvE_zero.1 h
    ·exact h2 x hx
   ·exact fun h2 x hx => h2 x (List.mem_cons_of_mem _ hx)
  ·rw [if_neg h]
   constructor
   ·intro h2; exact absurd h2 h
   ·intro h2; exact absurd (mvE_zero.2 (h2 m (by simp))) h
structure OkAu (S M : Nat) (A : Au) : Prop where
 pos : 0 ≤ A.st
 st : A.st ≤ S
 len : A.mv.length ≤ M
 mv : ∀ m ∈ A.mv, OkMv A.st m
 la : ∀ s ∈ A.la, 0 ≤ s ∧ s < A.st
theorem auE_zero {S M : Nat} {A : Au} : auE S M A = 0 ↔ OkAu S M A := by
 unfold auE
 constructor
 ·intro h
  by_cases h1 : A.st < 0 ∨ (S : Int) < A.st ∨ M < A.mv.length
  ·rw [if_pos h1] at h; cases h
  ·rw [if_neg h1] at h
   by_cases h2 : mvsE A.st A.mv = 0
   ·rw [if_pos h2] at h
    by_cases h3 : okSt A.st A.la = true
    ·exact ⟨by omega, by omega, by omega, mvsE_zero.1 h2, okSt_mem h3⟩
    ·rw [if_neg h3] at h; cases h
   ·rw [if_neg h2] at h; exact absurd h h2
 ·intro h
  have := h.pos; have := h.st; have := h.len
  rw [if_neg (by omega), if_pos (mvsE_zero.2 h.mv), if_pos (okSt_of h.la)]
def bitAt (l : List Bool) (i : Int) : Bool := (l[i.toNat]?).getD false
def goB : List (List Bool) → List Int → Bool
 | b :: bs, i :: is => bitAt b i && goB bs is
 | _, _ => true
def mvB (name : ByteArray) (below : List (List Bool)) (m : Mv) : Bool := decide (m.name = name) && decide (m.frm.length = below.length) && goB below m.frm
def endB (ms : List Mv) (name : ByteArray) (below : List (List Bool)) (s : Nat) : Bool := ms.any fun m => mvB name below m && decide (m.to = (s : Int))
def edgT (ms : List Mv) (n : Nat) (name : ByteArray) (below : List (List Bool)) : List Bool := (List.range n).map (endB ms name below)
def endsL (ms : List Mv) (n : Nat) : List Tm → List (List Bool)
 | [] => []
 | ⟨s, l⟩ :: r => edgT ms n s (endsL ms n l) :: endsL ms n r
def lasB (A : Au) (l : List Bool) : Bool := A.la.any fun i => bitAt l i
def endT (A : Au) (t : Tm) : List Bool := edgT A.mv A.st.toNat t.name (endsL A.mv A.st.toNat t.args)
def accB (A : Au) (t : Tm) : Bool := lasB A (endT A t)
theorem edgT_len (ms : List Mv) (n : Nat) (s : ByteArray) (b : List (List Bool)) : (edgT ms n s b).length = n := by simp [edgT]
theorem bit_edg {ms : List Mv} {n : Nat} {name : ByteArray} {below : List (List Bool)} {s : Nat} (h : s < n) : bitAt (edgT ms n name below) (s : Int) = endB ms name below s := by
 unfold bitAt edgT
 rw [Int.toNat_natCast, List.getElem?_map, List.getElem?_range h]
 rfl
theorem endsL_len (ms : List Mv) (n : Nat) : ∀ l : List Tm, (endsL ms n l).length = l.length
 | [] => by simp [endsL]
 | ⟨s, l⟩ :: r => by simp only [endsL, List.length_cons, endsL_len ms n r]
theorem endsL_map (ms : List Mv) (n : Nat) : ∀ l : List Tm, endsL ms n l = l.map fun t => edgT ms n t.name (endsL ms n t.args)
 | [] => by simp [endsL]
 | ⟨s, l⟩ :: r => by rw [endsL, List.map_cons, endsL_map ms n r]
theorem endB_iff {ms : List Mv} {name : ByteArray} {below : List (List Bool)} {s : Nat} : endB ms name below s = true ↔ ∃ m ∈ ms, mvB name below m = true ∧ m.to = (s : Int) := by
 unfold endB
 rw [List.any_eq_true]
 constructor
 ·rintro ⟨m, h1, h2⟩
  rw [Bool.and_eq_true, decide_eq_true_eq] at h2
  exact ⟨m, h1, h2⟩
 ·rintro ⟨m, h1, h2⟩
  exact ⟨m, h1, by rw [Bool.and_eq_true, decide_eq_true_eq]; exact h2⟩
theorem mvB_iff {name : ByteArray} {below : List (List Bool)} {m : Mv} : mvB name below m = true ↔ m.name = name ∧ m.frm.length = below.length ∧ goB below m.frm = true := by
 unfold mvB
 rw [Bool.and_eq_true, Bool.and_eq_true, decide_eq_true_eq, decide_eq_true_eq, and_assoc]
def lastO (A : Au) : List Int := ((List.range A.st.toNat).filter fun (s : Nat) => decide ((s : Int) ∈ A.la)).map fun (s : Nat) => (s : Int)
theorem lastO_mem {A : Au} (h : ∀ s ∈ A.la, 0 ≤ s ∧ s < A.st) (s : Int) : s ∈ lastO A ↔ s ∈ A.la := by
 unfold lastO
 simp only [List.mem_map, List.mem_filter, List.mem_range, decide_eq_true_eq]
 constructor
 ·rintro ⟨k, ⟨_, h2⟩, rfl⟩; exact h2
 ·intro hs
  have := h s hs
  exact ⟨s.toNat, ⟨by omega, by rw [Int.toNat_of_nonneg this.1]; exact hs⟩, Int.toNat_of_nonneg this.1⟩
theorem lastO_len (A : Au) : (lastO A).length ≤ A.st.toNat := by
 unfold lastO
 rw [List.length_map]
 exact Nat.le_trans (List.length_filter_le _ _) (by simp)
def twoI (q s r : Int) : Int := s * q + r
def prMv (q : Int) (m n : Mv) : Mv := ⟨m.name, List.zipWith (twoI q) m.frm n.frm, twoI q m.to n.to⟩
def alike (m n : Mv) : Bool := decide (m.name = n.name) && decide (m.frm.length = n.frm.length)
def prRow (q : Int) (m : Mv) (ns : List Mv) : List Mv := (ns.filter (alike m)).map (prMv q m)
def prMvs (q : Int) (ms ns : List Mv) : List Mv := ms.flatMap fun m => prRow q m ns
def prA (A B : Au) : Au := ⟨A.st * B.st, prMvs B.st A.mv B.mv, (lastO A).flatMap fun s => (lastO B).map (twoI B.st s)⟩
def shMv (k : Int) (m : Mv) : Mv := ⟨m.name, m.frm.map (k + ·), k + m.to⟩
def smA (A B : Au) : Au := ⟨A.st + B.st, A.mv.map (shMv 0) ++ B.mv.map (shMv A.st), (lastO A).map (0 + ·) ++ (lastO B).map (A.st + ·)⟩
theorem two_in {p q s r : Int} (hs : 0 ≤ s ∧ s < p) (hr : 0 ≤ r ∧ r < q) : 0 ≤ twoI q s r ∧ twoI q s r < p * q := by
 unfold twoI
 have h1 : s * q ≤ (p - 1) * q := Int.mul_le_mul_of_nonneg_right (by omega) (by omega)
 have h2 : 0 ≤ s * q := Int.mul_nonneg hs.1 (by omega)
 rw [Int.sub_mul] at h1
 omega
theorem two_inj {q s r s' r' : Int} (hr : 0 ≤ r ∧ r < q) (hr' : 0 ≤ r' ∧ r' < q) (h : twoI q s r = twoI q s' r') : s = s' ∧ r = r' := by
 unfold twoI at h
 have hq : 0 < q := by omega
 have e1 : (s * q + r) / q = s := by rw [Int.mul_comm, Int.mul_add_ediv_left _ _ (by omega), Int.ediv_eq_zero_of_lt hr.1 hr.2]; omega
 have e2 : (s' * q + r') / q = s' := by rw [Int.mul_comm, Int.mul_add_ediv_left _ _ (by omega), Int.ediv_eq_zero_of_lt hr'.1 hr'.2]; omega
 rw [h, e2] at e1
 subst e1
 exact ⟨rfl, by omega⟩
def Rl (p q : Int) (x a b : List Bool) : Prop := ∀ s r : Int, (0 ≤ s ∧ s < p) → (0 ≤ r ∧ r < q) → bitAt x (twoI q s r) = (bitAt a s && bitAt b r)
def RlL (p q : Int) : List (List Bool) → List (List Bool) → List (List Bool) → Prop
 | [], [], [] => True
 | x :: X, a :: A, b :: B => Rl p q x a b ∧ RlL p q X A B
 | _, _, _ => False
theorem RlL.len {p q : Int} : ∀ {X A B : List (List Bool)}, RlL p q X A B → X.length = A.length ∧ X.length = B.length
 | [], [], [], _ => ⟨rfl, rfl⟩
 | x :: X, a :: A, b :: B, h => by have := RlL.len h.2; simp [this.1, this.2]; omega
 | [], [], _ :: _, h => h.elim
 | [], _ :: _, _, h => h.elim
 | _ :: _, [], _, h => h.elim
 | _ :: _, _ :: _, [], h => h.elim
theorem go_pr {p q : Int} : ∀ {X A B : List (List Bool)} {f g : List Int}, RlL p q X A B → f.length = A.length → g.length = A.length → (∀ s ∈ f, 0 ≤ s ∧ s < p) → (∀ s ∈ g, 0 ≤ s ∧ s < q) → goB X (List.zipWith (twoI q) f g) = (goB A f && goB B g)
 | [], [], [], [], [], _, _, _, _, _ => rfl
 | x :: X, a :: A, b :: B, s :: f, r :: g, h, h1, h2, h3, h4 => by
  have ih := go_pr (f := f) (g := g) h.2 (by simpa using h1) (by simpa using h2) (fun s hs => h3 s (List.mem_cons_of_mem _ hs)) (fun s hs => h4 s (List.mem_cons_of_mem _ hs))
  rw [List.zipWith_cons_cons, goB, goB, goB, ih, h.1 s r (h3 s (by simp)) (h4 r (by simp))]
  cases bitAt a s <;> cases bitAt b r <;> cases goB A f <;> rfl
 | [], [], _ :: _, _, _, h, _, _, _, _ => h.elim
 | [], _ :: _, _, _, _, h, _, _, _, _ => h.elim
 | _ :: _, [], _, _, _, h, _, _, _, _ => h.elim
 | _ :: _, _ :: _, [], _, _, h, _, _, _, _ => h.elim
 | [], [], [], _ :: _, _, _, h1, _, _, _ => by simp at h1
 | [], [], [], [], _ :: _, _, _, h2, _, _ => by simp at h2
 | _ :: _, _ :: _, _ :: _, [], _, _, h1, _, _, _ => by simp at h1
 | _ :: _, _ :: _, _ :: _, _ :: _, [], _, _, h2, _, _ => by simp at h2
theorem prMvs_mem {q : Int} {ms ns : List Mv} {x : Mv} : x ∈ prMvs q ms ns ↔ ∃ m ∈ ms, ∃ n ∈ ns, alike m n = true ∧ x = prMv q m n := by
 unfold prMvs prRow
 simp only [List.mem_flatMap, List.mem_map, List.mem_filter]
 constructor
 ·rintro ⟨m, hm, n, ⟨hn, ha⟩, rfl⟩; exact ⟨m, hm, n, hn, ha, rfl⟩
 ·rintro ⟨m, hm, n, hn, ha, rfl⟩; exact ⟨m, hm, n, ⟨hn, ha⟩, rfl⟩
theorem alike_iff {m n : Mv} : alike m n = true ↔ m.name = n.name ∧ m.frm.length = n.frm.length := by
 unfold alike
 rw [Bool.and_eq_true, decide_eq_true_eq, decide_eq_true_eq]
theorem end_pr {p q : Int} {ms ns : List Mv} (hm : ∀ m ∈ ms, OkMv p m) (hn : ∀ m ∈ ns, OkMv q m) {X A B : List (List Bool)} (h : RlL p q X A B) (name : ByteArray) (s r : Nat) (hs : (s : Int) < p) (hr : (r : Int) < q) :
  endB (prMvs q ms ns) name X (twoI q s r).toNat = (endB ms name A s && endB ns name B r) := by
 have hl := h.len
 have ht := two_in (p := p) (q := q) (s := s) (r := r) ⟨by omega, hs⟩ ⟨by omega, hr⟩
 rw [Bool.eq_iff_iff, Bool.and_eq_true, endB_iff, endB_iff, endB_iff]
 constructor
 ·rintro ⟨x, hx, hb, ht2⟩
  obtain ⟨m, h1, n, h2, ha, rfl⟩ := prMvs_mem.1 hx
  rw [mvB_iff] at hb
  obtain ⟨e1, e2⟩ := alike_iff.1 ha
  obtain ⟨b1, b2, b3⟩ := hb
  have b1' : m.name = name := b1
  have b2' : m.frm.length = X.length := by
   have : (List.zipWith (twoI q) m.frm n.frm).length = X.length := b2
   rw [List.length_zipWith] at this
   omega
  rw [show (prMv q m n).frm = List.zipWith (twoI q) m.frm n.frm from rfl, go_pr h (by omega) (by omega) (hm m h1).frm (hn n h2).frm, Bool.and_eq_true] at b3
  rw [Int.toNat_of_nonneg ht.1] at ht2
  have := two_inj (hn n h2).to ⟨by omega, hr⟩ ht2
  exact ⟨⟨m, h1, mvB_iff.2 ⟨b1', by omega, b3.1⟩, this.1⟩, n, h2, mvB_iff.2 ⟨by rw [← e1]; exact b1', by omega, b3.2⟩, this.2⟩
 ·rintro ⟨⟨m, h1, hb1, ht1⟩, n, h2, hb2, ht2⟩
  rw [mvB_iff] at hb1 hb2
  obtain ⟨a1, a2, a3⟩ := hb1
  obtain ⟨b1, b2, b3⟩ := hb2
  refine ⟨prMv q m n, prMvs_mem.2 ⟨m, h1, n, h2, alike_iff.2 ⟨by rw [a1, b1], by omega⟩, rfl⟩, mvB_iff.2 ⟨a1, ?_, ?_⟩, ?_⟩
  ·show (List.zipWith (twoI q) m.frm n.frm).length = X.length
   rw [List.length_zipWith]
   omega
  ·show goB X (List.zipWith (twoI q) m.frm n.frm) = true
   rw [go_pr h (by omega) (by omega) (hm m h1).frm (hn n h2).frm, a3, b3]
   rfl
  ·show twoI q m.to n.to = _
   rw [Int.toNat_of_nonneg ht.1, ht1, ht2]
theorem rl_edg {p q : Int} {ms ns : List Mv} (hm : ∀ m ∈ ms, OkMv p m) (hn : ∀ m ∈ ns, OkMv q m) {X A B : List (List Bool)} (h : RlL p q X A B) (name : ByteArray) :
  Rl p q (edgT (prMvs q ms ns) (p * q).toNat name X) (edgT ms p.toNat name A) (edgT ns q.toNat name B) := by
 intro s r hs hr
 have ht := two_in hs hr
 obtain ⟨s', rfl⟩ : ∃ s' : Nat, s = s' := ⟨s.toNat, by omega⟩
 obtain ⟨r', rfl⟩ : ∃ r' : Nat, r = r' := ⟨r.toNat, by omega⟩
 have h1 := bit_edg (ms := prMvs q ms ns) (n := (p * q).toNat) (name := name) (below := X) (s := (twoI q s' r').toNat) (by omega)
 rw [Int.toNat_of_nonneg ht.1] at h1
 rw [h1, bit_edg (by omega), bit_edg (by omega)]
 exact end_pr hm hn h name s' r' hs.2 hr.2
theorem rl_ends {p q : Int} {ms ns : List Mv} (hm : ∀ m ∈ ms, OkMv p m) (hn : ∀ m ∈ ns, OkMv q m) (l : List Tm) : RlL p q (endsL (prMvs q ms ns) (p * q).toNat l) (endsL ms p.toNat l) (endsL ns q.toNat l) := by
 induction l using Tm.indL with
 | h0 => simp [endsL, RlL]
 | h s l r ih1 ih2 =>
  simp only [endsL]
  exact ⟨rl_edg hm hn ih1 s, ih2⟩
theorem acc_pr {S M : Nat} {A B : Au} (hA : OkAu S M A) (hB : OkAu S M B) (t : Tm) : accB (prA A B) t = (accB A t && accB B t) := by
 have h := rl_edg hA.mv hB.mv (rl_ends hA.mv hB.mv t.args) t.name
 unfold accB lasB
 rw [Bool.eq_iff_iff, Bool.and_eq_true, List.any_eq_true, List.any_eq_true, List.any_eq_true]
 constructor
 ·rintro ⟨x, hx, hb⟩
  obtain ⟨s, hs, hx⟩ := List.mem_flatMap.1 hx
  obtain ⟨r, hr, rfl⟩ := List.mem_map.1 hx
  rw [lastO_mem hA.la] at hs
  rw [lastO_mem hB.la] at hr
  have h2 := h s r (hA.la s hs) (hB.la r hr)
  have hb' : bitAt (edgT (prMvs B.st A.mv B.mv) (A.st * B.st).toNat t.name (endsL (prMvs B.st A.mv B.mv) (A.st * B.st).toNat t.args)) (twoI B.st s r) = true := hb
  rw [h2, Bool.and_eq_true] at hb'
  exact ⟨⟨s, hs, hb'.1⟩, r, hr, hb'.2⟩
 ·rintro ⟨⟨s, hs, h1⟩, r, hr, h2⟩
  refine ⟨twoI B.st s r, List.mem_flatMap.2 ⟨s, (lastO_mem hA.la s).2 hs, List.mem_map.2 ⟨r, (lastO_mem hB.la r).2 hr, rfl⟩⟩, ?_⟩
  show bitAt (edgT (prMvs B.st A.mv B.mv) (A.st * B.st).toNat t.name (endsL (prMvs B.st A.mv B.mv) (A.st * B.st).toNat t.args)) (twoI B.st s r) = true
  rw [h s r (hA.la s hs) (hB.la r hr)]
  unfold endT at h1 h2
  rw [h1, h2]
  rfl
def Rs (p q : Int) (x a b : List Bool) : Prop := (∀ s : Int, (0 ≤ s ∧ s < p) → bitAt x s = bitAt a s) ∧ ∀ r : Int, (0 ≤ r ∧ r < q) → bitAt x (p + r) = bitAt b r
def RsL (p q : Int) : List (List Bool) → List (List Bool) → List (List Bool) → Prop
 | [], [], [] => True
 | x :: X, a :: A, b :: B => Rs p q x a b ∧ RsL p q X A B
 | _, _, _ => False
theorem RsL.len {p q : Int} : ∀ {X A B : List (List Bool)}, RsL p q X A B → X.length = A.length ∧ X.length = B.length
 | [], [], [], _ => ⟨rfl, rfl⟩
 | x :: X, a :: A, b :: B, h => by have := RsL.len h.2; simp [this.1, this.2]; omega
 | [], [], _ :: _, h => h.elim
 | [], _ :: _, _, h => h.elim
 | _ :: _, [], _, h => h.elim
 | _ :: _, _ :: _, [], h => h.elim
theorem go_sm1 {p q : Int} : ∀ {X A B : List (List Bool)} {f : List Int}, RsL p q X A B → (∀ s ∈ f, 0 ≤ s ∧ s < p) → goB X (f.map (0 + ·)) = goB A f
 | [], [], [], f, _, _ => by cases f <;> rfl
 | x :: X, a :: A, b :: B, [], h, _ => rfl
 | x :: X, a :: A, b :: B, s :: f, h, h1 => by
  rw [List.map_cons, goB, goB, go_sm1 h.2 (fun s hs => h1 s (List.mem_cons_of_mem _ hs)), Int.zero_add, h.1.1 s (h1 s (by simp))]
 | [], [], _ :: _, _, h, _ => h.elim
 | [], _ :: _, _, _, h, _ => h.elim
 | _ :: _, [], _, _, h, _ => h.elim
 | _ :: _, _ :: _, [], _, h, _ => h.elim
theorem go_sm2 {p q : Int} : ∀ {X A B : List (List Bool)} {f : List Int}, RsL p q X A B → (∀ s ∈ f, 0 ≤ s ∧ s < q) → goB X (f.map (p + ·)) = goB B f
 | [], [], [], f, _, _ => by cases f <;> rfl
 | x :: X, a :: A, b :: B, [], h, _ => rfl
 | x :: X, a :: A, b :: B, s :: f, h, h1 => by
  rw [List.map_cons, goB, goB, go_sm2 h.2 (fun s hs => h1 s (List.mem_cons_of_mem _ hs)), h.1.2 s (h1 s (by simp))]
 | [], [], _ :: _, _, h, _ => h.elim
 | [], _ :: _, _, _, h, _ => h.elim
 | _ :: _, [], _, _, h, _ => h.elim
 | _ :: _, _ :: _, [], _, h, _ => h.elim
def smMvs (p : Int) (ms ns : List Mv) : List Mv := ms.map (shMv 0) ++ ns.map (shMv p)
theorem end_sm {p q : Int} {ms ns : List Mv} (hm : ∀ m ∈ ms, OkMv p m) (hn : ∀ m ∈ ns, OkMv q m) {X A B : List (List Bool)} (h : RsL p q X A B) (name : ByteArray) (k : Nat) :
  ((k : Int) < p → endB (smMvs p ms ns) name X k = endB ms name A k) ∧ (∀ r : Nat, (k : Int) = p + r → endB (smMvs p ms ns) name X k = endB ns name B r) := by
 have hl := h.len
 have key : endB (smMvs p ms ns) name X k = true ↔ (∃ m ∈ ms, mvB name A m = true ∧ m.to = (k : Int)) ∨ (∃ m ∈ ns, mvB name B m = true ∧ p + m.to = (k : Int)) := by
  rw [endB_iff]
  unfold smMvs
  constructor
  ·rintro ⟨x, hx, hb, ht⟩
   rw [mvB_iff] at hb
   rcases List.mem_append.1 hx with hx | hx
   ·obtain ⟨m, h1, rfl⟩ := List.mem_map.1 hx
    obtain ⟨b1, b2, b3⟩ := hb
    have b3' : goB X (m.frm.map (0 + ·)) = true := b3
    rw [go_sm1 h (hm m h1).frm] at b3'
    have b2' : (m.frm.map (0 + ·)).length = X.length := b2
    rw [List.length_map] at b2'
    have ht' : 0 + m.to = (k : Int) := ht
    exact Or.inl ⟨m, h1, mvB_iff.2 ⟨b1, by omega, b3'⟩, by omega⟩
   ·obtain ⟨m, h1, rfl⟩ := List.mem_map.1 hx
    obtain ⟨b1, b2, b3⟩ := hb
    have b3' : goB X (m.frm.map (p + ·)) = true := b3
    rw [go_sm2 h (hn m h1).frm] at b3'
    have b2' : (m.frm.map (p + ·)).length = X.length := b2
    rw [List.length_map] at b2'
    exact Or.inr ⟨m, h1, mvB_iff.2 ⟨b1, by omega, b3'⟩, ht⟩
  ·rintro (⟨m, h1, hb, ht⟩ | ⟨m, h1, hb, ht⟩)
   ·rw [mvB_iff] at hb
    obtain ⟨b1, b2, b3⟩ := hb
    refine ⟨shMv 0 m, List.mem_append.2 (Or.inl (List.mem_map.2 ⟨m, h1, rfl⟩)), mvB_iff.2 ⟨b1, ?_, ?_⟩, ?_⟩
    ·show (m.frm.map (0 + ·)).length = _; rw [List.length_map]; omega
    ·show goB X (m.frm.map (0 + ·)) = true; rw [go_sm1 h (hm m h1).frm]; exact b3
    ·show 0 + m.to = _; omega
   ·rw [mvB_iff] at hb
    obtain ⟨b1, b2, b3⟩ := hb
    refine ⟨shMv p m, List.mem_append.2 (Or.inr (List.mem_map.2 ⟨m, h1, rfl⟩)), mvB_iff.2 ⟨b1, ?_, ?_⟩, ht⟩
    ·show (m.frm.map (p + ·)).length = _; rw [List.length_map]; omega
    ·show goB X (m.frm.map (p + ·)) = true; rw [go_sm2 h (hn m h1).frm]; exact b3
 constructor
 ·intro hk
  rw [Bool.eq_iff_iff, key, endB_iff]
  constructor
  ·rintro (h1 | ⟨m, h1, _, ht⟩)
   ·exact h1
   ·have := (hn m h1).to; omega
  ·exact Or.inl
 ·intro r hk
  rw [Bool.eq_iff_iff, key, endB_iff]
  constructor
  ·rintro (⟨m, h1, _, ht⟩ | ⟨m, h1, hb, ht⟩)
   ·have := (hm m h1).to; omega
   ·exact ⟨m, h1, hb, by omega⟩
  ·rintro ⟨m, h1, hb, ht⟩
   exact Or.inr ⟨m, h1, hb, by omega⟩
theorem rs_edg {p q : Int} (hp : 0 ≤ p) (hq : 0 ≤ q) {ms ns : List Mv} (hm : ∀ m ∈ ms, OkMv p m) (hn : ∀ m ∈ ns, OkMv q m) {X A B : List (List Bool)} (h : RsL p q X A B) (name : ByteArray) :
  Rs p q (edgT (smMvs p ms ns) (p + q).toNat name X) (edgT ms p.toNat name A) (edgT ns q.toNat name B) := by
 constructor
 ·intro s hs
  obtain ⟨s', rfl⟩ : ∃ s' : Nat, s = s' := ⟨s.toNat, by omega⟩
  rw [bit_edg (by omega), bit_edg (by omega)]
  exact (end_sm hm hn h name s').1 hs.2
 ·intro r hr
  obtain ⟨r', rfl⟩ : ∃ r' : Nat, r = r' := ⟨r.toNat, by omega⟩
  obtain ⟨k, hk⟩ : ∃ k : Nat, (k : Int) = p + r' := ⟨(p + r').toNat, by omega⟩
  rw [← hk, bit_edg (by omega), bit_edg (by omega)]
  exact (end_sm hm hn h name k).2 r' hk
theorem rs_ends {p q : Int} (hp : 0 ≤ p) (hq : 0 ≤ q) {ms ns : List Mv} (hm : ∀ m ∈ ms, OkMv p m) (hn : ∀ m ∈ ns, OkMv q m) (l : List Tm) : RsL p q (endsL (smMvs p ms ns) (p + q).toNat l) (endsL ms p.toNat l) (endsL ns q.toNat l) := by
 induction l using Tm.indL with
 | h0 => simp [endsL, RsL]
 | h s l r ih1 ih2 =>
  simp only [endsL]
  exact ⟨rs_edg hp hq hm hn ih1 s, ih2⟩
theorem acc_sm {S M : Nat} {A B : Au} (hA : OkAu S M A) (hB : OkAu S M B) (t : Tm) : accB (smA A B) t = (accB A t || accB B t) := by
 have h := rs_edg hA.pos hB.pos hA.mv hB.mv (rs_ends hA.pos hB.pos hA.mv hB.mv t.args) t.name
 unfold accB lasB
 rw [Bool.eq_iff_iff, Bool.or_eq_true, List.any_eq_true, List.any_eq_true, List.any_eq_true]
 constructor
 ·rintro ⟨x, hx, hb⟩
  have hb' : bitAt (edgT (smMvs A.st A.mv B.mv) (A.st + B.st).toNat t.name (endsL (smMvs A.st A.mv B.mv) (A.st + B.st).toNat t.args)) x = true := hb
  rcases List.mem_append.1 hx with hx | hx
  ·obtain ⟨s, hs, rfl⟩ := List.mem_map.1 hx
   rw [lastO_mem hA.la] at hs
   rw [Int.zero_add, h.1 s (hA.la s hs)] at hb'
   exact Or.inl ⟨s, hs, hb'⟩
  ·obtain ⟨r, hr, rfl⟩ := List.mem_map.1 hx
   rw [lastO_mem hB.la] at hr
   rw [h.2 r (hB.la r hr)] at hb'
   exact Or.inr ⟨r, hr, hb'⟩
 ·rintro (⟨s, hs, hb⟩ | ⟨r, hr, hb⟩)
  ·refine ⟨0 + s, List.mem_append.2 (Or.inl (List.mem_map.2 ⟨s, (lastO_mem hA.la s).2 hs, rfl⟩)), ?_⟩
   show bitAt (edgT (smMvs A.st A.mv B.mv) (A.st + B.st).toNat t.name (endsL (smMvs A.st A.mv B.mv) (A.st + B.st).toNat t.args)) (0 + s) = true
   rw [Int.zero_add, h.1 s (hA.la s hs)]
   exact hb
  ·refine ⟨A.st + r, List.mem_append.2 (Or.inr (List.mem_map.2 ⟨r, (lastO_mem hB.la r).2 hr, rfl⟩)), ?_⟩
   show bitAt (edgT (smMvs A.st A.mv B.mv) (A.st + B.st).toNat t.name (endsL (smMvs A.st A.mv B.mv) (A.st + B.st).toNat t.args)) (A.st + r) = true
   rw [h.2 r (hB.la r hr)]
   exact hb
theorem prMvs_len (q : Int) (ns : List Mv) : ∀ ms : List Mv, (prMvs q ms ns).length ≤ ms.length * ns.length
 | [] => by simp [prMvs]
 | m :: r => by
  have h1 := prMvs_len q ns r
  have h2 : (prRow q m ns).length ≤ ns.length := by unfold prRow; rw [List.length_map]; exact List.length_filter_le _ _
  have h3 : prMvs q (m :: r) ns = prRow q m ns ++ prMvs q r ns := rfl
  rw [h3, List.length_append, List.length_cons, Nat.add_mul]
  omega
theorem zip_mem {q : Int} : ∀ {f g : List Int} {x : Int}, x ∈ List.zipWith (twoI q) f g → ∃ s ∈ f, ∃ r ∈ g, x = twoI q s r
 | [], _, x, h => by simp at h
 | _ :: _, [], x, h => by simp at h
 | s :: f, r :: g, x, h => by
  rw [List.zipWith_cons_cons] at h
  rcases List.mem_cons.1 h with rfl | h
  ·exact ⟨s, by simp, r, by simp, rfl⟩
  ·obtain ⟨s', h1, r', h2, e⟩ := zip_mem h
   exact ⟨s', List.mem_cons_of_mem _ h1, r', List.mem_cons_of_mem _ h2, e⟩
theorem ok_pr {A B : Au} (hA : OkAu 8 40 A) (hB : OkAu 8 40 B) : OkAu 64 1600 (prA A B) ∧ (prA A B).la.length ≤ 64 := by
 have a1 := hA.pos; have a2 := hA.st; have b1 := hB.pos; have b2 := hB.st
 have hst : A.st * B.st ≤ 64 := by
  have h1 : A.st * B.st ≤ 8 * B.st := Int.mul_le_mul_of_nonneg_right a2 b1
  omega
 refine ⟨⟨Int.mul_nonneg a1 b1, hst, ?_, ?_, ?_⟩, ?_⟩
 ·have h1 := prMvs_len B.st B.mv A.mv
  have h2 : A.mv.length * B.mv.length ≤ 40 * 40 := Nat.mul_le_mul hA.len hB.len
  show (prMvs B.st A.mv B.mv).length ≤ 1600
  omega
 ·intro x hx
  obtain ⟨m, h1, n, h2, ha, rfl⟩ := prMvs_mem.1 (show x ∈ prMvs B.st A.mv B.mv from hx)
  have om := hA.mv m h1
  have on := hB.mv n h2
  refine ⟨om.nm, ?_, ?_, two_in om.to on.to⟩
  ·show (List.zipWith (twoI B.st) m.frm n.frm).length ≤ 4
   rw [List.length_zipWith]
   have := om.len
   omega
  ·intro y hy
   obtain ⟨s, hs, r, hr, rfl⟩ := zip_mem (show y ∈ List.zipWith (twoI B.st) m.frm n.frm from hy)
   exact two_in (om.frm s hs) (on.frm r hr)
 ·intro y hy
  obtain ⟨s, hs, hy⟩ := List.mem_flatMap.1 hy
  obtain ⟨r, hr, rfl⟩ := List.mem_map.1 hy
  rw [lastO_mem hA.la] at hs
  rw [lastO_mem hB.la] at hr
  exact two_in (hA.la s hs) (hB.la r hr)
 ·have h1 := lastO_len A
  have h2 := lastO_len B
  have h3 : ∀ l : List Int, (l.flatMap fun s => (lastO B).map (twoI B.st s)).length = l.length * (lastO B).length := by
   intro l
   induction l with
   | nil => simp
   | cons a r ih => simp only [List.flatMap_cons, List.length_append, List.length_map, ih, List.length_cons]; rw [Nat.add_mul]; omega
  show ((lastO A).flatMap fun s => (lastO B).map (twoI B.st s)).length ≤ 64
  rw [h3]
  have h4 : (lastO A).length * (lastO B).length ≤ 8 * 8 := Nat.mul_le_mul (by omega) (by omega)
  omega
theorem ok_sm {A B : Au} (hA : OkAu 8 40 A) (hB : OkAu 8 40 B) : OkAu 64 1600 (smA A B) ∧ (smA A B).la.length ≤ 64 := by
 have a1 := hA.pos; have a2 := hA.st; have b1 := hB.pos; have b2 := hB.st
 have a3 := hA.len; have b3 := hB.len
 refine ⟨⟨by show 0 ≤ A.st + B.st; omega, by show A.st + B.st ≤ 64; omega, ?_, ?_, ?_⟩, ?_⟩
 ·show (A.mv.map (shMv 0) ++ B.mv.map (shMv A.st)).length ≤ 1600
  rw [List.length_append, List.length_map, List.length_map]
  omega
 ·intro x hx
  rcases List.mem_append.1 (show x ∈ A.mv.map (shMv 0) ++ B.mv.map (shMv A.st) from hx) with hx | hx
  ·obtain ⟨m, h1, rfl⟩ := List.mem_map.1 hx
   have om := hA.mv m h1
   refine ⟨om.nm, ?_, ?_, ?_⟩
   ·show (m.frm.map (0 + ·)).length ≤ 4; rw [List.length_map]; exact om.len
   ·intro y hy
    obtain ⟨s, hs, rfl⟩ := List.mem_map.1 (show y ∈ m.frm.map (0 + ·) from hy)
    have := om.frm s hs
    show 0 ≤ 0 + s ∧ 0 + s < A.st + B.st
    omega
   ·have := om.to
    show 0 ≤ 0 + m.to ∧ 0 + m.to < A.st + B.st
    omega
  ·obtain ⟨m, h1, rfl⟩ := List.mem_map.1 hx
   have om := hB.mv m h1
   refine ⟨om.nm, ?_, ?_, ?_⟩
   ·show (m.frm.map (A.st + ·)).length ≤ 4; rw [List.length_map]; exact om.len
   ·intro y hy
    obtain ⟨s, hs, rfl⟩ := List.mem_map.1 (show y ∈ m.frm.map (A.st + ·) from hy)
    have := om.frm s hs
    show 0 ≤ A.st + s ∧ A.st + s < A.st + B.st
    omega
   ·have := om.to
    show 0 ≤ A.st + m.to ∧ A.st + m.to < A.st + B.st
    omega
 ·intro y hy
  rcases List.mem_append.1 (show y ∈ (lastO A).map (0 + ·) ++ (lastO B).map (A.st + ·) from hy) with hy | hy
  ·obtain ⟨s, hs, rfl⟩ := List.mem_map.1 hy
   have := hA.la s ((lastO_mem hA.la s).1 hs)
   show 0 ≤ 0 + s ∧ 0 + s < A.st + B.st
   omega
  ·obtain ⟨s, hs, rfl⟩ := List.mem_map.1 hy
   have := hB.la s ((lastO_mem hB.la s).1 hs)
   show 0 ≤ A.st + s ∧ A.st + s < A.st + B.st
   omega
 ·have h1 := lastO_len A
  have h2 := lastO_len B
  show ((lastO A).map (0 + ·) ++ (lastO B).map (A.st + ·)).length ≤ 64
  rw [List.length_append, List.length_map, List.length_map]
  omega
end Go.Proofs.Ytofebfjkodceeaa
