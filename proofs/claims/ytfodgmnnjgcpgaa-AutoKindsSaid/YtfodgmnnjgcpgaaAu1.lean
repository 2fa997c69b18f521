/- Plain: automata on terms: both at once, one beside the other. -/
import Derived.Test.YtfodgmnnjgcpgaaZJAutoKindsOwn
namespace Go.Proofs.Ytfodgmnnjgcpgaa
open Go.RowKit
set_option linter.unusedSimpArgs false
set_option linter.unusedVariables false
set_option maxRecDepth 8000

/-- A move, an automaton. -/
structure Mv where
  name : ByteArray
  frm : List Int
  to : Int
structure Au where
  st : Int
  mv : List Mv
  la : List Int

/-- What is wrong with it. -/
def okSt (n : Int) (l : List Int) : Bool := l.all fun s => decide (0 ≤ s) && decide (s < n)
def mvE (n : Int) (m : Mv) : Int := if (nameB m.name && !varB m.name) = true then (if 4 < m.frm.length then 3 else if (okSt n m.frm && okSt n [m.to]) = true then 0 else 10) else 1
def mvsE (n : Int) : List Mv → Int
  | [] => 0
  | m :: r => if mvE n m = 0 then mvsE n r else mvE n m
def auE (S M : Nat) (A : Au) : Int := if A.st < 0 ∨ (S : Int) < A.st ∨ M < A.mv.length then 3 else if mvsE A.st A.mv = 0 then (if okSt A.st A.la = true then 0 else 10) else mvsE A.st A.mv

theorem okSt_mem {n : Int} {l : List Int} (h : okSt n l = true) : ∀ s ∈ l, 0 ≤ s ∧ s < n := by
  intro s hs
  unfold okSt at h
  rw [List.all_eq_true] at h
  have := h s hs
  simp at this
  exact this
theorem okSt_of {n : Int} {l : List Int} (h : ∀ s ∈ l, 0 ≤ s ∧ s < n) : okSt n l = true := by
  unfold okSt
  rw [List.all_eq_true]
  intro s hs
  have := h s hs
  simp
  exact this
/-- What a move is that may be. -/
structure OkMv (n : Int) (m : Mv) : Prop where
  nm : (nameB m.name && !varB m.name) = true
  len : m.frm.length ≤ 4
  frm : ∀ s ∈ m.frm, 0 ≤ s ∧ s < n
  to : 0 ≤ m.to ∧ m.to < n
theorem mvE_zero {n : Int} {m : Mv} : mvE n m = 0 ↔ OkMv n m := by
  unfold mvE
  constructor
  · intro h
    by_cases h1 : (nameB m.name && !varB m.name) = true
    · rw [if_pos h1] at h
      by_cases h2 : 4 < m.frm.length
      · rw [if_pos h2] at h; cases h
      · rw [if_neg h2] at h
        by_cases h3 : (okSt n m.frm && okSt n [m.to]) = true
        · rw [Bool.and_eq_true] at h3
          exact ⟨h1, by omega, okSt_mem h3.1, okSt_mem h3.2 _ (by simp)⟩
        · rw [if_neg h3] at h; cases h
    · rw [if_neg h1] at h; cases h
  · intro h
    rw [if_pos h.nm, if_neg (by have := h.len; omega), if_pos]
    rw [Bool.and_eq_true]
    exact ⟨okSt_of h.frm, okSt_of fun s hs => by simp at hs; subst hs; exact h.to⟩
theorem mvsE_zero {n : Int} : ∀ {l : List Mv}, mvsE n l = 0 ↔ ∀ m ∈ l, OkMv n m
  | [] => by simp [mvsE]
  | m :: r => by
    unfold mvsE
    by_cases h : mvE n m = 0
    · rw [if_pos h, mvsE_zero]
      constructor
      · intro h2 x hx
        rcases List.mem_cons.1 hx with rfl | hx
        · exact mvE_zero.1 h
        · exact h2 x hx
      · exact fun h2 x hx => h2 x (List.mem_cons_of_mem _ hx)
    · rw [if_neg h]
      constructor
      · intro h2; exact absurd h2 h
      · intro h2; exact absurd (mvE_zero.2 (h2 m (by simp))) h
structure OkAu (S M : Nat) (A : Au) : Prop where
  pos : 0 ≤ A.st
  st : A.st ≤ S
  len : A.mv.length ≤ M
  mv : ∀ m ∈ A.mv, OkMv A.st m
  la : ∀ s ∈ A.la, 0 ≤ s ∧ s < A.st
theorem auE_zero {S M : Nat} {A : Au} : auE S M A = 0 ↔ OkAu S M A := by
  unfold auE
  constructor
  · intro h
    by_cases h1 : A.st < 0 ∨ (S : Int) < A.st ∨ M < A.mv.length
    · rw [if_pos h1] at h; cases h
    · rw [if_neg h1] at h
      by_cases h2 : mvsE A.st A.mv = 0
      · rw [if_pos h2] at h
        by_cases h3 : okSt A.st A.la = true
        · exact ⟨by omega, by omega, by omega, mvsE_zero.1 h2, okSt_mem h3⟩
        · rw [if_neg h3] at h; cases h
      · rw [if_neg h2] at h; exact absurd h h2
  · intro h
    have := h.pos; have := h.st; have := h.len
    rw [if_neg (by omega), if_pos (mvsE_zero.2 h.mv), if_pos (okSt_of h.la)]

/-- Where a term may end. -/
def bitAt (l : List Bool) (i : Int) : Bool := (l[i.toNat]?).getD false
def goB : List (List Bool) → List Int → Bool
  | b :: bs, i :: is => bitAt b i && goB bs is
  | _, _ => true
def mvB (name : ByteArray) (below : List (List Bool)) (m : Mv) : Bool := decide (m.name = name) && decide (m.frm.length = below.length) && goB below m.frm
def endB (ms : List Mv) (name : ByteArray) (below : List (List Bool)) (s : Nat) : Bool := ms.any fun m => mvB name below m && decide (m.to = (s : Int))
def edgT (ms : List Mv) (n : Nat) (name : ByteArray) (below : List (List Bool)) : List Bool := (List.range n).map (endB ms name below)
def endsL (ms : List Mv) (n : Nat) : List Tm → List (List Bool)
  | [] => []
  | ⟨s, l⟩ :: r => edgT ms n s (endsL ms n l) :: endsL ms n r
def lasB (A : Au) (l : List Bool) : Bool := A.la.any fun i => bitAt l i
def endT (A : Au) (t : Tm) : List Bool := edgT A.mv A.st.toNat t.name (endsL A.mv A.st.toNat t.args)
def accB (A : Au) (t : Tm) : Bool := lasB A (endT A t)

theorem edgT_len (ms : List Mv) (n : Nat) (s : ByteArray) (b : List (List Bool)) : (edgT ms n s b).length = n := by simp [edgT]
theorem bit_edg {ms : List Mv} {n : Nat} {name : ByteArray} {below : List (List Bool)} {s : Nat} (h : s < n) : bitAt (edgT ms n name below) (s : Int) = endB ms name below s := by
  unfold bitAt edgT
  rw [Int.toNat_natCast, List.getElem?_map, List.getElem?_range h]
  rfl
theorem endsL_len (ms : List Mv) (n : Nat) : ∀ l : List Tm, (endsL ms n l).length = l.length
  | [] => by simp [endsL]
  | ⟨s, l⟩ :: r => by simp only [endsL, List.length_cons, endsL_len ms n r]
theorem endsL_map (ms : List Mv) (n : Nat) : ∀ l : List Tm, endsL ms n l = l.map fun t => edgT ms n t.name (endsL ms n t.args)
  | [] => by simp [endsL]
  | ⟨s, l⟩ :: r => by rw [endsL, List.map_cons, endsL_map ms n r]
theorem endB_iff {ms : List Mv} {name : ByteArray} {below : List (List Bool)} {s : Nat} : endB ms name below s = true ↔ ∃ m ∈ ms, mvB name below m = true ∧ m.to = (s : Int) := by
  unfold endB
  rw [List.any_eq_true]
  constructor
  · rintro ⟨m, h1, h2⟩
    rw [Bool.and_eq_true, decide_eq_true_eq] at h2
    exact ⟨m, h1, h2⟩
  · rintro ⟨m, h1, h2⟩
    exact ⟨m, h1, by rw [Bool.and_eq_true, decide_eq_true_eq]; exact h2⟩
theorem mvB_iff {name : ByteArray} {below : List (List Bool)} {m : Mv} : mvB name below m = true ↔ m.name = name ∧ m.frm.length = below.length ∧ goB below m.frm = true := by
  unfold mvB
  rw [Bool.and_eq_true, Bool.and_eq_true, decide_eq_true_eq, decide_eq_true_eq, and_assoc]

/-- The last states, each once. -/
def lastO (A : Au) : List Int := ((List.range A.st.toNat).filter fun (s : Nat) => decide ((s : Int) ∈ A.la)).map fun (s : Nat) => (s : Int)
theorem lastO_mem {A : Au} (h : ∀ s ∈ A.la, 0 ≤ s ∧ s < A.st) (s : Int) : s ∈ lastO A ↔ s ∈ A.la := by
  unfold lastO
  simp only [List.mem_map, List.mem_filter, List.mem_range, decide_eq_true_eq]
  constructor
  · rintro ⟨k, ⟨_, h2⟩, rfl⟩; exact h2
  · intro hs
    have := h s hs
    exact ⟨s.toNat, ⟨by omega, by rw [Int.toNat_of_nonneg this.1]; exact hs⟩, Int.toNat_of_nonneg this.1⟩
theorem lastO_len (A : Au) : (lastO A).length ≤ A.st.toNat := by
  unfold lastO
  rw [List.length_map]
  exact Nat.le_trans (List.length_filter_le _ _) (by simp)

/-- Both at once. -/
def twoI (q s r : Int) : Int := s * q + r
def alike (m n : Mv) : Bool := decide (m.name = n.name) && decide (m.frm.length = n.frm.length)
/-- One beside the other. -/
def shMv (k : Int) (m : Mv) : Mv := ⟨m.name, m.frm.map (k + ·), k + m.to⟩
def smA (A B : Au) : Au := ⟨A.st + B.st, A.mv.map (shMv 0) ++ B.mv.map (shMv A.st), (lastO A).map (0 + ·) ++ (lastO B).map (A.st + ·)⟩

/-- A piece of memory of both. -/
def Rl (p q : Int) (x a b : List Bool) : Prop := ∀ s r : Int, (0 ≤ s ∧ s < p) → (0 ≤ r ∧ r < q) → bitAt x (twoI q s r) = (bitAt a s && bitAt b r)
def RlL (p q : Int) : List (List Bool) → List (List Bool) → List (List Bool) → Prop
  | [], [], [] => True
  | x :: X, a :: A, b :: B => Rl p q x a b ∧ RlL p q X A B
  | _, _, _ => False
theorem RlL.len {p q : Int} : ∀ {X A B : List (List Bool)}, RlL p q X A B → X.length = A.length ∧ X.length = B.length
  | [], [], [], _ => ⟨rfl, rfl⟩
  | x :: X, a :: A, b :: B, h => by have := RlL.len h.2; simp [this.1, this.2]; omega
  | [], [], _ :: _, h => h.elim
  | [], _ :: _, _, h => h.elim
  | _ :: _, [], _, h => h.elim
  | _ :: _, _ :: _, [], h => h.elim
/-- A piece of memory of one beside the other. -/
def Rs (p q : Int) (x a b : List Bool) : Prop := (∀ s : Int, (0 ≤ s ∧ s < p) → bitAt x s = bitAt a s) ∧ ∀ r : Int, (0 ≤ r ∧ r < q) → bitAt x (p + r) = bitAt b r
def RsL (p q : Int) : List (List Bool) → List (List Bool) → List (List Bool) → Prop
  | [], [], [] => True
  | x :: X, a :: A, b :: B => Rs p q x a b ∧ RsL p q X A B
  | _, _, _ => False
theorem RsL.len {p q : Int} : ∀ {X A B : List (List Bool)}, RsL p q X A B → X.length = A.length ∧ X.length = B.length
  | [], [], [], _ => ⟨rfl, rfl⟩
  | x :: X, a :: A, b :: B, h => by have := RsL.len h.2; simp [this.1, this.2]; omega
  | [], [], _ :: _, h => h.elim
  | [], _ :: _, _, h => h.elim
  | _ :: _, [], _, h => h.elim
  | _ :: _, _ :: _, [], h => h.elim
theorem go_sm1 {p q : Int} : ∀ {X A B : List (List Bool)} {f : List Int}, RsL p q X A B → (∀ s ∈ f, 0 ≤ s ∧ s < p) → goB X (f.map (0 + ·)) = goB A f
  | [], [], [], f, _, _ => by cases f <;> rfl
  | x :: X, a :: A, b :: B, [], h, _ => rfl
  | x :: X, a :: A, b :: B, s :: f, h, h1 => by
    rw [List.map_cons, goB, goB, go_sm1 h.2 (fun s hs => h1 s (List.mem_cons_of_mem _ hs)), Int.zero_add, h.1.1 s (h1 s (by simp))]
  | [], [], _ :: _, _, h, _ => h.elim
  | [], _ :: _, _, _, h, _ => h.elim
  | _ :: _, [], _, _, h, _ => h.elim
  | _ :: _, _ :: _, [], _, h, _ => h.elim
theorem go_sm2 {p q : Int} : ∀ {X A B : List (List Bool)} {f : List Int}, RsL p q X A B → (∀ s ∈ f, 0 ≤ s ∧ s < q) → goB X (f.map (p + ·)) = goB B f
  | [], [], [], f, _, _ => by cases f <;> rfl
  | x :: X, a :: A, b :: B, [], h, _ => rfl
  | x :: X, a :: A, b :: B, s :: f, h, h1 => by
    rw [List.map_cons, goB, goB, go_sm2 h.2 (fun s hs => h1 s (List.mem_cons_of_mem _ hs)), h.1.2 s (h1 s (by simp))]
  | [], [], _ :: _, _, h, _ => h.elim
  | [], _ :: _, _, _, h, _ => h.elim
  | _ :: _, [], _, _, h, _ => h.elim
  | _ :: _, _ :: _, [], _, h, _ => h.elim
def smMvs (p : Int) (ms ns : List Mv) : List Mv := ms.map (shMv 0) ++ ns.map (shMv p)
theorem end_sm {p q : Int} {ms ns : List Mv} (hm : ∀ m ∈ ms, OkMv p m) (hn : ∀ m ∈ ns, OkMv q m) {X A B : List (List Bool)} (h : RsL p q X A B) (name : ByteArray) (k : Nat) :
    ((k : Int) < p → endB (smMvs p ms ns) name X k = endB ms name A k) ∧ (∀ r : Nat, (k : Int) = p + r → endB (smMvs p ms ns) name X k = endB ns name B r) := by
  have hl := h.len
  have key : endB (smMvs p ms ns) name X k = true ↔ (∃ m ∈ ms, mvB name A m = true ∧ m.to = (k : Int)) ∨ (∃ m ∈ ns, mvB name B m = true ∧ p + m.to = (k : Int)) := by
    rw [endB_iff]
    unfold smMvs
    constructor
    · rintro ⟨x, hx, hb, ht⟩
      rw [mvB_iff] at hb
      rcases List.mem_append.1 hx with hx | hx
      · obtain ⟨m, h1, rfl⟩ := List.mem_map.1 hx
        obtain ⟨b1, b2, b3⟩ := hb
        have b3' : goB X (m.frm.map (0 + ·)) = true := b3
        rw [go_sm1 h (hm m h1).frm] at b3'
        have b2' : (m.frm.map (0 + ·)).length = X.length := b2
        rw [List.length_map] at b2'
        have ht' : 0 + m.to = (k : Int) := ht
        exact Or.inl ⟨m, h1, mvB_iff.2 ⟨b1, by omega, b3'⟩, by omega⟩
      · obtain ⟨m, h1, rfl⟩ := List.mem_map.1 hx
        obtain ⟨b1, b2, b3⟩ := hb
        have b3' : goB X (m.frm.map (p + ·)) = true := b3
        rw [go_sm2 h (hn m h1).frm] at b3'
        have b2' : (m.frm.map (p + ·)).length = X.length := b2
        rw [List.length_map] at b2'
        exact Or.inr ⟨m, h1, mvB_iff.2 ⟨b1, by omega, b3'⟩, ht⟩
    · rintro (⟨m, h1, hb, ht⟩ | ⟨m, h1, hb, ht⟩)
      · rw [mvB_iff] at hb
        obtain ⟨b1, b2, b3⟩ := hb
        refine ⟨shMv 0 m, List.mem_append.2 (Or.inl (List.mem_map.2 ⟨m, h1, rfl⟩)), mvB_iff.2 ⟨b1, ?_, ?_⟩, ?_⟩
        · show (m.frm.map (0 + ·)).length = _; rw [List.length_map]; omega
        · show goB X (m.frm.map (0 + ·)) = true; rw [go_sm1 h (hm m h1).frm]; exact b3
        · show 0 + m.to = _; omega
      · rw [mvB_iff] at hb
        obtain ⟨b1, b2, b3⟩ := hb
        refine ⟨shMv p m, List.mem_append.2 (Or.inr (List.mem_map.2 ⟨m, h1, rfl⟩)), mvB_iff.2 ⟨b1, ?_, ?_⟩, ht⟩
        · show (m.frm.map (p + ·)).length = _; rw [List.length_map]; omega
        · show goB X (m.frm.map (p + ·)) = true; rw [go_sm2 h (hn m h1).frm]; exact b3
  constructor
  · intro hk
    rw [Bool.eq_iff_iff, key, endB_iff]
    constructor
    · rintro (h1 | ⟨m, h1, _, ht⟩)
      · exact h1
      · have := (hn m h1).to; omega
    · exact Or.inl
  · intro r hk
    rw [Bool.eq_iff_iff, key, endB_iff]
    constructor
    · rintro (⟨m, h1, _, ht⟩ | ⟨m, h1, hb, ht⟩)
      · have := (hm m h1).to; omega
      · exact ⟨m, h1, hb, by omega⟩
    · rintro ⟨m, h1, hb, ht⟩
      exact Or.inr ⟨m, h1, hb, by omega⟩
theorem rs_edg {p q : Int} (hp : 0 ≤ p) (hq : 0 ≤ q) {ms ns : List Mv} (hm : ∀ m ∈ ms, OkMv p m) (hn : ∀ m ∈ ns, OkMv q m) {X A B : List (List Bool)} (h : RsL p q X A B) (name : ByteArray) :
    Rs p q (edgT (smMvs p ms ns) (p + q).toNat name X) (edgT ms p.toNat name A) (edgT ns q.toNat name B) := by
  constructor
  · intro s hs
    obtain ⟨s', rfl⟩ : ∃ s' : Nat, s = s' := ⟨s.toNat, by omega⟩
    rw [bit_edg (by omega), bit_edg (by omega)]
    exact (end_sm hm hn h name s').1 hs.2
  · intro r hr
    obtain ⟨r', rfl⟩ : ∃ r' : Nat, r = r' := ⟨r.toNat, by omega⟩
    obtain ⟨k, hk⟩ : ∃ k : Nat, (k : Int) = p + r' := ⟨(p + r').toNat, by omega⟩
    rw [← hk, bit_edg (by omega), bit_edg (by omega)]
    exact (end_sm hm hn h name k).2 r' hk
theorem rs_ends {p q : Int} (hp : 0 ≤ p) (hq : 0 ≤ q) {ms ns : List Mv} (hm : ∀ m ∈ ms, OkMv p m) (hn : ∀ m ∈ ns, OkMv q m) (l : List Tm) : RsL p q (endsL (smMvs p ms ns) (p + q).toNat l) (endsL ms p.toNat l) (endsL ns q.toNat l) := by
  induction l using Tm.indL with
  | h0 => simp [endsL, RsL]
  | h s l r ih1 ih2 =>
    simp only [endsL]
    exact ⟨rs_edg hp hq hm hn ih1 s, ih2⟩
end Go.Proofs.Ytfodgmnnjgcpgaa
