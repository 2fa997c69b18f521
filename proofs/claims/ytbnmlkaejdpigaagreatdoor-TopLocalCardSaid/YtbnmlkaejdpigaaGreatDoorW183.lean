import Derived.Test.YtbnmlkaejdpigaaGreatDoorZTopLocalOwn
import Derived.Test.YtbnmlkaejdpigaaGreatDoorW180
import Derived.Test.YtbnmlkaejdpigaaGreatDoorW182
import Derived.Deep.RegionHeld3
namespace Go.Proofs.YtbnmlkaejdpigaaGreatDoor
open Go.RowKit Go.Shelf
set_option linter.unusedSimpArgs false
set_option linter.unusedVariables false
set_option maxRecDepth 8000
def OldNew (w : World) (X : Nat → Prop) (b : Nat) : Prop := (X b ∧ b < w.heap.size) ∨ w.heap.size ≤ b
def OldNew2 (w : World) (X : Nat → Prop) (b : Nat) : Prop := (X b ∧ b < w.heap.size) ∨ w.heap.size + 2 ≤ b
def InPost (rs : List Pr) (C : Tm → Tm) (m d k : Nat) (t0 : Tm) (X : Nat → Prop) (I : Nat) (ua : Option Addr) (uc : Nat) (w : World) (e : Ending) (w' : World) : Prop :=
 ExQ (fun b => b = I) w w' ∧ ∃ (x : Tm) (a : Option Addr) (c : Nat) (er : Int), e = .returned (.tuple #[.agg #[.string x.name, .slice a x.args.length c], .int .i64 er]) ∧ Sl w' (OldNew w X) a x.args ∧
  ((er = 0 ∧ ∃ d', InOk rs C m d t0 x d' ∧ Blk w' I #[.slice ua rs.length uc, .int .i64 (m : Int), .int .i64 (d' : Int), .int .i64 ((sizeL [x] + k : Nat) : Int)] 95) ∨ ((er = 8 ∨ er = 9) ∧ x = ⟨⟨#[]⟩, []⟩ ∧ endP rs true (m - d) (C t0) = (er, ⟨⟨#[]⟩, []⟩, 0)))
def MapV (w : World) (X : Nat → Prop) (mv : Option Nat) (ls : List Bd) : Prop := (mv = none ∧ ls = []) ∨ ∃ q L, mv = some q ∧ EnvR w q X ls L
def EndC (rs : List Pr) (ua : Option Addr) (uc I m f : Nat) : Prop :=
 ∀ (C : Tm → Tm) (k d : Nat) (t : Tm) (ls : List Bd) (mv : Option Nat) (a : Option Addr) (c : Nat) (w : World) (X : Nat → Prop), CtxZ rs C k → m - d ≤ f → d ≤ m → QV w X (.slice ua rs.length uc) rs → Sl w X a t.args → MapV w X mv ls → Within ls (noStep rs) → (∀ b, X b → b ≠ I) → sizeL [gT ls t] + k ≤ 2000 → sizeL [t] ≤ 2000 → Blk w I #[.slice ua rs.length uc, .int .i64 (m : Int), .int .i64 (d : Int), .int .i64 ((sizeL [gT ls t] + k : Nat) : Int)] 95 →
  Calls Tryz.prog 53 #[.pointer (some ⟨I, 0, none⟩), .agg #[.string t.name, .slice a t.args.length c], .map mv] w fun e w' => InPost rs C m d k (gT ls t) X I ua uc w e w'
def KnotC (rs : List Pr) (ua : Option Addr) (uc I m f : Nat) : Prop :=
 ∀ (C : Tm → Tm) (k d : Nat) (t : Tm) (a : Option Addr) (c : Nat) (w : World) (X : Nat → Prop), CtxZ rs C k → m - d ≤ f → d ≤ m → QV w X (.slice ua rs.length uc) rs → Sl w X a t.args → (∀ y ∈ t.args, noStep rs y) → (∀ b, X b → b ≠ I) → sizeL [t] + k ≤ 2000 → Blk w I #[.slice ua rs.length uc, .int .i64 (m : Int), .int .i64 (d : Int), .int .i64 ((sizeL [t] + k : Nat) : Int)] 95 →
  Calls Tryz.prog 77 #[.pointer (some ⟨I, 0, none⟩), .agg #[.string t.name, .slice a t.args.length c]] w fun e w' => InPost rs C m d k t X I ua uc w e w'
def FiR (rs : List Pr) (t : Tm) (Y : Nat → Prop) (fs : ByteArray) (fa : Option Addr) (fn fc : Nat) (fm : Option Nat) (ok : Bool) (w : World) : Prop :=
 (fitsL rs t = [] ∧ ok = false) ∨ ∃ (y : Ft) (q : Nat) (L : List (ByteArray × Value)), [y] <+: fitsL rs t ∧ ok = true ∧ fs = y.1.r.name ∧ fn = y.1.r.args.length ∧ fm = some q ∧ Y q ∧ q < w.heap.size ∧ Sl w Y fa y.1.r.args ∧ EnvR w q Y y.2 L
theorem FiR.kept {rs : List Pr} {t : Tm} {Y : Nat → Prop} {fs : ByteArray} {fa : Option Addr} {fn fc : Nat} {fm : Option Nat} {ok : Bool} {w w' : World} (h : FiR rs t Y fs fa fn fc fm ok w) (hz : w.heap.size ≤ w'.heap.size) (hk : ∀ b, Y b → b < w.heap.size → w'.heap[b]? = w.heap[b]?) : FiR rs t Y fs fa fn fc fm ok w' := by
 rcases h with h | ⟨y, q, L, h1, h2, h3, h4, h5, hY, hq, h6, h7⟩
 ·exact Or.inl h
 ·have ks : ∀ a l, Sl w Y a l → Sl w' Y a l := fun a l hs => ((hs.mono (Y := fun b => Y b ∧ b < w.heap.size) fun b h1 h2 => ⟨h1, h2⟩).kept fun b hb => hk b hb.1 hb.2).mono fun b hb _ => hb.1
  exact Or.inr ⟨y, q, L, h1, h2, h3, h4, h5, hY, by omega, ks _ _ h6, h7.1.kept (hk q hY hq), h7.2.imp ks⟩
theorem FiR.mono {rs : List Pr} {t : Tm} {Y Y' : Nat → Prop} {fs : ByteArray} {fa : Option Addr} {fn fc : Nat} {fm : Option Nat} {ok : Bool} {w : World} (h : FiR rs t Y fs fa fn fc fm ok w) (hk : ∀ b, Y b → b < w.heap.size → Y' b) : FiR rs t Y' fs fa fn fc fm ok w := by
 rcases h with h | ⟨y, q, L, h1, h2, h3, h4, h5, hY, hq, h6, h7⟩
 ·exact Or.inl h
 ·exact Or.inr ⟨y, q, L, h1, h2, h3, h4, h5, hk q hY hq, hq, h6.mono hk, h7.1, h7.2.imp fun a l hs => hs.mono hk⟩
theorem firstX_any (rs : List Pr) (t : Tm) (R T N0 NB : Nat) (uv : Value) (aa : Option Addr) (ca : Nat) (w : World) (X : Nat → Prop) (hR : Blk w R #[uv] 22) (hu : QV w X uv rs) (hT : Blk w T #[.string t.name, .slice aa t.args.length ca] 32) (hs : Sl w X aa t.args) (hX : ∀ b, X b → b < N0) (hN : N0 ≤ R ∧ N0 ≤ T ∧ NB ≠ R ∧ NB ≠ T ∧ N0 ≤ NB) :
  Calls Tryz.prog 93 #[.func (.func 113) #[] #[.pointer (some ⟨R, 0, none⟩), .pointer (some ⟨T, 0, none⟩)]] w fun e w' => ∃ fs fa fn fc fm ok, e = .returned (.tuple #[.agg #[.string fs, .slice fa fn fc, .map fm], .bool ok]) ∧ Below w.heap.size w w' ∧ FiR rs t (fun b => (X b ∨ N0 ≤ b) ∧ (b ≠ NB ∨ w.heap.size ≤ b)) fs fa fn fc fm ok w' := by
 have hRl := hR.lt
 have hTl := hT.lt
 refine (firstF_any rs t R T uv aa ca w X (fun b => b < w.heap.size ∧ ¬ X b ∧ (b < N0 ∨ b = NB)) hR hu hT hs (fun b hb => ⟨by have := hX b hb; omega, fun h => h.2.1 hb⟩) (fun b hb => ⟨hb.1, fun e => by rcases hb.2.2 with h | h <;> omega, fun e => by rcases hb.2.2 with h | h <;> omega⟩)).mono ?_
 rintro e w' ⟨hb, ⟨h1, rfl⟩ | ⟨y, cs, Z, h1, rfl, hl, hZ⟩⟩
 ·exact ⟨_, _, _, _, _, false, rfl, hb, Or.inl ⟨h1, rfl⟩⟩
 ·obtain ⟨ra, rc, q, L, e1, hra, hq, hen⟩ := hl
  simp at e1
  subst e1
  have hzz : ∀ b, Z b → b < w'.heap.size → ((X b ∨ N0 ≤ b) ∧ (b ≠ NB ∨ w.heap.size ≤ b)) := fun b hb _ => by
   have h := (hZ b hb).2
   by_cases hx : X b
   ·exact ⟨Or.inl hx, by have := hX b hx; left; omega⟩
   ·by_cases hbw : b < w.heap.size
    ·have h2 : ¬ (b < N0 ∨ b = NB) := fun h3 => h ⟨hbw, hx, h3⟩
     exact ⟨Or.inr (by omega), Or.inl (by omega)⟩
    ·exact ⟨Or.inr (by omega), Or.inr (by omega)⟩
  exact ⟨_, _, _, _, _, true, rfl, hb, Or.inr ⟨y, q, L, h1, rfl, rfl, rfl, rfl, hzz q hq (hZ q hq).1, (hZ q hq).1, hra.mono hzz, hen.1, hen.2.imp fun a l hs => hs.mono hzz⟩⟩
def FiW (rs : List Pr) (t : Tm) (X : Nat → Prop) (w w1 : World) (o v : Value) (wc : World) : Prop :=
 ∃ (B : Nat) (fs : ByteArray) (fa : Option Addr) (fn fc : Nat) (fm : Option Nat) (ok : Bool), o = .pointer (some ⟨B, 0, none⟩) ∧ v = .bool ok ∧ w1.heap.size ≤ B ∧ Below w1.heap.size w1 wc ∧ Blk wc B #[.string fs, .slice fa fn fc, .map fm] 144 ∧ FiR rs t (fun b => OldNew2 w X b ∧ b ≠ B) fs fa fn fc fm ok wc
theorem fiW_A {rs : List Pr} {t : Tm} {X : Nat → Prop} {w w1 w5 w6 : World} {fs : ByteArray} {fa : Option Addr} {fn fc : Nat} {fm : Option Nat} {ok : Bool} (hw1 : w.heap.size + 2 ≤ w1.heap.size) (hXw : ∀ b, X b → b < w.heap.size) (h5 : Below w1.heap.size w1 w5) (hb : Below w5.heap.size w5 w6) {NB : Nat} (hr : FiR rs t (fun b => (X b ∨ w.heap.size + 2 ≤ b) ∧ (b ≠ NB ∨ w5.heap.size ≤ b)) fs fa fn fc fm ok w6) :
  FiW rs t X w w1 (.pointer (some ⟨w6.heap.size, 0, none⟩)) (.bool ok) (w6.alloc (.cells #[.string fs, .slice fa fn fc, .map fm] 144)) := by
 have h1 := h5.size
 have h2 := hb.size
 refine ⟨w6.heap.size, fs, fa, fn, fc, fm, ok, rfl, rfl, by omega, (h5.trans (hb.mono h5.size)).alloc (by omega) _, Blk.new w6 _ _, ?_⟩
 refine (hr.mono (Y' := fun b => OldNew2 w X b ∧ b ≠ w6.heap.size) fun b hb hl => ⟨?_, by omega⟩).kept (by simp) fun b _ hl => Below.heap_alloc _ _ _ hl
 rcases hb.1 with h | h
 ·exact Or.inl ⟨h, hXw b h⟩
 ·exact Or.inr h
theorem fiW_B {rs : List Pr} {t : Tm} {X : Nat → Prop} {w w1 w5 w6 : World} {B : Nat} {fs : ByteArray} {fa : Option Addr} {fn fc : Nat} {fm : Option Nat} {ok : Bool} (hw1 : w.heap.size + 2 ≤ w1.heap.size) (hXw : ∀ b, X b → b < w.heap.size) (h5 : Below w1.heap.size w1 w5) (hb : Below w5.heap.size w5 w6) (hB : w1.heap.size ≤ B) (hBl : B < w5.heap.size) (hz : Blk w6 B #[.string ⟨#[]⟩, .slice none 0 0, .map none] 144) (hr : FiR rs t (fun b => (X b ∨ w.heap.size + 2 ≤ b) ∧ (b ≠ B ∨ w5.heap.size ≤ b)) fs fa fn fc fm ok w6) :
  Below w1.heap.size w1 (((w6.setCell ⟨B, 0, none⟩ (.string fs)).setCell ⟨B, 1, none⟩ (.slice fa fn fc)).setCell ⟨B, 2, none⟩ (.map fm)) ∧ FiW rs t X w w1 (.pointer (some ⟨B, 0, none⟩)) (.bool ok) (((w6.setCell ⟨B, 0, none⟩ (.string fs)).setCell ⟨B, 1, none⟩ (.slice fa fn fc)).setCell ⟨B, 2, none⟩ (.map fm)) := by
 have h1 := h5.size
 have h2 := hb.size
 have hb2 : Below w1.heap.size w1 (((w6.setCell ⟨B, 0, none⟩ (.string fs)).setCell ⟨B, 1, none⟩ (.slice fa fn fc)).setCell ⟨B, 2, none⟩ (.map fm)) := (((h5.trans (hb.mono h5.size)).setCell (by simpa using hB) _).setCell (by simpa using hB) _).setCell (by simpa using hB) _
 refine ⟨hb2, B, fs, fa, fn, fc, fm, ok, rfl, rfl, hB, hb2, ((hz.set 0 _).set 1 _).set 2 _, ?_⟩
 refine (hr.mono (Y' := fun b => OldNew2 w X b ∧ b ≠ B) fun b hb hl => ⟨?_, by omega⟩).kept (by simp [World.setCell]) fun b hb _ => ?_
 ·rcases hb.1 with h | h
  ·exact Or.inl ⟨h, hXw b h⟩
  ·exact Or.inr h
 ·have hne := hb.2
  rw [Below.heap_setCell _ _ _ _ (by simpa using hne), Below.heap_setCell _ _ _ _ (by simpa using hne), Below.heap_setCell _ _ _ _ (by simpa using hne)]
structure KnS (rs : List Pr) (t : Tm) (X : Nat → Prop) (I : Nat) (ua : Option Addr) (uc m d z : Nat) (a : Option Addr) (c : Nat) (w w' : World) : Prop where
 inn : Blk w' I #[.slice ua rs.length uc, .int .i64 (m : Int), .int .i64 (d : Int), .int .i64 (z : Int)] 95
 box : Blk w' w.heap.size #[.string t.name, .slice a t.args.length c] 32
 res : Blk w' (w.heap.size + 1) #[.string ⟨#[]⟩, .slice none 0 0] 32
 qv : QV w' X (.slice ua rs.length uc) rs
 sl : Sl w' X a t.args
 lt : w.heap.size + 2 ≤ w'.heap.size
theorem KnS.below {rs : List Pr} {t : Tm} {X : Nat → Prop} {I : Nat} {ua : Option Addr} {uc m d z : Nat} {a : Option Addr} {c : Nat} {w w1 w2 : World} (h : KnS rs t X I ua uc m d z a c w w1) (hb : Below w1.heap.size w1 w2) : KnS rs t X I ua uc m d z a c w w2 :=
 ⟨h.inn.below hb h.inn.lt, h.box.below hb h.box.lt, h.res.below hb h.res.lt, h.qv.later hb, h.sl.later hb, by have := hb.size; have := h.lt; omega⟩
structure K7 (rs : List Pr) (t : Tm) (X : Nat → Prop) (I : Nat) (ua : Option Addr) (uc m d z : Nat) (a : Option Addr) (c : Nat) (w : World) (B : Nat) (y : Ft) (fa : Option Addr) (fc q : Nat) (L : List (ByteArray × Value)) (w' : World) : Prop where
 kn : KnS rs t X I ua uc m d z a c w w'
 bx : Blk w' B #[.string y.1.r.name, .slice fa y.1.r.args.length fc, .map (some q)] 144
 ra : Sl w' (fun b => OldNew2 w X b ∧ b ≠ B) fa y.1.r.args
 en : EnvR w' q (fun b => OldNew2 w X b ∧ b ≠ B) y.2 L
theorem K7.below {rs : List Pr} {t : Tm} {X : Nat → Prop} {I : Nat} {ua : Option Addr} {uc m d z : Nat} {a : Option Addr} {c : Nat} {w : World} {B : Nat} {y : Ft} {fa : Option Addr} {fc q : Nat} {L : List (ByteArray × Value)} {w1 w2 : World} (h : K7 rs t X I ua uc m d z a c w B y fa fc q L w1) (hb : Below w1.heap.size w1 w2) : K7 rs t X I ua uc m d z a c w B y fa fc q L w2 :=
 ⟨h.kn.below hb, h.bx.below hb h.bx.lt, h.ra.later hb, h.en.later hb⟩
theorem K7.set {rs : List Pr} {t : Tm} {X : Nat → Prop} {I : Nat} {ua : Option Addr} {uc m d z d1 z1 : Nat} {a : Option Addr} {c : Nat} {w : World} {B : Nat} {y : Ft} {fa : Option Addr} {fc q : Nat} {L : List (ByteArray × Value)} {w1 : World} (h : K7 rs t X I ua uc m d z a c w B y fa fc q L w1) (hI : I < w.heap.size) (hB : w.heap.size ≤ B) (hX : ∀ b, X b → b ≠ I) (hq : OldNew2 w X q ∧ q ≠ B) (i : Nat) (v : Value) (hc : (#[.slice ua rs.length uc, .int .i64 (m : Int), .int .i64 (d : Int), .int .i64 (z : Int)] : Array Value).setIfInBounds i v = #[.slice ua rs.length uc, .int .i64 (m : Int), .int .i64 (d1 : Int), .int .i64 (z1 : Int)]) : K7 rs t X I ua uc m d1 z1 a c w B y fa fc q L (w1.setCell ⟨I, i, none⟩ v) := by
 have hY : ∀ b, OldNew2 w X b ∧ b ≠ B → b ≠ I := fun b hb => by
  rcases hb.1 with h | h
  ·exact hX b h.1
  ·omega
 have k : ∀ b, b ≠ I → (w1.setCell ⟨I, i, none⟩ v).heap[b]? = w1.heap[b]? := fun b hb => Below.heap_setCell _ _ _ _ (by simpa using hb)
 refine ⟨⟨?_, h.kn.box.setOther _ _ (by omega), h.kn.res.setOther _ _ (by omega), h.kn.qv.kept fun b hb => k b (hX b hb), h.kn.sl.kept fun b hb => k b (hX b hb), by have := h.kn.lt; simp [World.setCell]; omega⟩, h.bx.setOther _ _ (by omega), h.ra.kept fun b hb => k b (hY b hb), h.en.1.kept (k q (hY q hq)), h.en.2.imp fun a l hs => hs.kept fun b hb => k b (hY b hb)⟩
 have h1 := h.kn.inn.set i v
 rw [hc] at h1
 exact h1
def S7 (t : Tm) (a : Option Addr) (c : Nat) (w : World) (B : Nat) (y : Ft) (fa : Option Addr) (fc q : Nat) (w' : World) : Prop := Blk w' w.heap.size #[.string t.name, .slice a t.args.length c] 32 ∧ Blk w' B #[.string y.1.r.name, .slice fa y.1.r.args.length fc, .map (some q)] 144
def C7 (rs : List Pr) (t : Tm) (X : Nat → Prop) (I : Nat) (ua : Option Addr) (uc m d z : Nat) (a : Option Addr) (c : Nat) (w : World) (B : Nat) (y : Ft) (fa : Option Addr) (fc q : Nat) (L : List (ByteArray × Value)) (w' : World) : Prop :=
 ∃ kc z2 : Nat, CtN kc (0 + sizeL [gT y.2 y.1.r]) ∧ z2 + sizeL [t] = z + kc ∧ K7 rs t X I ua uc m (d + 1) z2 a c w B y fa fc q L w' ∧ ExQ (fun b => b = I) w w'
set_option maxHeartbeats 8000000 in
theorem knot_of (rs : List Pr) (hr : ∀ p ∈ rs, ruleE p = 0) (ua : Option Addr) (uc I m f : Nat) (hm : m ≤ 400) (hE : ∀ f', f' < f → EndC rs ua uc I m f') : KnotC rs ua uc I m f := by
 intro C k d t a c w X0 hC hf hd hu0 hs0 hno hX0 hz hI
 obtain ⟨X, hXX, hX, hXw, hu, hs⟩ : ∃ X : Nat → Prop, (∀ b, X b → X0 b) ∧ (∀ b, X b → b ≠ I) ∧ (∀ b, X b → b < w.heap.size) ∧ QV w X (.slice ua rs.length uc) rs ∧ Sl w X a t.args := ⟨fun b => X0 b ∧ b < w.heap.size, fun _ h => h.1, fun b h => hX0 b h.1, fun _ h => h.2, hu0.mono fun b h1 h2 => ⟨h1, h2⟩, hs0.mono fun b h1 h2 => ⟨h1, h2⟩⟩
 have HXX := hide hXX
 have HX := hide hX
 have HXW := hide hXw
 have HC := hide hC
 have HE := hide hE
 have HNO := hide hno
 have HR := hide hr
 have hIl := hI.lt
 have HI := hide hI
 have hz4 : sizeL [t] ≤ 2000 := by omega
 obtain ⟨z, hzz⟩ : ∃ z, z = sizeL [t] + k := ⟨_, rfl⟩
 have HZ := hide hzz
 have hz2 : z ≤ 2000 := by omega
 have HU := hide hu
 have HS := hide hs
 clear hXX hX hXw hC hE hno hr hI hu hs hX0 hu0 hs0 hz
 rw [← hzz] at HI
 clear hzz
 have HW : Hid (∃ W, W = (w.alloc (.cells #[.string t.name, .slice a t.args.length c] 32)).alloc (.cells #[.string ⟨#[]⟩, .slice none 0 0] 32) ∧ KnS rs t X I ua uc m d z a c w W ∧ Below w.heap.size w W) := by
  have hb := below2 (w := w) (.cells #[.string t.name, .slice a t.args.length c] 32) (.cells #[.string ⟨#[]⟩, .slice none 0 0] 32)
  refine ⟨_, rfl, ⟨HI.out.below hb hIl, (Blk.new w _ _).alloc _, ?_, HU.out.later hb, HS.out.later hb, by simp⟩, hb⟩
  have h := Blk.new (w.alloc (.cells #[.string t.name, .slice a t.args.length c] 32)) #[.string ⟨#[]⟩, .slice none 0 0] 32
  rw [World.size_alloc] at h
  exact h
 go_enter Tryz.func77, Tryz.ntmps77
 go_upto_region 1 with fail
 obtain ⟨w1, hw1, ks1, bw1⟩ := HW.out
 rw [← hw1]
 clear HW hw1
 have K1 := hide ks1
 have B1 := hide bw1
 have hl1 : w.heap.size + 2 ≤ w1.heap.size := ks1.lt
 clear ks1 bw1 HI HU HS
 go_cut [6, 7] (fun o v wc => FiW rs t X w w1 o v wc)
 case first =>
  have BD : Hid (Below w1.heap.size w1 w1.drew) := below_drewN (Below.refl _ _) 1
  have KD := hide (K1.out.below BD.out)
  refine wp_region_held_drew (S := KnS rs t X I ua uc m d z a c w) (by kernel_rfl) KD.out (fun hHeld => ?_)
  refine tkq (v := ?_) 0 rfl ?_ ?_
  rotate_left
  ·intro w' hSw
   go_simp <;> with_reducible rfl
  try simp only [Act.put, sq]
  refine tkq (v := ?_) 1 rfl ?_ ?_
  rotate_left
  ·intro w' hSw
   have il : I < w'.heap.size := hSw.inn.lt
   go_simp <;> with_reducible rfl
  try simp only [Act.put, sq]
  refine tkq (v := ?_) 2 rfl ?_ ?_
  rotate_left
  ·intro w' hSw
   have il : I < w'.heap.size := hSw.inn.lt
   go_simp <;> with_reducible rfl
  try simp only [Act.put, sq]
  refine tkq (v := ?_) 3 rfl ?_ ?_
  rotate_left
  ·intro w' hSw
   have i0 : w'.cell? ⟨I, 0, none⟩ = some (.slice ua rs.length uc) := hSw.inn.cell 0
   go_simp <;> with_reducible rfl
  try simp only [Act.put, sq]
  refine tkq (v := ?_) 4 rfl ?_ ?_
  rotate_left
  ·intro w' hSw
   have c0 : w'.cell? ⟨w.heap.size, 0, none⟩ = some (.string t.name) := hSw.box.cell 0
   have c1 : w'.cell? ⟨w.heap.size, 1, none⟩ = some (.slice a t.args.length c) := hSw.box.cell 1
   go_simp <;> with_reducible rfl
  try simp only [Act.put, sq]
  generalize w1.drew = wd at *
  have hld : w1.heap.size ≤ wd.heap.size := BD.out.size
  refine wpAnyH_ready (rs := [5, 10]) (by kernel_rfl) (by simp) ?_
  refine AllReadyH.cons rfl (fun K hK => ?_) (AllReadyH.cons rfl (fun K hK => ?_) AllReadyH.nil)
  ·go_simp
   go_at_call 94
   refine (stepsFits_any _ ⟨_, _, _, rfl⟩ _ _ _ _ _).mono ?_
   rintro e w5 ⟨rfl, rfl⟩
   have b5 : Below wd.heap.size wd ((wd.alloc (.cells #[.slice ua rs.length uc] 22)).alloc (.cells #[.string t.name, .slice a t.args.length c] 32)) := below2 _ _
   have k5 := KD.out.below b5
   have R5 : Blk ((wd.alloc (.cells #[.slice ua rs.length uc] 22)).alloc (.cells #[.string t.name, .slice a t.args.length c] 32)) wd.heap.size #[.slice ua rs.length uc] 22 := (Blk.new wd _ _).alloc _
   have T5 : Blk ((wd.alloc (.cells #[.slice ua rs.length uc] 22)).alloc (.cells #[.string t.name, .slice a t.args.length c] 32)) (wd.heap.size + 1) #[.string t.name, .slice a t.args.length c] 32 := by
    have h := Blk.new (wd.alloc (.cells #[.slice ua rs.length uc] 22)) #[.string t.name, .slice a t.args.length c] 32
    rw [World.size_alloc] at h
    exact h
   have z5 : Hid (((wd.alloc (.cells #[.slice ua rs.length uc] 22)).alloc (.cells #[.string t.name, .slice a t.args.length c] 32)).heap.size = wd.heap.size + 2) := by simp [Hid]
   have HR5 := hide R5
   have HT5 := hide T5
   have K5 := hide k5
   have B5 := hide (BD.out.trans (b5.mono BD.out.size))
   clear R5 T5 k5 b5
   generalize ((wd.alloc (.cells #[.slice ua rs.length uc] 22)).alloc (.cells #[.string t.name, .slice a t.args.length c] 32)) = w5 at *
   go_simp
   refine hK.out _ _ (by exact K5.out) (fun hHeld => ?_)
   clear hK K
   try simp only [Act.put, sq]
   refine wpAnyH_ready (rs := [6, 10]) (by kernel_rfl) (by simp) ?_
   refine AllReadyH.cons rfl (fun K hK => ?_) (AllReadyH.cons rfl (fun K hK => ?_) AllReadyH.nil)
   ·go_simp
    go_at_call 93
    refine (firstX_any rs t wd.heap.size (wd.heap.size + 1) (w.heap.size + 2) (wd.heap.size + 2) _ a c w5 X HR5.out K5.out.qv HT5.out K5.out.sl (fun b hb => by have := HXW.out b hb; omega) (by have e0 := z5.out; omega)).mono ?_
    rintro e w6 ⟨fs, fa, fn, fc, fm, ok, rfl, hb6, hr6⟩
    have HR6 := hide hr6
    have HB6 := hide hb6
    clear hr6 hb6
    go_simp
    refine hK.out _ _ (by exact K5.out.below HB6.out) (fun hHeld => ?_)
    clear hK K
    try simp only [Act.put, sq]
    refine tkq (v := ?_) 7 rfl ?_ ?_
    rotate_left
    ·intro w' hSw
     go_simp <;> with_reducible rfl
    try simp only [Act.put, sq]
    refine tkq (v := ?_) 8 rfl ?_ ?_
    rotate_left
    ·intro w' hSw
     go_simp <;> with_reducible rfl
    try simp only [Act.put, sq]
    refine tkq (v := ?_) 9 rfl ?_ ?_
    rotate_left
    ·intro w' hSw
     go_simp <;> with_reducible rfl
    try simp only [Act.put, sq]
    refine rdq 10 rfl fun K hK => ?_
    go_simp
    refine hK.out _ _ (by exact (K5.out.below HB6.out).below ((Below.refl _ _).alloc (Nat.le_refl _) _)) (fun hHeld => ?_)
    clear hK K
    try simp only [Act.put, sq]
    refine rdq 11 rfl fun K hK => ?_
    go_simp
    refine hK.out _ _ (by exact (K5.out.below HB6.out).below ((Below.refl _ _).alloc (Nat.le_refl _) _)) (fun hHeld => ?_)
    clear hK K
    try simp only [Act.put, sq]
    refine tkq (v := ?_) 12 rfl ?_ ?_
    rotate_left
    ·intro w' hSw
     go_simp <;> with_reducible rfl
    try simp only [Act.put, sq]
    refine wpAnyH_done (by kernel_rfl) ?_ _
    go_wp2_with fail
    go_meet
    exact fiW_A hl1 HXW.out B5.out HB6.out HR6.out
   ·go_simp
    refine hK.out _ _ (by exact K5.out.below ((Below.refl _ _).alloc (Nat.le_refl _) _)) (fun hHeld => ?_)
    clear hK K
    try simp only [Act.put, sq]
    have hbA : Below w5.heap.size w5 (w5.alloc (.cells #[.string ⟨#[]⟩, .slice none 0 0, .map none] 144)) := (Below.refl _ _).alloc (Nat.le_refl _) _
    have K5a := hide (K5.out.below hbA)
    have B5a := hide (B5.out.trans (hbA.mono B5.out.size))
    have U5 := hide (Blk.new w5 #[.string ⟨#[]⟩, .slice none 0 0, .map none] 144)
    have HR5a := hide (HR5.out.below hbA HR5.out.lt)
    have HT5a := hide (HT5.out.below hbA HT5.out.lt)
    have z5a : Hid ((w5.alloc (.cells #[.string ⟨#[]⟩, .slice none 0 0, .map none] 144)).heap.size = wd.heap.size + 3) := by have := z5.out; simp [Hid]; omega
    clear hbA
    generalize (w5.alloc (.cells #[.string ⟨#[]⟩, .slice none 0 0, .map none] 144)) = w5a at *
    refine rdq 6 rfl fun K hK => ?_
    go_simp
    go_at_call 93
    refine (firstX_any rs t wd.heap.size (wd.heap.size + 1) (w.heap.size + 2) w5.heap.size _ a c w5a X HR5a.out K5a.out.qv HT5a.out K5a.out.sl (fun b hb => by have := HXW.out b hb; omega) (by have e0 := z5.out; have e1 := z5a.out; omega)).mono ?_
    rintro e w6 ⟨fs, fa, fn, fc, fm, ok, rfl, hb6, hr6⟩
    have HR6 := hide hr6
    have HB6 := hide hb6
    clear hr6 hb6
    go_simp
    refine hK.out _ _ (by exact K5a.out.below HB6.out) (fun hHeld => ?_)
    clear hK K
    try simp only [Act.put, sq]
    refine tkq (v := ?_) 7 rfl ?_ ?_
    rotate_left
    ·intro w' hSw
     go_simp <;> with_reducible rfl
    try simp only [Act.put, sq]
    refine tkq (v := ?_) 8 rfl ?_ ?_
    rotate_left
    ·intro w' hSw
     go_simp <;> with_reducible rfl
    try simp only [Act.put, sq]
    refine tkq (v := ?_) 9 rfl ?_ ?_
    rotate_left
    ·intro w' hSw
     go_simp <;> with_reducible rfl
    try simp only [Act.put, sq]
    have U6 := U5.out.below HB6.out U5.out.lt
    have u0 := U6.c0
    have u1 := U6.c1
    have u2 := U6.c2
    have uf := U6.frozen
    have ul : w5.heap.size < w6.heap.size := U6.lt
    have UP := hide (fiW_B (rs := rs) (t := t) (fc := fc) hl1 HXW.out B5a.out HB6.out (B := w5.heap.size) (by have := B5.out.size; omega) (by have := z5.out; have := z5a.out; omega) U6 HR6.out)
    refine rdq 11 rfl fun K hK => ?_
    go_simp
    refine hK.out _ _ (by exact K1.out.below UP.out.1) (fun hHeld => ?_)
    clear hK K
    try simp only [Act.put, sq]
    refine tkq (v := ?_) 12 rfl ?_ ?_
    rotate_left
    ·intro w' hSw
     go_simp <;> with_reducible rfl
    try simp only [Act.put, sq]
    refine wpAnyH_done (by kernel_rfl) ?_ _
    go_wp2_with fail
    go_meet
    exact UP.out.2
  ·go_simp
   refine hK.out _ _ (by exact KD.out.below ((Below.refl _ _).alloc (Nat.le_refl _) _)) (fun hHeld => ?_)
   clear hK K
   try simp only [Act.put, sq]
   have hbA : Below wd.heap.size wd (wd.alloc (.cells #[.string ⟨#[]⟩, .slice none 0 0, .map none] 144)) := (Below.refl _ _).alloc (Nat.le_refl _) _
   have KA := hide (KD.out.below hbA)
   have BA := hide (BD.out.trans (hbA.mono BD.out.size))
   have U5 := hide (Blk.new wd #[.string ⟨#[]⟩, .slice none 0 0, .map none] 144)
   have za : Hid ((wd.alloc (.cells #[.string ⟨#[]⟩, .slice none 0 0, .map none] 144)).heap.size = wd.heap.size + 1) := by simp [Hid]
   clear hbA
   generalize (wd.alloc (.cells #[.string ⟨#[]⟩, .slice none 0 0, .map none] 144)) = wa at *
   refine rdq 5 rfl fun K hK => ?_
   go_simp
   go_at_call 94
   refine (stepsFits_any _ ⟨_, _, _, rfl⟩ _ _ _ _ _).mono ?_
   rintro e w5 ⟨rfl, rfl⟩
   have b5 : Below wa.heap.size wa ((wa.alloc (.cells #[.slice ua rs.length uc] 22)).alloc (.cells #[.string t.name, .slice a t.args.length c] 32)) := below2 _ _
   have k5 := KA.out.below b5
   have R5 : Blk ((wa.alloc (.cells #[.slice ua rs.length uc] 22)).alloc (.cells #[.string t.name, .slice a t.args.length c] 32)) wa.heap.size #[.slice ua rs.length uc] 22 := (Blk.new wa _ _).alloc _
   have T5 : Blk ((wa.alloc (.cells #[.slice ua rs.length uc] 22)).alloc (.cells #[.string t.name, .slice a t.args.length c] 32)) (wa.heap.size + 1) #[.string t.name, .slice a t.args.length c] 32 := by
    have h := Blk.new (wa.alloc (.cells #[.slice ua rs.length uc] 22)) #[.string t.name, .slice a t.args.length c] 32
    rw [World.size_alloc] at h
    exact h
   have z5 : Hid (((wa.alloc (.cells #[.slice ua rs.length uc] 22)).alloc (.cells #[.string t.name, .slice a t.args.length c] 32)).heap.size = wa.heap.size + 2) := by simp [Hid]
   have HR5 := hide R5
   have HT5 := hide T5
   have K5 := hide k5
   have B5 := hide (BA.out.trans (b5.mono BA.out.size))
   have U5a := hide (U5.out.below b5 U5.out.lt)
   clear R5 T5 k5 b5
   generalize ((wa.alloc (.cells #[.slice ua rs.length uc] 22)).alloc (.cells #[.string t.name, .slice a t.args.length c] 32)) = w5 at *
   go_simp
   refine hK.out _ _ (by exact K5.out) (fun hHeld => ?_)
   clear hK K
   try simp only [Act.put, sq]
   refine rdq 6 rfl fun K hK => ?_
   go_simp
   go_at_call 93
   refine (firstX_any rs t wa.heap.size (wa.heap.size + 1) (w.heap.size + 2) wd.heap.size _ a c w5 X HR5.out K5.out.qv HT5.out K5.out.sl (fun b hb => by have := HXW.out b hb; omega) (by have e0 := z5.out; have e1 := za.out; omega)).mono ?_
   rintro e w6 ⟨fs, fa, fn, fc, fm, ok, rfl, hb6, hr6⟩
   have HR6 := hide hr6
   have HB6 := hide hb6
   clear hr6 hb6
   go_simp
   refine hK.out _ _ (by exact K5.out.below HB6.out) (fun hHeld => ?_)
   clear hK K
   try simp only [Act.put, sq]
   refine tkq (v := ?_) 7 rfl ?_ ?_
   rotate_left
   ·intro w' hSw
    go_simp <;> with_reducible rfl
   try simp only [Act.put, sq]
   refine tkq (v := ?_) 8 rfl ?_ ?_
   rotate_left
   ·intro w' hSw
    go_simp <;> with_reducible rfl
   try simp only [Act.put, sq]
   refine tkq (v := ?_) 9 rfl ?_ ?_
   rotate_left
   ·intro w' hSw
    go_simp <;> with_reducible rfl
   try simp only [Act.put, sq]
   have U6 := U5a.out.below HB6.out U5a.out.lt
   have u0 := U6.c0
   have u1 := U6.c1
   have u2 := U6.c2
   have uf := U6.frozen
   have ul : wd.heap.size < w6.heap.size := U6.lt
   have UP := hide (fiW_B (rs := rs) (t := t) (fc := fc) hl1 HXW.out B5.out HB6.out (B := wd.heap.size) (by omega) (by have := z5.out; have := za.out; omega) U6 HR6.out)
   refine rdq 11 rfl fun K hK => ?_
   go_simp
   refine hK.out _ _ (by exact K1.out.below UP.out.1) (fun hHeld => ?_)
   clear hK K
   try simp only [Act.put, sq]
   refine tkq (v := ?_) 12 rfl ?_ ?_
   rotate_left
   ·intro w' hSw
    go_simp <;> with_reducible rfl
   try simp only [Act.put, sq]
   refine wpAnyH_done (by kernel_rfl) ?_ _
   go_wp2_with fail
   go_meet
   exact UP.out.2
 obtain ⟨B, fs, fa, fn, fc, fm, ok, rfl, rfl, hB, hbc, hbx, hfi⟩ := hcut
 have KC := hide (K1.out.below hbc)
 have BC := hide (B1.out.trans (hbc.mono B1.out.size))
 have HBX := hide hbx
 have hBl := hbx.lt
 have hlc : w.heap.size + 2 ≤ wc.heap.size := KC.out.lt
 have HIN : Hid (I ≠ w.heap.size + 1) := by unfold Hid; omega
 clear hbc hbx K1 B1
 rcases hfi with ⟨h1, rfl⟩ | ⟨y, q, L, h1, rfl, rfl, rfl, rfl, hYq, hql, hra, hen⟩
 ·have HN := hide h1
  clear h1
  have c0 := KC.out.box.c0
  have c1 := KC.out.box.c1
  have r0 := KC.out.res.c0
  have r1 := KC.out.res.c1
  have rf := KC.out.res.frozen
  go_wp2_with fail
  refine bodyPost_ret (v := .tuple #[.agg #[.string t.name, .slice a t.args.length c], .int .i64 0]) (by simp [results, Tryz.results77, go_sem, World.cell?_setCell_same, World.cell?_setCell_other, r0, r1]) rfl ?_
  refine ⟨((ExQ.ofBelow BC.out).setNew (by simp) 0 _).setNew (by simp) 1 _, t, a, c, 0, rfl, ?_, Or.inl ⟨rfl, d, InOk.here hd ?_ ?_, ?_⟩⟩
  ·refine (KC.out.sl.kept fun b hb => ?_).mono fun b hb _ => Or.inl ⟨HXX.out b hb, HXW.out b hb⟩
   have := HXW.out b hb
   rw [Below.heap_setCell _ _ _ _ (by simp; omega), Below.heap_setCell _ _ _ _ (by simp; omega)]
  ·exact noFit_one.2 ⟨fstT_none.1 (fits_none HN.out), noFit_mem.2 HNO.out⟩
  ·rw [HC.out.2]; have := HZ.out; omega
  ·rw [← HZ.out]
   exact (KC.out.inn.setOther _ _ HIN.out).setOther _ _ HIN.out
 ·obtain ⟨hy1, hy2, hy3, hy4⟩ := fits_first HR.out h1
  obtain ⟨hp1, hp2, hp3, hp4⟩ := ruleE_parts (HR.out y.1 hy1)
  have HNX : Hid (nextT rs true t = some (gT y.2 y.1.r)) := (inner_topT (noFit_mem.2 HNO.out)).trans hy3
  have HWI : Hid (Within y.2 (noStep rs)) := mtT_below (noStep_down rs) hp3 hy2 HNO.out
  have hrz : sizeL [y.1.r] ≤ 2000 := by
   unfold mayE at hp2
   split at hp2
   ·cases hp2
   ·omega
  have HRA := hide hra
  have HEN := hide hen
  have HY : Hid (∀ b, OldNew2 w X b ∧ b ≠ B → b ≠ I) := fun b hb => by
   rcases hb.1 with h | h
   ·exact HX.out b h.1
   ·omega
  clear hra hen hy1 hy2 hy3 hy4 hp1 hp2 hp3 hp4 h1
  have i1 := KC.out.inn.c1
  have i2 := KC.out.inn.c2
  have ifz := KC.out.inn.frozen
  have hIc : I < wc.heap.size := KC.out.inn.lt
  have HS4 := hide (And.intro i2 i1)
  go_wp2_with fail
  go_region_held3 (fun w' => w'.cell? ⟨I, 2, none⟩ = some (.int .i64 (d : Int)) ∧ w'.cell? ⟨I, 1, none⟩ = some (.int .i64 (m : Int))) (go_keep) (fail)
  have BCd : Hid (Below w.heap.size w wc.drew) := below_drewN BC.out 1
  have KCd : Hid (KnS rs t X I ua uc m d z a c w wc.drew) := KC.out.below (below_drewN (Below.refl _ _) 1)
  have HBXd : Hid (Blk wc.drew B #[.string y.1.r.name, .slice fa y.1.r.args.length fc, .map (some q)] 144) := HBX.out
  have HRAd : Hid (Sl wc.drew (fun b => OldNew2 w X b ∧ b ≠ B) fa y.1.r.args) := HRA.out.later (below_drewN (Below.refl _ _) 1)
  have HENd : Hid (EnvR wc.drew q (fun b => OldNew2 w X b ∧ b ≠ B) y.2 L) := HEN.out.later (below_drewN (Below.refl _ _) 1)
  have hzd : wc.drew.heap.size = wc.heap.size := rfl
  clear KC BC HBX HRA HEN HS4 i1 i2 ifz
  rw [← hzd] at hIc hBl hlc hql
  clear hzd
  generalize wc.drew = wd at *
  have i1 := KCd.out.inn.c1
  have i2 := KCd.out.inn.c2
  have ifz := KCd.out.inn.frozen
  by_cases hdm : d = m
  ·have hdi : (d : Int) = (m : Int) := by omega
   have HDM := hide hdm
   clear hdm
   have r0 := KCd.out.res.c0
   have r1 := KCd.out.res.c1
   have rf := KCd.out.res.frozen
   go_wp2_with fail
   refine bodyPost_ret (v := .tuple #[.agg #[.string ⟨#[]⟩, .slice none 0 0], .int .i64 9]) (by simp [results, Tryz.results77, go_sem, World.cell?_setCell_same, World.cell?_setCell_other, r0, r1]) rfl ?_
   refine ⟨((ExQ.ofBelow BCd.out).setNew (by simp) 0 _).setNew (by simp) 1 _, ⟨⟨#[]⟩, []⟩, none, 0, 9, rfl, ⟨by simp, Or.inl rfl⟩, Or.inr ⟨Or.inr rfl, rfl, ?_⟩⟩
   rw [HDM.out]
   exact in_fuel HC.out HNX.out
  ·have hdi : ¬ ((d : Int) = (m : Int)) := by omega
   have hdl : d < m := by omega
   clear hdm
   have hwd : IntKind.i64.wrap ((d : Int) + 1) = ((d + 1 : Nat) : Int) := by rw [IntKind.wrap_i64]; omega
   go_upto_region 7 with fail
   have HYQ := hide hYq
   have K6 : Hid (K7 rs t X I ua uc m (d + 1) z a c w B y fa fc q L (wd.setCell ⟨I, 2, none⟩ (.int .i64 ((d : Int) + 1)))) := K7.set ⟨KCd.out, HBXd.out, HRAd.out, HENd.out⟩ hIl (by omega) HX.out hYq 2 _ rfl
   have X6 : Hid (ExQ (fun b => b = I) w (wd.setCell ⟨I, 2, none⟩ (.int .i64 ((d : Int) + 1)))) := ExQ.set (Q := fun b => b = I) (B := I) (ExQ.ofBelow BCd.out) rfl 2 _
   clear KCd HBXd HRAd HENd BCd i1 i2 ifz hYq
   generalize (wd.setCell ⟨I, 2, none⟩ (.int .i64 ((d : Int) + 1))) = w6 at *
   go_cut [45] (fun o wc => C7 rs t X I ua uc m d z a c w B y fa fc q L wc)
   case first =>
    have BD : Hid (Below w6.heap.size w6 w6.drew) := below_drewN (Below.refl _ _) 1
    have KD : Hid (K7 rs t X I ua uc m (d + 1) z a c w B y fa fc q L w6.drew) := K6.out.below BD.out
    have XD : Hid (ExQ (fun b => b = I) w w6.drew) := X6.out.drew
    have HCTZ : Hid (∀ kc, CtN kc (0 + sizeL [gT y.2 y.1.r]) → kc ≤ 4001) := fun kc h => h.1
    refine wp_region_held_drew (S := S7 t a c w B y fa fc q) (by kernel_rfl) ⟨KD.out.kn.box, KD.out.bx⟩ (fun hHeld => ?_)
    refine tkq (v := ?_) 0 rfl ?_ ?_
    rotate_left
    ·intro w' hSw
     go_simp <;> with_reducible rfl
    try simp only [Act.put, sq]
    refine tkq (v := ?_) 1 rfl ?_ ?_
    rotate_left
    ·intro w' hSw
     go_simp <;> with_reducible rfl
    try simp only [Act.put, sq]
    refine tkq (v := ?_) 2 rfl ?_ ?_
    rotate_left
    ·intro w' hSw
     go_simp <;> with_reducible rfl
    try simp only [Act.put, sq]
    refine tkq (v := ?_) 4 rfl ?_ ?_
    rotate_left
    ·intro w' hSw
     have b0 : w'.cell? ⟨B, 0, none⟩ = some (.string y.1.r.name) := hSw.2.cell 0
     have b1 : w'.cell? ⟨B, 1, none⟩ = some (.slice fa y.1.r.args.length fc) := hSw.2.cell 1
     have b2 : w'.cell? ⟨B, 2, none⟩ = some (.map (some q)) := hSw.2.cell 2
     go_simp <;> with_reducible rfl
    try simp only [Act.put, sq]
    refine tkq (v := ?_) 5 rfl ?_ ?_
    rotate_left
    ·intro w' hSw
     go_simp <;> with_reducible rfl
    try simp only [Act.put, sq]
    refine tkq (v := ?_) 6 rfl ?_ ?_
    rotate_left
    ·intro w' hSw
     have b0 : w'.cell? ⟨B, 0, none⟩ = some (.string y.1.r.name) := hSw.2.cell 0
     have b1 : w'.cell? ⟨B, 1, none⟩ = some (.slice fa y.1.r.args.length fc) := hSw.2.cell 1
     have b2 : w'.cell? ⟨B, 2, none⟩ = some (.map (some q)) := hSw.2.cell 2
     go_simp <;> with_reducible rfl
    try simp only [Act.put, sq]
    refine tkq (v := ?_) 8 rfl ?_ ?_
    rotate_left
    ·intro w' hSw
     have c0 : w'.cell? ⟨w.heap.size, 0, none⟩ = some (.string t.name) := hSw.1.cell 0
     have c1 : w'.cell? ⟨w.heap.size, 1, none⟩ = some (.slice a t.args.length c) := hSw.1.cell 1
     go_simp <;> with_reducible rfl
    try simp only [Act.put, sq]
    generalize w6.drew = wd6 at *
    refine wpAnyH_ready (rs := [3, 7]) (by kernel_rfl) (by simp) ?_
    refine AllReadyH.cons rfl (fun K hK => ?_) (AllReadyH.cons rfl (fun K hK => ?_) AllReadyH.nil)
    ·have i3 := KD.out.kn.inn.c3
     go_simp
     clear i3
     refine hK.out _ _ (by exact ⟨KD.out.kn.box, KD.out.bx⟩) (fun hHeld => ?_)
     clear hK K
     try simp only [Act.put, sq]
     refine rdq 7 rfl fun K hK => ?_
     go_simp
     go_at_call 95
     refine (fitCount_any y.2 L _ _ _ _ q y.1.r fa fc 0 wd6 _ KD.out.ra KD.out.en (by omega)).mono ?_
     rintro e v1 ⟨kc, rfl, hct, hb⟩
     have HCT := hide hct
     have KV1 := hide (KD.out.below hb)
     have XV1 := hide (XD.out.trans (ExQ.ofBelow hb))
     clear hb hct
     go_simp
     refine hK.out _ _ (by exact ⟨KV1.out.kn.box, KV1.out.bx⟩) (fun hHeld => ?_)
     clear hK K
     try simp only [Act.put, sq]
     refine rdq 9 rfl fun K hK => ?_
     go_simp
     go_at_call 52
     refine (count_any 2000 (by omega) (by omega) t _ v1 X ⟨a, c, rfl, KV1.out.kn.sl⟩).mono ?_
     rintro e v2 ⟨rfl, hb⟩
     have KV2 := hide (KV1.out.below hb)
     have XV2 := hide (XV1.out.trans (ExQ.ofBelow hb))
     clear hb
     have em : min (sizeL [t] : Int) (2000 + 1) = sizeL [t] := by omega
     rw [em]
     clear em
     go_simp
     refine hK.out _ _ (by exact ⟨KV2.out.kn.box, KV2.out.bx⟩) (fun hHeld => ?_)
     clear hK K
     try simp only [Act.put, sq]
     have hkc : kc ≤ 4001 := HCTZ.out kc HCT.out
     have hzt : sizeL [t] ≤ z := by have := HZ.out; omega
     have hw1 : IntKind.i64.wrap ((kc : Int) - (sizeL [t] : Int)) = (kc : Int) - (sizeL [t] : Int) := by rw [IntKind.wrap_i64]; omega
     refine tkq (v := ?_) 10 rfl ?_ ?_
     rotate_left
     ·intro w' hSw
      go_simp <;> with_reducible rfl
     try simp only [Act.put, sq]
     have hw2 : IntKind.i64.wrap ((z : Int) + ((kc : Int) - (sizeL [t] : Int))) = ((z + kc - sizeL [t] : Nat) : Int) := by rw [IntKind.wrap_i64]; omega
     refine tkq (v := ?_) 11 rfl ?_ ?_
     rotate_left
     ·intro w' hSw
      go_simp <;> with_reducible rfl
     try simp only [Act.put, sq]
     refine tkq (v := ?_) 12 rfl ?_ ?_
     rotate_left
     ·intro w' hSw
      go_simp <;> with_reducible rfl
     try simp only [Act.put, sq]
     refine tkq (v := ?_) 13 rfl ?_ ?_
     rotate_left
     ·intro w' hSw
      go_simp <;> with_reducible rfl
     try simp only [Act.put, sq]
     have i3 := KV2.out.kn.inn.c3
     have ifz := KV2.out.kn.inn.frozen
     have il : I < v2.heap.size := KV2.out.kn.inn.lt
     have KF : Hid (K7 rs t X I ua uc m (d + 1) (z + kc - sizeL [t]) a c w B y fa fc q L (v2.setCell ⟨I, 3, none⟩ (.int .i64 ((z + kc - sizeL [t] : Nat) : Int)))) := K7.set KV2.out hIl (by omega) HX.out HYQ.out 3 _ rfl
     have XF : Hid (ExQ (fun b => b = I) w (v2.setCell ⟨I, 3, none⟩ (.int .i64 ((z + kc - sizeL [t] : Nat) : Int)))) := ExQ.set (Q := fun b => b = I) (B := I) XV2.out rfl 3 _
     refine rdq 14 rfl fun K hK => ?_
     go_simp
     refine hK.out _ _ (by exact ⟨KF.out.kn.box, KF.out.bx⟩) (fun hHeld => ?_)
     clear hK K
     try simp only [Act.put, sq]
     refine wpAnyH_done (by kernel_rfl) ?_ _
     go_wp2_with fail
     go_meet
     exact ⟨kc, z + kc - sizeL [t], HCT.out, by omega, KF.out, XF.out⟩
    ·go_simp
     go_at_call 95
     refine (fitCount_any y.2 L _ _ _ _ q y.1.r fa fc 0 wd6 _ KD.out.ra KD.out.en (by omega)).mono ?_
     rintro e v3 ⟨kc, rfl, hct, hb⟩
     have HCT := hide hct
     have KV3 := hide (KD.out.below hb)
     have XV3 := hide (XD.out.trans (ExQ.ofBelow hb))
     clear hb hct
     go_simp
     refine hK.out _ _ (by exact ⟨KV3.out.kn.box, KV3.out.bx⟩) (fun hHeld => ?_)
     clear hK K
     try simp only [Act.put, sq]
     refine wpAnyH_ready (rs := [3, 9]) (by kernel_rfl) (by simp) ?_
     refine AllReadyH.cons rfl (fun K hK => ?_) (AllReadyH.cons rfl (fun K hK => ?_) AllReadyH.nil)
     ·have i3 := KV3.out.kn.inn.c3
      go_simp
      clear i3
      refine hK.out _ _ (by exact ⟨KV3.out.kn.box, KV3.out.bx⟩) (fun hHeld => ?_)
      clear hK K
      try simp only [Act.put, sq]
      refine rdq 9 rfl fun K hK => ?_
      go_simp
      go_at_call 52
      refine (count_any 2000 (by omega) (by omega) t _ v3 X ⟨a, c, rfl, KV3.out.kn.sl⟩).mono ?_
      rintro e v4 ⟨rfl, hb⟩
      have KV4 := hide (KV3.out.below hb)
      have XV4 := hide (XV3.out.trans (ExQ.ofBelow hb))
      clear hb
      have em : min (sizeL [t] : Int) (2000 + 1) = sizeL [t] := by omega
      rw [em]
      clear em
      go_simp
      refine hK.out _ _ (by exact ⟨KV4.out.kn.box, KV4.out.bx⟩) (fun hHeld => ?_)
      clear hK K
      try simp only [Act.put, sq]
      have hkc : kc ≤ 4001 := HCTZ.out kc HCT.out
      have hzt : sizeL [t] ≤ z := by have := HZ.out; omega
      have hw1 : IntKind.i64.wrap ((kc : Int) - (sizeL [t] : Int)) = (kc : Int) - (sizeL [t] : Int) := by rw [IntKind.wrap_i64]; omega
      refine tkq (v := ?_) 10 rfl ?_ ?_
      rotate_left
      ·intro w' hSw
       go_simp <;> with_reducible rfl
      try simp only [Act.put, sq]
      have hw2 : IntKind.i64.wrap ((z : Int) + ((kc : Int) - (sizeL [t] : Int))) = ((z + kc - sizeL [t] : Nat) : Int) := by rw [IntKind.wrap_i64]; omega
      refine tkq (v := ?_) 11 rfl ?_ ?_
      rotate_left
      ·intro w' hSw
       go_simp <;> with_reducible rfl
      try simp only [Act.put, sq]
      refine tkq (v := ?_) 12 rfl ?_ ?_
      rotate_left
      ·intro w' hSw
       go_simp <;> with_reducible rfl
      try simp only [Act.put, sq]
      refine tkq (v := ?_) 13 rfl ?_ ?_
      rotate_left
      ·intro w' hSw
       go_simp <;> with_reducible rfl
      try simp only [Act.put, sq]
      have i3 := KV4.out.kn.inn.c3
      have ifz := KV4.out.kn.inn.frozen
      have il : I < v4.heap.size := KV4.out.kn.inn.lt
      have KF : Hid (K7 rs t X I ua uc m (d + 1) (z + kc - sizeL [t]) a c w B y fa fc q L (v4.setCell ⟨I, 3, none⟩ (.int .i64 ((z + kc - sizeL [t] : Nat) : Int)))) := K7.set KV4.out hIl (by omega) HX.out HYQ.out 3 _ rfl
      have XF : Hid (ExQ (fun b => b = I) w (v4.setCell ⟨I, 3, none⟩ (.int .i64 ((z + kc - sizeL [t] : Nat) : Int)))) := ExQ.set (Q := fun b => b = I) (B := I) XV4.out rfl 3 _
      refine rdq 14 rfl fun K hK => ?_
      go_simp
      refine hK.out _ _ (by exact ⟨KF.out.kn.box, KF.out.bx⟩) (fun hHeld => ?_)
      clear hK K
      try simp only [Act.put, sq]
      refine wpAnyH_done (by kernel_rfl) ?_ _
      go_wp2_with fail
      go_meet
      exact ⟨kc, z + kc - sizeL [t], HCT.out, by omega, KF.out, XF.out⟩
     ·go_simp
      go_at_call 52
      refine (count_any 2000 (by omega) (by omega) t _ v3 X ⟨a, c, rfl, KV3.out.kn.sl⟩).mono ?_
      rintro e v5 ⟨rfl, hb⟩
      have KV5 := hide (KV3.out.below hb)
      have XV5 := hide (XV3.out.trans (ExQ.ofBelow hb))
      clear hb
      have em : min (sizeL [t] : Int) (2000 + 1) = sizeL [t] := by omega
      rw [em]
      clear em
      go_simp
      refine hK.out _ _ (by exact ⟨KV5.out.kn.box, KV5.out.bx⟩) (fun hHeld => ?_)
      clear hK K
      try simp only [Act.put, sq]
      have hkc : kc ≤ 4001 := HCTZ.out kc HCT.out
      have hzt : sizeL [t] ≤ z := by have := HZ.out; omega
      have hw1 : IntKind.i64.wrap ((kc : Int) - (sizeL [t] : Int)) = (kc : Int) - (sizeL [t] : Int) := by rw [IntKind.wrap_i64]; omega
      refine tkq (v := ?_) 10 rfl ?_ ?_
      rotate_left
      ·intro w' hSw
       go_simp <;> with_reducible rfl
      try simp only [Act.put, sq]
      refine rdq 3 rfl fun K hK => ?_
      have i3 := KV5.out.kn.inn.c3
      go_simp
      clear i3
      refine hK.out _ _ (by exact ⟨KV5.out.kn.box, KV5.out.bx⟩) (fun hHeld => ?_)
      clear hK K
      try simp only [Act.put, sq]
      have hw2 : IntKind.i64.wrap ((z : Int) + ((kc : Int) - (sizeL [t] : Int))) = ((z + kc - sizeL [t] : Nat) : Int) := by rw [IntKind.wrap_i64]; omega
      refine tkq (v := ?_) 11 rfl ?_ ?_
      rotate_left
      ·intro w' hSw
       go_simp <;> with_reducible rfl
      try simp only [Act.put, sq]
      refine tkq (v := ?_) 12 rfl ?_ ?_
      rotate_left
      ·intro w' hSw
       go_simp <;> with_reducible rfl
      try simp only [Act.put, sq]
      refine tkq (v := ?_) 13 rfl ?_ ?_
      rotate_left
      ·intro w' hSw
       go_simp <;> with_reducible rfl
      try simp only [Act.put, sq]
      have i3 := KV5.out.kn.inn.c3
      have ifz := KV5.out.kn.inn.frozen
      have il : I < v5.heap.size := KV5.out.kn.inn.lt
      have KF : Hid (K7 rs t X I ua uc m (d + 1) (z + kc - sizeL [t]) a c w B y fa fc q L (v5.setCell ⟨I, 3, none⟩ (.int .i64 ((z + kc - sizeL [t] : Nat) : Int)))) := K7.set KV5.out hIl (by omega) HX.out HYQ.out 3 _ rfl
      have XF : Hid (ExQ (fun b => b = I) w (v5.setCell ⟨I, 3, none⟩ (.int .i64 ((z + kc - sizeL [t] : Nat) : Int)))) := ExQ.set (Q := fun b => b = I) (B := I) XV5.out rfl 3 _
      refine rdq 14 rfl fun K hK => ?_
      go_simp
      refine hK.out _ _ (by exact ⟨KF.out.kn.box, KF.out.bx⟩) (fun hHeld => ?_)
      clear hK K
      try simp only [Act.put, sq]
      refine wpAnyH_done (by kernel_rfl) ?_ _
      go_wp2_with fail
      go_meet
      exact ⟨kc, z + kc - sizeL [t], HCT.out, by omega, KF.out, XF.out⟩
   obtain ⟨kc, z2, hct, hz3, k7, x7⟩ := hcut
   have K7c := hide k7
   have X7 := hide x7
   have HCT := hide hct
   have HZ3 := hide hz3
   have hz5 : z2 ≤ 8000 := by have := hct.1; omega
   clear k7 x7 hct hz3 K6 X6
   have i3 : wc.cell? ⟨I, 3, none⟩ = some (.int .i64 (z2 : Int)) := K7c.out.kn.inn.cell 3
   have r0 := K7c.out.kn.res.c0
   have r1 := K7c.out.kn.res.c1
   have rf := K7c.out.kn.res.frozen
   have hlw : w.heap.size + 2 ≤ wc.heap.size := K7c.out.kn.lt
   by_cases hbig : 2000 < sizeL [gT y.2 y.1.r] + k
   ·have hz6 : (2000 : Int) < (z2 : Int) := by
     have h1 := HZ.out
     have h2 := HZ3.out
     obtain ⟨h3, h4, h5⟩ := HCT.out
     by_cases h6 : 0 + sizeL [gT y.2 y.1.r] ≤ 2000
     ·have := h4 h6; omega
     ·have := h5 (by omega); omega
    have HBIG := hide hbig
    clear hbig
    go_wp2_with fail
    refine bodyPost_ret (v := .tuple #[.agg #[.string ⟨#[]⟩, .slice none 0 0], .int .i64 8]) (by simp [results, Tryz.results77, go_sem, World.cell?_setCell_same, World.cell?_setCell_other, r0, r1]) rfl ?_
    refine ⟨(X7.out.setNew (by simp) 0 _).setNew (by simp) 1 _, ⟨⟨#[]⟩, []⟩, none, 0, 8, rfl, ⟨by simp, Or.inl rfl⟩, Or.inr ⟨Or.inl rfl, rfl, ?_⟩⟩
    exact in_full HC.out HNX.out hdl HBIG.out
   ·have hz7 : z2 = sizeL [gT y.2 y.1.r] + k := by
     have h1 := HZ.out
     have h2 := HZ3.out
     obtain ⟨h3, h4, h5⟩ := HCT.out
     have := h4 (by omega)
     omega
    have hz6 : ¬ ((2000 : Int) < (z2 : Int)) := by omega
    have HZ7 := hide hz7
    clear hz7
    have b0 := K7c.out.bx.c0
    have b1 := K7c.out.bx.c1
    have b2 := K7c.out.bx.c2
    have hE2 := HE.out (m - (d + 1)) (by omega) C k (d + 1) y.1.r y.2 (some q) fa fc wc (fun b => OldNew2 w X b ∧ b ≠ B) HC.out (Nat.le_refl _) (by omega) (K7c.out.kn.qv.mono fun b hb _ => ⟨Or.inl ⟨hb, HXW.out b hb⟩, by have := HXW.out b hb; omega⟩) K7c.out.ra (Or.inr ⟨q, L, rfl, K7c.out.en⟩) HWI.out HY.out (by omega) hrz (by rw [← HZ7.out]; exact K7c.out.kn.inn)
    have HE2 := hide hE2
    clear hE2
    go_wp2_with fail
    refine HE2.out.mono ?_
    rintro e w3 ⟨x3, x, ax, cx, er, rfl, hsx, hcs⟩
    have X3 := hide x3
    have HSX := hide hsx
    have HCS := hide hcs
    have hz8 := x3.size
    have R3 := hide (K7c.out.kn.res.exq x3 (by have := HIN.out; omega))
    clear x3 hsx hcs b0 b1 b2 r0 r1 rf i3
    have r0 := R3.out.c0
    have r1 := R3.out.c1
    have rf := R3.out.frozen
    go_wp2_with fail
    refine bodyPost_ret (v := .tuple #[.agg #[.string x.name, .slice ax x.args.length cx], .int .i64 er]) (by simp [results, Tryz.results77, go_sem, World.cell?_setCell_same, World.cell?_setCell_other, r0, r1]) rfl ?_
    have hst := in_step (d := d) HC.out HNX.out hdl (by omega)
    refine ⟨((X7.out.trans X3.out).setNew (by simp) 0 _).setNew (by simp) 1 _, x, ax, cx, er, rfl, ?_, ?_⟩
    ·have hsv : Sl w3 (fun b => OldNew w X b ∧ b ≠ w.heap.size + 1) ax x.args := HSX.out.mono fun b hb hl => by
      have hBn : w.heap.size + 2 ≤ wc.heap.size := hlw
      rcases hb with ⟨⟨hb, hne⟩, _⟩ | hb
      ·rcases hb with hb | hb
       ·exact ⟨Or.inl hb, by omega⟩
       ·exact ⟨Or.inr (by omega), by omega⟩
      ·exact ⟨Or.inr (by omega), by omega⟩
     refine (hsv.kept fun b hb => ?_).mono fun b hb _ => ?_
     ·rw [Below.heap_setCell _ _ _ _ (by simpa using hb.2), Below.heap_setCell _ _ _ _ (by simpa using hb.2)]
     ·rcases hb.1 with h | h
      ·exact Or.inl ⟨HXX.out b h.1, h.2⟩
      ·exact Or.inr h
    ·rcases HCS.out with ⟨h0, d', hok, hI9⟩ | ⟨h0, hx0, he9⟩
     ·exact Or.inl ⟨h0, d', InOk.trans (by omega) hst hok, (hI9.setOther _ _ HIN.out).setOther _ _ HIN.out⟩
     ·refine Or.inr ⟨h0, hx0, ?_⟩
      rw [hst, he9]
      exact shiftN_err _ _ (by rcases h0 with h | h <;> omega)
end Go.Proofs.YtbnmlkaejdpigaaGreatDoor
