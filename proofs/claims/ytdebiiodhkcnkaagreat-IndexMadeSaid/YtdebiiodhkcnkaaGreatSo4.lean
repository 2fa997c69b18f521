import Derived.Test.YtdebiiodhkcnkaaGreatZIndexMadeOwn
import Derived.Test.YtdebiiodhkcnkaaGreatSo3
import Derived.Test.YtdebiiodhkcnkaaGreatERow
import Derived.Test.YtdebiiodhkcnkaaGreatZBIndexMadeOwn
import Derived.Deep.RegionHeld
namespace Go.Proofs.YtdebiiodhkcnkaaGreat
open Go.RowKit
set_option linter.unusedSimpArgs false
set_option linter.unusedVariables false
set_option maxRecDepth 8000
theorem ERow.exq {w w' : World} {Q : Nat → Prop} {N : Nat} {Y : Nat → Prop} {v : Value} {cs : List Ec} (h : ERow w N Y v cs) (he : ExQ Q w w') (hQ : ∀ b, Q b → b < N) (hY : ∀ b, Q b → ¬ Y b) : ERow w' N Y v cs :=
 ⟨ownsRow_at h.own fun g hg => he.block g (h.own.lt g hg).2 (fun hq => by have := hQ g hq; have := (h.own.lt g hg).1; omega),
  fun x hx => ⟨(h.row x hx).1.exq he fun b hb hq => by
   rcases hb with h1 | h1
   ·exact hY b hq h1
   ·have := hQ b hq; omega,
   (h.row x hx).2.exq he fun b hb hq => by
   rcases hb with h1 | h1
   ·exact hY b hq h1
   ·have := hQ b hq; omega⟩⟩
theorem sl_push {w1 w3 : World} {N n cap : Nat} {Y : Nat → Prop} {v : Value} {o : Obj} {g : Nat} (hv : ∀ b, Y b → some b ≠ v.ownBlock) (hg : (w1.alloc o).grownBy w3 v.ownBlock) (hg1 : v.ownBlock = some g ∨ g = (w1.alloc o).heap.size) {a : Option Addr} {l : List Tm} (h0 : Sl w1 (fun b => Y b ∨ (N ≤ b ∧ some b ≠ v.ownBlock)) a l) :
  Sl w3 (fun b => Y b ∨ (N ≤ b ∧ some b ≠ (Value.slice (some ⟨g, 0, none⟩) n cap).ownBlock)) a l := by
 have h1 : Sl w1 (fun b => (Y b ∨ (N ≤ b ∧ some b ≠ v.ownBlock)) ∧ b < w1.heap.size) a l := h0.mono fun b h1 h2 => ⟨h1, h2⟩
 refine (h1.kept fun b hx => ?_).mono fun b hx _ => ?_
 ·have hne : some b ≠ v.ownBlock := by
   rcases hx.1 with hy | hy
   ·exact hv b hy
   ·exact hy.2
  rw [hg.block b (by simp; omega) hne, Below.heap_alloc _ _ _ hx.2]
 ·rcases hx.1 with hy | hy
  ·exact Or.inl hy
  ·refine Or.inr ⟨hy.1, fun e => ?_⟩
   simp [Value.ownBlock] at e
   rcases hg1 with e' | e'
   ·exact hy.2 (by rw [e', e])
   ·simp at e'; omega
theorem ERow.push2 {w w1 w3 : World} {N : Nat} {Y : Nat → Prop} {v : Value} {cs : List Ec} (h : ERow w N Y v cs) (hY : ∀ b, Y b → b < N) (hb : Below w.heap.size w w1) {x : Ec}
  (ht : Sl w1 (fun b => Y b ∨ (N ≤ b ∧ some b ≠ v.ownBlock)) x.1.2.1.1 x.1.1.l.args ∧ Sl w1 (fun b => Y b ∨ (N ≤ b ∧ some b ≠ v.ownBlock)) x.1.2.2.1 x.1.1.r.args) (o : Obj) {g cap : Nat}
  (hown : w3.ownsRow N 129 5 (.slice (some ⟨g, 0, none⟩) (cs.length + 1) cap) (cs.length + 1) (flat5 cs ++ enc5 x)) (hg : (w1.alloc o).grownBy w3 v.ownBlock) (hg1 : v.ownBlock = some g ∨ g = (w1.alloc o).heap.size) :
  ERow w3 N Y (.slice (some ⟨g, 0, none⟩) (cs.length + 1) cap) (cs ++ [x]) := by
 have hv : ∀ b, Y b → some b ≠ v.ownBlock := fun b hb => h.ne (hY b hb)
 refine ⟨by rw [flat5_append]; simpa [flat5] using hown, fun y hy => ?_⟩
 rcases List.mem_append.1 hy with hy | hy
 ·exact ⟨sl_push hv hg hg1 ((h.row y hy).1.later hb), sl_push hv hg hg1 ((h.row y hy).2.later hb)⟩
 ·have e : y = x := by simpa using hy
  subst e
  exact ⟨sl_push hv hg hg1 ht.1, sl_push hv hg hg1 ht.2⟩
theorem ERow.setCell {w : World} {N : Nat} {Y : Nat → Prop} {v : Value} {cs : List Ec} (h : ERow w N Y v cs) {b i : Nat} (hb : b < N) (hY : ¬ Y b) (u : Value) : ERow (w.setCell ⟨b, i, none⟩ u) N Y v cs :=
 h.exq (Q := fun c => c = b) ((ExQ.refl (fun c => c = b) w).set (B := b) rfl i u) (fun c hc => by omega) (fun c hc => by rw [hc]; exact hY)
theorem sole_todo {S q : Nat} {td td' : Value} {h : List (ByteArray × Tm)} {Y : Nat → Prop} {w w3 : World} (he : SolE S q td h false Y w) (hk : ∀ b, Y b → w3.heap[b]? = w.heap[b]?) : SolE S q td' h false Y (w3.setCell ⟨S, 0, none⟩ td') := by
 have he3 := (solE_ok S q td h).keep _ _ _ _ he hk
 obtain ⟨⟨L, e1, e2, e3⟩, e4, e5, e6, e7⟩ := he3
 have hSq : S ≠ q := fun e => by
  obtain ⟨es, clk, h1, _⟩ := e2
  subst e
  unfold Blk at e1
  rw [h1] at e1; cases e1
 have hk2 : ∀ b, b ≠ S → (w3.setCell ⟨S, 0, none⟩ td').heap[b]? = w3.heap[b]? := fun b hb => Below.heap_setCell _ _ _ _ (by simpa using hb)
 refine ⟨⟨L, ?_, e2.kept (hk2 q (Ne.symm hSq)), e3.imp fun a l hsl => (hsl.kept fun b hb => hk2 b hb.2.1)⟩, e4, e5, fun b hb => by simpa [World.setCell] using e6 b hb, e7⟩
 have := e1.set 0 td'
 simpa using this
def ecP (x : Ec) : Pr × Nat := (x.1.1, x.2)
theorem Sl.blk {w : World} {X : Nat → Prop} {b o : Nat} {l : List Tm} (h : Sl w X (some ⟨b, o, none⟩) l) (hl : 0 < l.length) : X b := by
 rcases h.2 with h1 | ⟨b', o', e, h1⟩
 ·subst h1; simp at hl
 ·simp at e
  obtain ⟨rfl, rfl⟩ := e
  exact (lies_get _ _ _ h1 0 hl).1
theorem zip_len : ∀ {a b : List Tm}, a.length = b.length → (zipP a b).length = a.length
 | [], [], _ => rfl
 | [], _ :: _, h => by simp at h
 | _ :: _, [], h => by simp at h
 | t :: a, u :: b, h => by rw [zipP, List.length_cons, zip_len (by simpa using h), List.length_cons]
theorem zip_get : ∀ {a b : List Tm} (k : Nat) (h1 : k < a.length) (h2 : k < b.length) (h3 : k < (zipP a b).length), (zipP a b)[k] = ⟨a[k], b[k]⟩
 | [], _, k, h1, _, _ => by simp at h1
 | _ :: _, [], k, _, h2, _ => by simp at h2
 | t :: a, u :: b, 0, _, _, _ => rfl
 | t :: a, u :: b, k + 1, h1, h2, h3 => by
  simp only [zipP, List.getElem_cons_succ]
  exact zip_get k (by simpa using h1) (by simpa using h2) _
def SolT (S q N : Nat) (h : List (ByteArray × Tm)) (cs : List Ec) (w : World) : Prop :=
 ∃ (td : Value) (Y : Nat → Prop), SolE S q td h false Y w ∧ ERow w N (fun b => b < N ∧ b ≠ S ∧ b ≠ q) td cs ∧ (∀ b, Y b → some b ≠ td.ownBlock) ∧ S < N ∧ q < N ∧ N ≤ w.heap.size
def AhInv (S q N : Nat) (h : List (ByteArray × Tm)) (cs : List Ec) (Y : Nat → Prop) (td0 : Value) (w : World) (lA lB : List Tm) (a1 a2 : Option Addr) (i : Value) (wr : World) : Prop :=
 ∃ (k : Nat) (td : Value) (cs' : List Ec), k ≤ lA.length ∧ i = .int .i64 ((k : Int) - 1) ∧ SolE S q td h false Y wr ∧ ERow wr N (fun b => b < N ∧ b ≠ S ∧ b ≠ q) td cs' ∧ (∀ b, Y b → some b ≠ td.ownBlock) ∧ cs'.map ecP = cs.map ecP ++ ((zipP lA lB).drop k).reverse.map (fun p => (p, h.length)) ∧
  Sl wr (fun b => (b < N ∧ b ≠ S ∧ b ≠ q) ∨ (N ≤ b ∧ some b ≠ td.ownBlock)) a1 lA ∧ Sl wr (fun b => (b < N ∧ b ≠ S ∧ b ≠ q) ∨ (N ≤ b ∧ some b ≠ td.ownBlock)) a2 lB ∧ ExQ (fun b => b = S ∨ some b = td0.ownBlock) w wr ∧ N ≤ wr.heap.size ∧ ∀ k, td.ownBlock = some k → td0.ownBlock = some k ∨ w.heap.size ≤ k
theorem ah_step {S q N : Nat} {h : List (ByteArray × Tm)} {cs cs' : List Ec} {Y : Nat → Prop} {w wr w3 : World} {lA lB : List Tm} {a1 a2 : Option Addr} {k : Nat} {td td0 : Value} (hSN : S < N) (hqN : q < N) (hl : lA.length = lB.length) (hk : k < lA.length) (hE : SolE S q td h false Y wr) (hR : ERow wr N (fun b => b < N ∧ b ≠ S ∧ b ≠ q) td cs') (hY : ∀ b, Y b → some b ≠ td.ownBlock) (hC : cs'.map ecP = cs.map ecP ++ ((zipP lA lB).drop (k + 1)).reverse.map (fun p => (p, h.length)))
  (hs1 : Sl wr (fun b => (b < N ∧ b ≠ S ∧ b ≠ q) ∨ (N ≤ b ∧ some b ≠ td.ownBlock)) a1 lA) (hs2 : Sl wr (fun b => (b < N ∧ b ≠ S ∧ b ≠ q) ∨ (N ≤ b ∧ some b ≠ td.ownBlock)) a2 lB) (hx : ExQ (fun b => b = S ∨ some b = td0.ownBlock) w wr) (hN : N ≤ wr.heap.size) (hNw : N ≤ w.heap.size) (hob : ∀ k, td.ownBlock = some k → td0.ownBlock = some k ∨ w.heap.size ≤ k)
  {x1 x2 : Option Addr} {d1 d2 : Nat} (hx1 : Sl wr (fun b => (b < N ∧ b ≠ S ∧ b ≠ q) ∨ (N ≤ b ∧ some b ≠ td.ownBlock)) x1 (lA[k]'hk).args) (hx2 : Sl wr (fun b => (b < N ∧ b ≠ S ∧ b ≠ q) ∨ (N ≤ b ∧ some b ≠ td.ownBlock)) x2 (lB[k]'(by omega)).args) {o : Obj} {g cap : Nat}
  (hown : w3.ownsRow N 129 5 (.slice (some ⟨g, 0, none⟩) (cs'.length + 1) cap) (cs'.length + 1) (flat5 cs' ++ enc5 ((⟨lA[k]'hk, lB[k]'(by omega)⟩, (x1, d1), (x2, d2)), h.length))) (hg : (wr.drew.alloc o).grownBy w3 td.ownBlock) (hat : td.ownBlock = some g ∨ g = (wr.drew.alloc o).heap.size) :
  AhInv S q N h cs Y td0 w lA lB a1 a2 (.int .i64 ((k : Int) - 1)) (w3.setCell ⟨S, 0, none⟩ (.slice (some ⟨g, 0, none⟩) (cs'.length + 1) cap)) := by
 have hbd : Below wr.heap.size wr wr.drew := (Below.refl _ _).drew
 have hvY : ∀ b, (b < N ∧ b ≠ S ∧ b ≠ q) → some b ≠ td.ownBlock := fun b hb => hR.ne hb.1
 have hYl := hE.2.2.2.1
 have hgs := hg.size
 simp at hgs
 refine ⟨k, .slice (some ⟨g, 0, none⟩) (cs'.length + 1) cap, cs' ++ [((⟨lA[k]'hk, lB[k]'(by omega)⟩, (x1, d1), (x2, d2)), h.length)], by omega, rfl, sole_todo hE (fun b hb => ?_), ?_, fun b hb e => ?_, ?_, ?_, ?_, ?_, by simp [World.setCell]; omega, fun k2 hk2 => ?_⟩
 ·rw [hg.block b (by have := hYl b hb; simp; omega) (hY b hb), Below.heap_alloc _ _ _ (by have := hYl b hb; simpa using this)]
  rfl
 ·exact (hR.push2 (fun b hb => hb.1) hbd (x := ((⟨lA[k]'hk, lB[k]'(by omega)⟩, (x1, d1), (x2, d2)), h.length)) ⟨hx1.later hbd, hx2.later hbd⟩ o hown hg hat).setCell hSN (fun hb => hb.2.1 rfl) _
 ·have e2 : b = g := by simpa [Value.ownBlock] using e
  subst e2
  rcases hat with h1 | h1
  ·exact hY b hb h1.symm
  ·have := hYl b hb; simp at h1; omega
 ·have hzl : k < (zipP lA lB).length := by rw [zip_len hl]; exact hk
  rw [List.map_append, hC, List.drop_eq_getElem_cons hzl, List.reverse_cons, List.map_append, zip_get k hk (by omega) hzl]
  simp [ecP]
 ·exact (sl_push hvY hg hat (hs1.later hbd)).kept fun b hb => Below.heap_setCell _ _ _ _ (by
   simp
   rcases hb with hb | hb
   ·exact hb.2.1
   ·omega)
 ·exact (sl_push hvY hg hat (hs2.later hbd)).kept fun b hb => Below.heap_setCell _ _ _ _ (by
   simp
   rcases hb with hb | hb
   ·exact hb.2.1
   ·omega)
 ·refine ((((hx.drew).alloc o).grown hg (fun b hb => ?_)).set (Or.inl rfl) _ _)
  rcases hob b hb with h1 | h1
  ·exact Or.inr (Or.inr h1.symm)
  ·exact Or.inl h1
 ·have e : g = k2 := by simpa [Value.ownBlock] using hk2
  subst e
  rcases hat with h1 | h1
  ·exact hob g h1
  ·right
   have := hx.size
   simp at h1
   omega
def FvS (S q b1 b2 o1 o2 : Nat) (tA tB : Tm) (x1 x2 : Option Addr) (d1 d2 n : Nat) (w' : World) : Prop :=
 w'.cell? ⟨S, 1, none⟩ = some (.map (some q)) ∧ w'.cell? ⟨b1, o1, none⟩ = some (.string tA.name) ∧ w'.cell? ⟨b1, o1 + 1, none⟩ = some (.slice x1 tA.args.length d1) ∧ w'.cell? ⟨b2, o2, none⟩ = some (.string tB.name) ∧ w'.cell? ⟨b2, o2 + 1, none⟩ = some (.slice x2 tB.args.length d2) ∧ Sem.run Tryz.prog (Builtin.len_ #[121] 3 #[.map (some q)]) w' = .ok (.int .i64 (n : Int)) w'
def AhPost (S q N : Nat) (h : List (ByteArray × Tm)) (cs : List Ec) (lA lB : List Tm) (td0 : Value) (w : World) (e : Ending) (w' : World) : Prop :=
 e = .returned (.tuple #[]) ∧ ∃ cs', SolT S q N h cs' w' ∧ cs'.map ecP = cs.map ecP ++ (zipP lA lB).reverse.map (fun p => (p, h.length)) ∧ ExQ (fun b => b = S ∨ some b = td0.ownBlock) w w'
set_option maxHeartbeats 4000000 in
theorem ahead_any (S q N : Nat) (h : List (ByteArray × Tm)) (cs : List Ec) (lA lB : List Tm) (hl : lA.length = lB.length) (hsz : cs.length + lA.length ≤ 1000000000) (hh : h.length ≤ 1000000000) (a1 a2 : Option Addr) (c1 c2 : Nat) (w : World) (td : Value) (Y : Nat → Prop) (hE : SolE S q td h false Y w) (hR : ERow w N (fun b => b < N ∧ b ≠ S ∧ b ≠ q) td cs) (hY : ∀ b, Y b → some b ≠ td.ownBlock) (hSN : S < N) (hqN : q < N) (hNw : N ≤ w.heap.size)
  (hs1 : Sl w (fun b => (b < N ∧ b ≠ S ∧ b ≠ q) ∨ (N ≤ b ∧ some b ≠ td.ownBlock)) a1 lA) (hs2 : Sl w (fun b => (b < N ∧ b ≠ S ∧ b ≠ q) ∨ (N ≤ b ∧ some b ≠ td.ownBlock)) a2 lB) :
  Calls Tryz.prog 110 #[.pointer (some ⟨S, 0, none⟩), .slice a1 lA.length c1, .slice a2 lB.length c2] w fun e w' => AhPost S q N h cs lA lB td w e w' := by
 obtain ⟨i0, hi0, hz0, hz1, hz2⟩ := info_parts Tryz.infoEq
 have HE := hide hE
 have HR := hide hR
 have HY := hide hY
 have HS1 := hide hs1
 have HS2 := hide hs2
 have hl1 := hs1.1
 have hl2 := hs2.1
 have HL := hide hl
 have hle : Hid (lA.length ≤ 1000000000) := by unfold Hid; omega
 clear hE hR hY hs1 hs2
 rw [← hl]
 clear hl
 go_enter Tryz.func110, Tryz.ntmps110
 go_wp2_with fail
 go_loopw [6] (fun i wr => AhInv S q N h cs Y td w lA lB a1 a2 i wr) (fun i wr => ((intOf i) + 1).toNat)
 case atStart =>
  refine ⟨lA.length, td, cs, Nat.le_refl _, ?_, HE.out, HR.out, HY.out, ?_, HS1.out, HS2.out, ExQ.refl _ _, hNw, fun k hk => Or.inl hk⟩
  ·have := hle.out
   go_num
  ·rw [List.drop_eq_nil_of_le (by rw [zip_len HL.out]; exact Nat.le_refl _)]
   simp
 case round =>
  obtain ⟨k, td', cs', hk, rfl, hE', hR', hY', hC', hs1', hs2', hx', hN', hob'⟩ := hrel
  have HE' := hide hE'
  have HR' := hide hR'
  have HY' := hide hY'
  have HC' := hide hC'
  have HX' := hide hx'
  have HOB := hide hob'
  clear hob'
  have HS1' := hide hs1'
  have HS2' := hide hs2'
  have HLC : Hid (cs'.length ≤ 1000000000) := by
   have h1 := congrArg List.length hC'
   simp [zip_len HL.out] at h1
   unfold Hid
   omega
  cases k with
  | zero =>
   clear hE' hR' hY' hC' hx' hs1' hs2'
   go_wp2_with fail
   go_end0
   refine ⟨rfl, cs', ⟨td', Y, HE'.out, HR'.out, HY'.out, hSN, hqN, hN'⟩, ?_, HX'.out⟩
   have := HC'.out
   simpa using this
  | succ k =>
   have hkk : ((k + 1 : Nat) : Int) - 1 = k := by omega
   rw [hkk]
   obtain ⟨b1, o1, x1, d1, rfl, p0, p1, hx1⟩ := hs1'.get (Below.refl _ _) (fun _ _ h => h) k hk
   obtain ⟨b2, o2, x2, d2, rfl, r0, r1, hx2⟩ := hs2'.get (Below.refl _ _) (fun _ _ h => h) k (by have := HL.out; omega)
   obtain ⟨av, cv, ev, hsx1⟩ := hx1
   simp at ev
   obtain ⟨rfl, rfl⟩ := ev
   obtain ⟨av, cv, ev, hsx2⟩ := hx2
   simp at ev
   obtain ⟨rfl, rfl⟩ := ev
   obtain ⟨⟨L, hB, hM, hSt⟩, hYS, hYq, hYl, hg⟩ := hE'
   have HX1 := hide hsx1
   have HX2 := hide hsx2
   have HB := hide hB
   have s0 : wr.cell? ⟨S, 0, none⟩ = some td' := hB.cell 0
   have s0' : ∀ o, (wr.alloc o).cell? ⟨S, 0, none⟩ = some td' := fun o => (hB.alloc o).cell 0
   have s1 : wr.cell? ⟨S, 1, none⟩ = some (.map (some q)) := hB.cell 1
   have hlen : Sem.run Tryz.prog (Builtin.len_ #[121] 3 #[.map (some q)]) wr.drew = .ok (.int .i64 (h.length : Int)) wr.drew := by
    have h1 : MapAt wr.drew q L := hM.below ((Below.refl wr.heap.size wr).drew) hM.lt
    rw [run_len Tryz.underlying121 h1, hSt.1]
   have hkl : (k : Int) < (lA.length : Int) := by omega
   have hkB : k < lB.length := by have := HL.out; omega
   have HOWN := hide (HR'.out.below ((Below.refl wr.heap.size wr).drew)).own
   have HSNE : Hid (some S ≠ td'.ownBlock) := HR'.out.ne hSN
   have HML : Hid (MapAt wr q L ∧ L.length = h.length) := ⟨hM, hSt.1⟩
   have HQS : Hid (q ≠ S) := fun e => by
    obtain ⟨es, clk, h1, _⟩ := hM
    subst e
    unfold Blk at hB
    rw [h1] at hB; cases hB
   have HNQ : Hid (some q ≠ td'.ownBlock) := HR'.out.ne hqN
   have HB1S : Hid (b1 ≠ S) := by
    rcases HS1'.out.blk (by omega) with h1 | h1
    ·exact h1.2.1
    ·unfold Hid; omega
   have HB2S : Hid (b2 ≠ S) := by
    rcases HS2'.out.blk (by omega) with h1 | h1
    ·exact h1.2.1
    ·unfold Hid; omega
   have HNB1 : Hid (some b1 ≠ td'.ownBlock) := by
    rcases HS1'.out.blk (by omega) with h1 | h1
    ·exact HR'.out.ne h1.1
    ·exact h1.2
   have HNB2 : Hid (some b2 ≠ td'.ownBlock) := by
    rcases HS2'.out.blk (by omega) with h1 | h1
    ·exact HR'.out.ne h1.1
    ·exact h1.2
   clear hR' hY' hC' hx' hs1' hs2' hsx1 hsx2 hB hM hSt hg hYl
   have HST : Hid (∀ (g cap : Nat) (w3 : World), w3.ownsRow N 129 5 (.slice (some ⟨g, 0, none⟩) (cs'.length + 1) cap) (cs'.length + 1) (flat5 cs' ++ enc5 ((⟨lA[k], lB[k]⟩, (x1, d1), (x2, d2)), h.length)) → (wr.drew.alloc (.cells #[.string lA[k].name, .slice x1 lA[k].args.length d1, .string lB[k].name, .slice x2 lB[k].args.length d2, .int .i64 (h.length : Int)] 129)).grownBy w3 td'.ownBlock → (td'.ownBlock = some g ∨ g = (wr.drew.alloc (.cells #[.string lA[k].name, .slice x1 lA[k].args.length d1, .string lB[k].name, .slice x2 lB[k].args.length d2, .int .i64 (h.length : Int)] 129)).heap.size) → AhInv S q N h cs Y td w lA lB (some ⟨b1, o1, none⟩) (some ⟨b2, o2, none⟩) (.int .i64 ((k : Int) - 1)) (w3.setCell ⟨S, 0, none⟩ (.slice (some ⟨g, 0, none⟩) (cs'.length + 1) cap))) := fun g cap w3 h1 h2 h3 => ah_step hSN hqN HL.out hk HE'.out HR'.out HY'.out HC'.out HS1'.out HS2'.out HX'.out hN' hNw HOB.out HX1.out HX2.out h1 h2 h3
   unfold enc5 at HST
   generalize lA[k] = tA at *
   generalize lB[k] = tB at *
   generalize flat5 cs' = fl at *
   dsimp only at HST
   clear HX1 HX2 HE' HR' HY' HC' HX' HS1' HS2' HE HR HY HS1 HS2
   have hS0 : FvS S q b1 b2 (o1 + k * 2) (o2 + k * 2) tA tB x1 x2 d1 d2 h.length wr.drew := ⟨s1, p0, p1, r0, r1, hlen⟩
   have hqb : ∀ W : World, W.heap[q]? = wr.heap[q]? → Sem.run Tryz.prog (Builtin.len_ #[121] 3 #[.map (some q)]) W = .ok (.int .i64 (h.length : Int)) W := fun W hW => by
    rw [run_len Tryz.underlying121 (HML.out.1.kept hW), HML.out.2]
   have KP : Hid (∀ W : World, W.heap[S]? = wr.heap[S]? → W.heap[b1]? = wr.heap[b1]? → W.heap[b2]? = wr.heap[b2]? → W.heap[q]? = wr.heap[q]? → FvS S q b1 b2 (o1 + k * 2) (o2 + k * 2) tA tB x1 x2 d1 d2 h.length W) := fun W h1 h2 h3 h4 => ⟨by rw [World.cell?_of_block h1]; exact s1, by rw [World.cell?_of_block h2]; exact p0, by rw [World.cell?_of_block h2]; exact p1, by rw [World.cell?_of_block h3]; exact r0, by rw [World.cell?_of_block h3]; exact r1, hqb W h4⟩
   have hSl : S < wr.heap.size := HB.out.lt
   have hb1l : b1 < wr.heap.size := cell_lt p0
   have hb2l : b2 < wr.heap.size := cell_lt r0
   have hqll : q < wr.heap.size := HML.out.1.lt
   have HSA : Hid (∀ o, FvS S q b1 b2 (o1 + k * 2) (o2 + k * 2) tA tB x1 x2 d1 d2 h.length (wr.drew.alloc o)) := fun o => KP.out (wr.drew.alloc o) (Below.heap_alloc _ _ _ (by simpa using hSl)) (Below.heap_alloc _ _ _ (by simpa using hb1l)) (Below.heap_alloc _ _ _ (by simpa using hb2l)) (Below.heap_alloc _ _ _ (by simpa using hqll))
   have KG : Hid (∀ (o : Obj) (w3 : World), (wr.drew.alloc o).grownBy w3 td'.ownBlock → w3.heap[S]? = wr.heap[S]? ∧ w3.heap[b1]? = wr.heap[b1]? ∧ w3.heap[b2]? = wr.heap[b2]? ∧ w3.heap[q]? = wr.heap[q]?) := fun o w3 hg => ⟨(hg.block S (by simp; omega) HSNE.out).trans (Below.heap_alloc _ _ _ (by simpa using hSl)), (hg.block b1 (by simp; omega) HNB1.out).trans (Below.heap_alloc _ _ _ (by simpa using hb1l)), (hg.block b2 (by simp; omega) HNB2.out).trans (Below.heap_alloc _ _ _ (by simpa using hb2l)), (hg.block q (by simp; omega) HNQ.out).trans (Below.heap_alloc _ _ _ (by simpa using hqll))⟩
   have KS : Hid (∀ (w3 : World) (v : Value), (w3.heap[S]? = wr.heap[S]? ∧ w3.heap[b1]? = wr.heap[b1]? ∧ w3.heap[b2]? = wr.heap[b2]? ∧ w3.heap[q]? = wr.heap[q]?) → FvS S q b1 b2 (o1 + k * 2) (o2 + k * 2) tA tB x1 x2 d1 d2 h.length (w3.setCell ⟨S, 0, none⟩ v)) := fun w3 v hh => by
    obtain ⟨e1, e2, e3, e4, e5, e6⟩ := KP.out w3 hh.1 hh.2.1 hh.2.2.1 hh.2.2.2
    have hb1S : b1 ≠ S := fun e => by have h1 := HB1S.out; exact h1 e
    have hb2S : b2 ≠ S := fun e => by have h1 := HB2S.out; exact h1 e
    refine ⟨(World.cell?_setCell_other _ _ _ _ (by simp)).trans e1, (World.cell?_setCell_other _ _ _ _ (fun e => hb1S (by injection e with e; exact e.symm))).trans e2, (World.cell?_setCell_other _ _ _ _ (fun e => hb1S (by injection e with e; exact e.symm))).trans e3, (World.cell?_setCell_other _ _ _ _ (fun e => hb2S (by injection e with e; exact e.symm))).trans e4, (World.cell?_setCell_other _ _ _ _ (fun e => hb2S (by injection e with e; exact e.symm))).trans e5, hqb _ ?_⟩
    rw [Below.heap_setCell _ _ _ _ (by simpa using HQS.out)]
    exact hh.2.2.2
   clear p0 p1 r0 r1 s1 hlen hqb
   go_wp2_with fail
   refine wp_region_held_drew (S := FvS S q b1 b2 (o1 + k * 2) (o2 + k * 2) tA tB x1 x2 d1 d2 h.length) (by kernel_rfl) hS0 (fun hHeld => ?_)
   clear hS0
   refine tkq (v := ?_) 0 rfl ?_ ?_
   rotate_left
   ·intro w' hSw
    obtain ⟨k1, k2, k3, k4, k5, k6⟩ := hSw
    go_simp <;> with_reducible rfl
   try simp only [Act.put, sq]
   refine tkq (v := ?_) 1 rfl ?_ ?_
   rotate_left
   ·intro w' hSw
    obtain ⟨k1, k2, k3, k4, k5, k6⟩ := hSw
    go_simp <;> with_reducible rfl
   try simp only [Act.put, sq]
   refine tkq (v := ?_) 2 rfl ?_ ?_
   rotate_left
   ·intro w' hSw
    obtain ⟨k1, k2, k3, k4, k5, k6⟩ := hSw
    go_simp <;> with_reducible rfl
   try simp only [Act.put, sq]
   refine tkq (v := ?_) 3 rfl ?_ ?_
   rotate_left
   ·intro w' hSw
    obtain ⟨k1, k2, k3, k4, k5, k6⟩ := hSw
    go_simp <;> with_reducible rfl
   try simp only [Act.put, sq]
   refine tkq (v := ?_) 5 rfl ?_ ?_
   rotate_left
   ·intro w' hSw
    obtain ⟨k1, k2, k3, k4, k5, k6⟩ := hSw
    go_simp <;> with_reducible rfl
   try simp only [Act.put, sq]
   refine tkq (v := ?_) 6 rfl ?_ ?_
   rotate_left
   ·intro w' hSw
    obtain ⟨k1, k2, k3, k4, k5, k6⟩ := hSw
    go_simp <;> with_reducible rfl
   try simp only [Act.put, sq]
   refine tkq (v := ?_) 7 rfl ?_ ?_
   rotate_left
   ·intro w' hSw
    obtain ⟨k1, k2, k3, k4, k5, k6⟩ := hSw
    go_simp <;> with_reducible rfl
   try simp only [Act.put, sq]
   refine tkq (v := ?_) 8 rfl ?_ ?_
   rotate_left
   ·intro w' hSw
    obtain ⟨k1, k2, k3, k4, k5, k6⟩ := hSw
    go_simp <;> with_reducible rfl
   try simp only [Act.put, sq]
   refine tkq (v := ?_) 9 rfl ?_ ?_
   rotate_left
   ·intro w' hSw
    obtain ⟨k1, k2, k3, k4, k5, k6⟩ := hSw
    go_simp <;> with_reducible rfl
   try simp only [Act.put, sq]
   refine tkq (v := ?_) 10 rfl ?_ ?_
   rotate_left
   ·intro w' hSw
    obtain ⟨k1, k2, k3, k4, k5, k6⟩ := hSw
    go_simp <;> with_reducible rfl
   try simp only [Act.put, sq]
   refine tkq (v := ?_) 11 rfl ?_ ?_
   rotate_left
   ·intro w' hSw
    obtain ⟨k1, k2, k3, k4, k5, k6⟩ := hSw
    go_simp <;> with_reducible rfl
   try simp only [Act.put, sq]
   refine tkq (v := ?_) 12 rfl ?_ ?_
   rotate_left
   ·intro w' hSw
    obtain ⟨k1, k2, k3, k4, k5, k6⟩ := hSw
    go_simp <;> with_reducible rfl
   try simp only [Act.put, sq]
   refine tkq (v := ?_) 13 rfl ?_ ?_
   rotate_left
   ·intro w' hSw
    obtain ⟨k1, k2, k3, k4, k5, k6⟩ := hSw
    go_simp <;> with_reducible rfl
   try simp only [Act.put, sq]
   refine tkq (v := ?_) 14 rfl ?_ ?_
   rotate_left
   ·intro w' hSw
    obtain ⟨k1, k2, k3, k4, k5, k6⟩ := hSw
    go_simp <;> with_reducible rfl
   try simp only [Act.put, sq]
   refine tkq (v := ?_) 15 rfl ?_ ?_
   rotate_left
   ·intro w' hSw
    obtain ⟨k1, k2, k3, k4, k5, k6⟩ := hSw
    go_simp <;> with_reducible rfl
   try simp only [Act.put, sq]
   refine tkq (v := ?_) 16 rfl ?_ ?_
   rotate_left
   ·intro w' hSw
    obtain ⟨k1, k2, k3, k4, k5, k6⟩ := hSw
    go_simp <;> with_reducible rfl
   try simp only [Act.put, sq]
   refine tkq (v := ?_) 17 rfl ?_ ?_
   rotate_left
   ·intro w' hSw
    obtain ⟨k1, k2, k3, k4, k5, k6⟩ := hSw
    go_simp <;> with_reducible rfl
   try simp only [Act.put, sq]
   refine tkq (v := ?_) 18 rfl ?_ ?_
   rotate_left
   ·intro w' hSw
    obtain ⟨k1, k2, k3, k4, k5, k6⟩ := hSw
    go_simp <;> with_reducible rfl
   try simp only [Act.put, sq]
   refine wpAnyH_ready (rs := [4, 19]) (by kernel_rfl) (by simp) ?_
   refine AllReadyH.cons rfl (fun K hK => ?_) (AllReadyH.cons rfl (fun K hK => ?_) AllReadyH.nil)
   ·go_simp
    refine hK.out _ _ (by exact hHeld) (fun hHeld => ?_)
    clear hK K
    try simp only [Act.put, sq]
    refine rdq 19 rfl fun K hK => ?_
    go_simp
    refine hK.out _ _ (by exact HSA.out _) (fun hHeld => ?_)
    clear hK K
    try simp only [Act.put, sq]
    refine rdq 20 rfl fun K hK => ?_
    refine step_append_lies _ rfl _ _ 122 rfl N 129 i0 _ 5 88 Tryz.underlying122 hi0 hz0 hz1 hz2 rfl (by decide) td' cs'.length fl rfl (by exact HOWN.out.alloc _) ⟨wr.heap.size, 0, none⟩ 1 1 [.string tA.name, .slice x1 tA.args.length d1, .string tB.name, .slice x2 tB.args.length d2, .int .i64 (h.length : Int)] rfl rfl (by exact cell_five_new _ _ _ _ _ _ _) (fun x hx => by simp at hx; rcases hx with rfl | rfl | rfl | rfl | rfl <;> rfl) (by decide) (by have := HLC.out; unfold maxLen; omega) (by have := HLC.out; omega) (by simp; omega) _ rfl ?_
    intro g cap w3 hown3 hgrow3 hat3 hlt3
    have hB3 := hide (((HB.out.drewN 1).alloc _).grown hgrow3 HSNE.out)
    have hc5 : w3.cell? ⟨S, 0, none⟩ = some td' := hB3.out.cell 0
    have hf5 := hB3.out.frozen 0
    have HS9 := hide (HST.out g cap w3 hown3 hgrow3 hat3)
    have HK3 := hide (KG.out _ _ hgrow3)
    refine hK.out _ _ (by exact KP.out w3 HK3.out.1 HK3.out.2.1 HK3.out.2.2.1 HK3.out.2.2.2) (fun hHeld => ?_)
    clear hown3 hgrow3 hat3 hB3 hlt3
    clear hK K
    try simp only [Act.put, sq]
    refine tkq (v := ?_) 21 rfl ?_ ?_
    rotate_left
    ·intro w' hSw
     obtain ⟨k1, k2, k3, k4, k5, k6⟩ := hSw
     go_simp <;> with_reducible rfl
    try simp only [Act.put, sq]
    refine tkq (v := ?_) 22 rfl ?_ ?_
    rotate_left
    ·intro w' hSw
     obtain ⟨k1, k2, k3, k4, k5, k6⟩ := hSw
     go_simp <;> with_reducible rfl
    try simp only [Act.put, sq]
    refine rdq 23 rfl fun K hK => ?_
    go_simp
    refine hK.out _ _ (by exact KS.out w3 _ HK3.out) (fun hHeld => ?_)
    clear hK K
    try simp only [Act.put, sq]
    refine wpAnyH_done (by kernel_rfl) ?_ _
    clear hHeld hc5 hf5
    go_wp2_with fail
    go_roundw
    case rel => exact HS9.out
    case measure => simp [intOf]
   ·go_simp
    refine hK.out _ _ (by exact HSA.out _) (fun hHeld => ?_)
    clear hK K
    try simp only [Act.put, sq]
    refine rdq 4 rfl fun K hK => ?_
    go_simp
    refine hK.out _ _ (by exact HSA.out _) (fun hHeld => ?_)
    clear hK K
    try simp only [Act.put, sq]
    refine rdq 20 rfl fun K hK => ?_
    refine step_append_lies _ rfl _ _ 122 rfl N 129 i0 _ 5 88 Tryz.underlying122 hi0 hz0 hz1 hz2 rfl (by decide) td' cs'.length fl rfl (by exact HOWN.out.alloc _) ⟨wr.heap.size, 0, none⟩ 1 1 [.string tA.name, .slice x1 tA.args.length d1, .string tB.name, .slice x2 tB.args.length d2, .int .i64 (h.length : Int)] rfl rfl (by exact cell_five_new _ _ _ _ _ _ _) (fun x hx => by simp at hx; rcases hx with rfl | rfl | rfl | rfl | rfl <;> rfl) (by decide) (by have := HLC.out; unfold maxLen; omega) (by have := HLC.out; omega) (by simp; omega) _ rfl ?_
    intro g cap w3 hown3 hgrow3 hat3 hlt3
    have hB3 := hide (((HB.out.drewN 1).alloc _).grown hgrow3 HSNE.out)
    have hc5 : w3.cell? ⟨S, 0, none⟩ = some td' := hB3.out.cell 0
    have hf5 := hB3.out.frozen 0
    have HS9 := hide (HST.out g cap w3 hown3 hgrow3 hat3)
    have HK3 := hide (KG.out _ _ hgrow3)
    refine hK.out _ _ (by exact KP.out w3 HK3.out.1 HK3.out.2.1 HK3.out.2.2.1 HK3.out.2.2.2) (fun hHeld => ?_)
    clear hown3 hgrow3 hat3 hB3 hlt3
    clear hK K
    try simp only [Act.put, sq]
    refine tkq (v := ?_) 21 rfl ?_ ?_
    rotate_left
    ·intro w' hSw
     obtain ⟨k1, k2, k3, k4, k5, k6⟩ := hSw
     go_simp <;> with_reducible rfl
    try simp only [Act.put, sq]
    refine tkq (v := ?_) 22 rfl ?_ ?_
    rotate_left
    ·intro w' hSw
     obtain ⟨k1, k2, k3, k4, k5, k6⟩ := hSw
     go_simp <;> with_reducible rfl
    try simp only [Act.put, sq]
    refine rdq 23 rfl fun K hK => ?_
    go_simp
    refine hK.out _ _ (by exact KS.out w3 _ HK3.out) (fun hHeld => ?_)
    clear hK K
    try simp only [Act.put, sq]
    refine wpAnyH_done (by kernel_rfl) ?_ _
    clear hHeld hc5 hf5
    go_wp2_with fail
    go_roundw
    case rel => exact HS9.out
    case measure => simp [intOf]
end Go.Proofs.YtdebiiodhkcnkaaGreat
