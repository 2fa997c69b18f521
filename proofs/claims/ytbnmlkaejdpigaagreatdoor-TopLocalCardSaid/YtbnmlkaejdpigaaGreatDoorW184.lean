import Derived.Test.YtbnmlkaejdpigaaGreatDoorW183
namespace Go.Proofs.YtbnmlkaejdpigaaGreatDoor
open Go.RowKit Go.Shelf
set_option linter.unusedSimpArgs false
set_option linter.unusedVariables false
set_option maxRecDepth 8000
theorem look_nil (n : ByteArray) (w : World) : (Instr.lookup 87 (.map none) (.string n) true).run Tryz.prog w = .ok (.tuple #[.agg #[.string ⟨#[]⟩, .slice none 0 0], .bool false]) w := by
 have hz : (zeroValue 32).run Tryz.prog w = .ok (.agg #[.string ⟨#[]⟩, .slice none 0 0]) w := Tryz.zeroValue32 w
 have hc : ∀ b, (Instr.checkKey b 10000 9 (.string n)).run Tryz.prog w = .ok () w := fun b => MapKept.run_checkKey (k := .string n) Tryz.underlying9 (by simp [MapKept.IsKey]) b 9999
 simp [Instr.lookup, run_underlying Tryz.underlying87, hc, Result.andThen, hz, MapKept.run_findKey (P := Tryz.prog) (w := w) (l := []) (k := .string n) (a := none) Tryz.underlying9 rfl]
theorem forT_memT : ∀ {ls : List Bd} {s : ByteArray} {x : Tm}, forT ls s = some x → ∃ d ∈ ls, d.t = x
 | [], s, x, h => by simp [forT] at h
 | d :: ls, s, x, h => by
  unfold forT at h
  split at h
  ·exact ⟨d, by simp, by simpa using h⟩
  ·obtain ⟨d', hd, e⟩ := forT_memT h
   exact ⟨d', by simp [hd], e⟩
theorem MapV.look {w : World} {X : Nat → Prop} {mv : Option Nat} {ls : List Bd} (h : MapV w X mv ls) (s : ByteArray) :
  (forT ls s = none → ∀ o o', (Instr.lookup 87 (.map mv) (.string s) true).run Tryz.prog ((w.alloc o).alloc o') = .ok (.tuple #[.agg #[.string ⟨#[]⟩, .slice none 0 0], .bool false]) ((w.alloc o).alloc o')) ∧
  ∀ x, forT ls s = some x → ∃ a c, Sl w X a x.args ∧ ∀ o o', (Instr.lookup 87 (.map mv) (.string s) true).run Tryz.prog ((w.alloc o).alloc o') = .ok (.tuple #[.agg #[.string x.name, .slice a x.args.length c], .bool true]) ((w.alloc o).alloc o') := by
 rcases h with ⟨rfl, rfl⟩ | ⟨q, L, rfl, hM, hP⟩
 ·exact ⟨fun _ o o' => look_nil s _, fun x hx => by simp [forT] at hx⟩
 ·have hz : ∀ w', (zeroValue 32).run Tryz.prog w' = .ok (.agg #[.string ⟨#[]⟩, .slice none 0 0]) w' := fun w' => Tryz.zeroValue32 w'
  have hM' := fun o o' : Obj => (hM.kept (Below.heap_alloc w o _ hM.lt)).kept (Below.heap_alloc (w.alloc o) o' _ (by have := hM.lt; simp; omega))
  refine ⟨fun hf o o' => ?_, fun x hf => ?_⟩
  ·have hg := (hP.get s).1 hf
   rw [run_look (P := Tryz.prog) Tryz.underlying87 Tryz.underlying9 (hz _) (hM' o o') s, hg]; rfl
  ·obtain ⟨a1, c1, hg, hs1⟩ := (hP.get s).2 x hf
   refine ⟨a1, c1, hs1, fun o o' => ?_⟩
   rw [run_look (P := Tryz.prog) Tryz.underlying87 Tryz.underlying9 (hz _) (hM' o o') s, hg]; rfl
theorem MapV.exq {w w' : World} {X : Nat → Prop} {mv : Option Nat} {ls : List Bd} {I : Nat} {cs : Array Value} {T : Nat} (h : MapV w X mv ls) (he : ExQ (fun b => b = I) w w') (hI : Blk w I cs T) (hX : ∀ b, X b → b ≠ I) : MapV w' X mv ls := by
 rcases h with h | ⟨q, L, rfl, hM, hP⟩
 ·exact Or.inl h
 ·refine Or.inr ⟨q, L, rfl, hM.kept (he.block q hM.lt fun e => ?_), hP.imp fun a l hs => hs.exq he hX⟩
  obtain ⟨es, clk, h1, _⟩ := hM
  rw [e] at h1
  unfold Blk at hI
  rw [hI] at h1
  cases h1
theorem MapV.later {w w' : World} {X : Nat → Prop} {mv : Option Nat} {ls : List Bd} (h : MapV w X mv ls) (hb : Below w.heap.size w w') : MapV w' X mv ls := by
 rcases h with h | ⟨q, L, rfl, hE⟩
 ·exact Or.inl h
 ·exact Or.inr ⟨q, L, rfl, hE.later hb⟩
theorem MapV.mono {w : World} {X Y : Nat → Prop} {mv : Option Nat} {ls : List Bd} (h : MapV w X mv ls) (hk : ∀ b, X b → b < w.heap.size → Y b) : MapV w Y mv ls := by
 rcases h with h | ⟨q, L, rfl, hM, hP⟩
 ·exact Or.inl h
 ·exact Or.inr ⟨q, L, rfl, hM, hP.imp fun a l hs => hs.mono hk⟩
theorem QV.exqE {w w' : World} {X Q : Nat → Prop} {v : Value} {l : List Pr} (h : QV w X v l) (he : ExQ Q w w') (hX : ∀ b, X b → ¬ Q b) : QV w' X v l :=
 ((h.mono (Y := fun b => X b ∧ b < w.heap.size) fun b h1 h2 => ⟨h1, h2⟩).kept fun b hb => he.block b hb.2 (hX b hb.1)).mono fun b hb _ => hb.1
theorem Row.exqI {w w' : World} {N T I : Nat} {Y : Nat → Prop} {v : Value} {l : List Tm} {xs : List Value} (h : Row w N T Y v l xs) (he : ExQ (fun b => b = I) w w') (hI : I < N) (hY : ∀ b, Y b → b ≠ I) : Row w' N T Y v l xs := by
 refine ⟨ownsRow_at h.own fun g hg => he.block g (h.own.lt g hg).2 (by have := (h.own.lt g hg).1; omega), h.row.imp fun a k hs => hs.exq he fun b hb => ?_⟩
 rcases hb with hb | hb
 ·exact hY b hb
 ·omega
def EnInv (rs : List Pr) (C : Tm → Tm) (m d k : Nat) (s : ByteArray) (l : List Tm) (ls : List Bd) (X : Nat → Prop) (I : Nat) (ua : Option Addr) (uc : Nat) (w : World) (i : Value) (wr : World) : Prop :=
 ∃ (j : Nat) (ys : List Tm) (v : Value) (xs : List Value) (d1 : Nat), j ≤ l.length ∧ i = .int .i64 (j : Int) ∧ ys.length = j ∧ (∀ y ∈ ys, noStep rs y) ∧ d ≤ d1 ∧ d1 ≤ m ∧ endP rs true (m - d) (C ⟨s, gL ls l⟩) = shiftN (d1 - d) (endP rs true (m - d1) (C ⟨s, ys ++ gL ls (l.drop j)⟩)) ∧ sizeL [(⟨s, ys ++ gL ls (l.drop j)⟩ : Tm)] + k ≤ 2000 ∧
  Blk wr I #[.slice ua rs.length uc, .int .i64 (m : Int), .int .i64 (d1 : Int), .int .i64 ((sizeL [(⟨s, ys ++ gL ls (l.drop j)⟩ : Tm)] + k : Nat) : Int)] 95 ∧ Blk wr (w.heap.size + 1) #[.string ⟨#[]⟩, .slice none 0 0] 32 ∧ Blk wr (w.heap.size + 3) #[.string s, v] 32 ∧ Row wr (w.heap.size + 4) 32 X v ys xs ∧ ExQ (fun b => b = I) w wr ∧ w.heap.size + 4 ≤ wr.heap.size
theorem size_midE (s : ByteArray) (ys : List Tm) (x : Tm) (r : List Tm) : sizeL [(⟨s, ys ++ x :: r⟩ : Tm)] = sizeL [x] + (1 + sizeL ys + sizeL r) := by
 have e : sizeL (ys ++ x :: r) = sizeL ys + (sizeL [x] + sizeL r) := by
  rw [sizeL_append]
  have := sizeL_append [x] r
  rw [← this]; rfl
 have : sizeL [(⟨s, ys ++ x :: r⟩ : Tm)] = 1 + sizeL (ys ++ x :: r) := by simp [sizeL]
 omega
theorem gL_dropR (ls : List Bd) {l : List Tm} {j : Nat} (h : j < l.length) : gL ls (l.drop j) = gT ls l[j] :: gL ls (l.drop (j + 1)) := by
 rw [List.drop_eq_getElem_cons h, gL_cons]
set_option maxHeartbeats 4000000 in
theorem end_of (rs : List Pr) (ua : Option Addr) (uc I m f : Nat) (hK : KnotC rs ua uc I m f) : EndC rs ua uc I m f := by
 intro C k d t
 induction t using Tm.ind generalizing C k d with
 | h s l ih =>
 intro ls mv a c w X0 hC hf hd hu0 hs0 hmv0 hwi hX0 hz hzt hI
 obtain ⟨X, hXX, hX, hXw, hu, hs, hmv⟩ : ∃ X : Nat → Prop, (∀ b, X b → X0 b) ∧ (∀ b, X b → b ≠ I) ∧ (∀ b, X b → b < w.heap.size) ∧ QV w X (.slice ua rs.length uc) rs ∧ Sl w X a l ∧ MapV w X mv ls := ⟨fun b => X0 b ∧ b < w.heap.size, fun _ h => h.1, fun b h => hX0 b h.1, fun _ h => h.2, hu0.mono fun b h1 h2 => ⟨h1, h2⟩, hs0.mono fun b h1 h2 => ⟨h1, h2⟩, hmv0.mono fun b h1 h2 => ⟨h1, h2⟩⟩
 have IH := hide ih
 have HK := hide hK
 have HXX := hide hXX
 have HX := hide hX
 have HXW := hide hXw
 have HC := hide hC
 have HU := hide hu
 have HS := hide hs
 have HM := hide hmv
 have HWI := hide hwi
 have HI := hide hI
 have hIl := hI.lt
 have hl := hs.1
 obtain ⟨lk0, lk1⟩ := hmv.look s
 clear ih hK hXX hX hXw hC hu hs hmv hwi hI hu0 hs0 hmv0 hX0
 cases hf0 : forT ls s with
 | some x =>
  obtain ⟨a1, c1, hs1, hlook⟩ := lk1 x hf0
  have HG : Hid (gT ls ⟨s, l⟩ = x) := gT_some hf0
  have HS1 := hide hs1
  have HNS : Hid (noStep rs x) := by
   obtain ⟨dd, hdd, e⟩ := forT_memT hf0
   rw [← e]
   exact HWI.out dd hdd
  have HZ := hide hz
  rw [HG.out] at HI HZ
  rw [HG.out]
  clear lk0 lk1 hf0 hs1 hz
  go_enter Tryz.func53, Tryz.ntmps53
  go_wp2_with fail
  refine bodyPost_ret (v := .tuple #[.agg #[.string x.name, .slice a1 x.args.length c1], .int .i64 0]) (by simp [results, Tryz.results53, go_sem, World.cell?_setCell_same, World.cell?_setCell_other]) rfl ?_
  have fin : ∀ w', Below w.heap.size w w' → InPost rs C m d k x X0 I ua uc w (.returned (.tuple #[.agg #[.string x.name, .slice a1 x.args.length c1], .int .i64 0])) w' := fun w' hb =>
   ⟨ExQ.ofBelow hb, x, a1, c1, 0, rfl, (HS1.out.later hb).mono fun b hb _ => Or.inl ⟨HXX.out b hb, HXW.out b hb⟩, Or.inl ⟨rfl, d, InOk.here hd HNS.out (by rw [HC.out.2]; exact HZ.out), HI.out.below hb hIl⟩⟩
  exact fin _ (by first | exact below3 _ _ _ | exact ((below3 _ _ _).setCell (by simp) _).setCell (by simp) _)
 | none =>
  have hlook := lk0 hf0
  have HG : Hid (gT ls ⟨s, l⟩ = ⟨s, gL ls l⟩) := gT_none hf0
  have HZ := hide hz
  rw [HG.out] at HI HZ
  rw [HG.out]
  clear lk0 lk1 hf0 hz
  have HLEN : Hid (l.length ≤ 2000) := by
   have h1 := sizeL_len l
   have h2 : sizeL [(⟨s, l⟩ : Tm)] = 1 + sizeL l := by simp [sizeL]
   unfold Hid
   omega
  have HW : Hid (∃ W, W = (((w.alloc (.cells #[.string s, .slice a l.length c] 32)).alloc (.cells #[.string ⟨#[]⟩, .slice none 0 0] 32)).alloc (.cells #[.string ⟨#[]⟩, .slice none 0 0] 32)).alloc (.cells #[.string s, .slice none 0 0] 32) ∧ Below w.heap.size w W ∧ W.heap.size = w.heap.size + 4 ∧ Blk W (w.heap.size + 1) #[.string ⟨#[]⟩, .slice none 0 0] 32 ∧ Blk W (w.heap.size + 3) #[.string s, .slice none 0 0] 32) := by
   obtain ⟨h1, h2, h3⟩ := allocs_facts [(.cells #[.string s, .slice a l.length c] 32 : Obj), (.cells #[.string ⟨#[]⟩, .slice none 0 0] 32 : Obj), (.cells #[.string ⟨#[]⟩, .slice none 0 0] 32 : Obj), (.cells #[.string s, .slice none 0 0] 32 : Obj)] w
   exact ⟨_, rfl, h1, h2, h3 1 _ rfl, h3 3 _ rfl⟩
  go_enter Tryz.func53, Tryz.ntmps53
  go_wp2_with fail
  obtain ⟨w0, hw0, hb0, hz0, hr0, ho0⟩ := HW.out
  rw [← hw0]
  clear hw0 HW hlook
  have HB0 := hide hb0
  have HR0 := hide hr0
  have HO0 := hide ho0
  have HZ0 := hide hz0
  clear hb0 hr0 ho0 hz0
  go_loopw [30] (fun i wr => EnInv rs C m d k s l ls X I ua uc w i wr) (fun i wr => l.length - (intOf i).toNat)
  case atStart =>
   refine ⟨0, [], .slice none 0 0, [], d, Nat.zero_le _, rfl, rfl, (fun y hy => by cases hy), Nat.le_refl _, hd, ?_, ?_, ?_, HR0.out, HO0.out, Row.start _ _ _ _, ExQ.ofBelow HB0.out, by have := HZ0.out; omega⟩
   ·rw [Nat.sub_self, List.drop_zero, List.nil_append]
    exact (shiftN_zero (endP_form _ _ _ _)).symm
   ·rw [List.drop_zero, List.nil_append]; exact HZ.out
   ·rw [List.drop_zero, List.nil_append]; exact HI.out.below HB0.out hIl
  case round =>
   obtain ⟨j, ys, v, xs, d1, hj, rfl, hyl, hyn, hd1, hd1m, hen, hzj, hIj, hRj, hOj, hrow, hxj, hzr⟩ := hrel
   have HYN := hide hyn
   have HEN := hide hen
   have HZJ := hide hzj
   have HIJ := hide hIj
   have HRJ := hide hRj
   have HOJ := hide hOj
   have HROW := hide hrow
   have HXJ := hide hxj
   have HYL := hide hyl
   clear hyn hen hzj hIj hRj hrow hxj hyl
   by_cases hlt : j < l.length
   ·obtain ⟨b, o, a', c', rfl, e0, e1, hx⟩ := (HS.out.exq HXJ.out HX.out).get (Below.refl wr.heap.size wr) (fun _ _ h => h) j hlt
    have HXV := hide hx
    have hlt2 : (j : Int) < (l.length : Int) := by omega
    have HSM := hide (size_midE s ys (gT ls l[j]) (gL ls (l.drop (j + 1))))
    have HDR := hide (gL_dropR ls hlt)
    have HLJ : Hid (sizeL [l[j]] ≤ 2000) := by
     have h1 := sizeL_take l j hlt
     have h2 := sizeL_take_le l (j + 1)
     have h3 : sizeL [(⟨s, l⟩ : Tm)] = 1 + sizeL l := by simp [sizeL]
     unfold Hid
     omega
    have hIr := HIJ.out.lt
    have hba : Below wr.heap.size wr (wr.alloc (.cells #[.string l[j].name, .slice a' l[j].args.length c'] 32)) := (Below.refl _ _).alloc (Nat.le_refl _) _
    have hih := IH.out l[j] (List.getElem_mem hlt) (fun z => C ⟨s, ys ++ z :: gL ls (l.drop (j + 1))⟩) (1 + sizeL ys + sizeL (gL ls (l.drop (j + 1))) + k) d1 ls mv a' c' (wr.alloc (.cells #[.string l[j].name, .slice a' l[j].args.length c'] 32)) X (CtxZ.kid HC.out (noFit_mem.2 HYN.out)) (by omega) hd1m ((HU.out.exqE HXJ.out HX.out).later hba) (by obtain ⟨a2, c2, q2, h2⟩ := HXV.out.alloc (.cells #[.string l[j].name, .slice a' l[j].args.length c'] 32); cases q2; exact h2) ((HM.out.exq HXJ.out HI.out HX.out).later hba) HWI.out HX.out (by have h1 := HZJ.out; rw [HDR.out, HSM.out] at h1; omega) HLJ.out (by
     have h1 := HIJ.out.below hba hIr
     rw [HDR.out, HSM.out, Nat.add_assoc] at h1
     exact h1)
    have HIH := hide hih
    clear hih hba hx
    go_wp2_with fail
    refine HIH.out.mono ?_
    rintro e w1 ⟨x1, x, ax, cx, er, rfl, hsx, hcs⟩
    have hza : (wr.alloc (.cells #[.string l[j].name, .slice a' l[j].args.length c'] 32)).heap.size = wr.heap.size + 1 := by simp
    have hx1 : ExQ (fun b => b = I) wr w1 := (ExQ.ofBelow ((Below.refl _ _).alloc (Nat.le_refl _) (.cells #[.string l[j].name, .slice a' l[j].args.length c'] 32))).trans x1
    have hz1 : wr.heap.size + 1 ≤ w1.heap.size := by have := x1.size; omega
    have HX1 := hide hx1
    have HSX : Hid (Sl w1 (fun b => X b ∨ wr.heap.size ≤ b) ax x.args) := hsx.mono fun b hb _ => by
     rcases hb with h | h
     ·exact Or.inl h.1
     ·right; omega
    have HCS := hide hcs
    have R1 := hide (HRJ.out.exq hx1 (by omega))
    have O1 := hide (hOj.exq hx1 (by omega))
    clear x1 hsx hcs hx1 hza hOj
    rcases HCS.out with ⟨rfl, d2, hok, hI2⟩ | ⟨h0, hx0, he9⟩
    ·have HOK := hide hok
     have HI2 := hide hI2
     have HCS : Hid True := trivial
     clear hok hI2
     obtain ⟨wm, hbm, hzm, hem⟩ := HX1.out.mid
     have hrm : Row wm (w.heap.size + 4) 32 X v ys xs := HROW.out.exqI hem (by omega) HX.out
     have hbx : Below wm.heap.size wm (w1.alloc (.cells #[.string x.name, .slice ax x.args.length cx] 32)) := hbm.alloc hbm.size _
     obtain ⟨g, cap, w3, hrun, hrow3, hg3, hat3⟩ := terms_append hrm (by omega) (fun b hb => by have := HXW.out b hb; omega) hbx x ax cx ((HSX.out.mono fun b hb _ => by rcases hb with h | h; exact Or.inl h; exact Or.inr (by omega)).later ((Below.refl _ _).alloc (Nat.le_refl _) _)) (by have := HLEN.out; have := HYL.out; omega)
     rw [World.size_alloc] at hrun
     have HRUN := hide hrun
     have HROW3 := hide hrow3
     have hne : ∀ b, b < w.heap.size + 4 → some b ≠ v.ownBlock := fun b hb => hrm.ne hb
     have kg : ∀ b cs T, b < w.heap.size + 4 → Blk w1 b cs T → Blk w3 b cs T := fun b cs T hb hk => ((hk.alloc _).alloc _).grown hg3 (hne b hb)
     have R3 := hide (kg _ _ _ (by omega) R1.out)
     have O3 := hide (kg _ _ _ (by omega) O1.out)
     have I3 := hide (kg _ _ _ (by omega) HI2.out)
     have hz3 : w1.heap.size + 2 ≤ w3.heap.size := by have := hg3.size; simp at this; omega
     have X3 : Hid (ExQ (fun b => b = I) w w3) := ((HXJ.out.trans HX1.out).alloc _).alloc _ |>.grown hg3 (fun q hq => Or.inl (by have := (hrm.own.lt q hq).1; omega))
     clear hbm hzm hem hbx hrun hrow3 hg3 hat3 hne kg
     have o1 : ∀ o, (w1.alloc o).cell? ⟨w.heap.size + 1 + 1 + 1, 1, none⟩ = some v := fun o => (O1.out.alloc o).cell 1
     have p0 := O3.out.c1
     have pf := O3.out.frozen
     obtain ⟨va, vn, vc, hv⟩ : ∃ va vn vc, v = .slice va vn vc := by obtain ⟨q1, q2, q3, _⟩ := HROW.out.sl; exact ⟨q1, _, q2, q3⟩
     subst hv
     go_wp2_with (at_builtin; refine wpList_append_eq rfl _ _ _ _ rfl rfl rfl HRUN.out ?_)
     refine ⟨?_, by simp [intOf]; omega⟩
     obtain ⟨k1, k2, k3, k4, k5⟩ := HOK.out
     have e1 : (ys ++ [x]) ++ gL ls (l.drop (j + 1)) = ys ++ x :: gL ls (l.drop (j + 1)) := by simp
     have e2 := size_midE s ys x (gL ls (l.drop (j + 1)))
     refine ⟨j + 1, ys ++ [x], _, _, d2, by omega, by go_num, by rw [List.length_append, HYL.out]; rfl, fun y hy => ?_, by omega, k2, ?_, ?_, ?_, R3.out.setOther _ _ (by omega), O3.out.set 1 _, HROW3.out.setCell (by omega) (fun h => by have := HXW.out _ h; omega) _, X3.out.setNew (by omega) 1 _, by simp [World.setCell]; omega⟩
     ·rcases List.mem_append.1 hy with h | h
      ·exact HYN.out y h
      ·simp at h; rw [h]; exact k3
     ·rw [HEN.out, HDR.out, k5, shiftN_add, e1]
      congr 1
      omega
     ·rw [e1]
      have := k4
      rw [HC.out.2] at this
      exact this
     ·have h9 : sizeL [x] + (1 + sizeL ys + sizeL (gL ls (l.drop (j + 1))) + k) = sizeL [(⟨s, ys ++ x :: gL ls (l.drop (j + 1))⟩ : Tm)] + k := by omega
      have hIO : I ≠ w.heap.size + 1 + 1 + 1 := by omega
      rw [e1, ← h9]
      exact I3.out.setOther _ _ hIO
    ·have hne : ¬ (er = 0) := by rcases h0 with h | h <;> omega
     have HE9 := hide he9
     have H0 := hide h0
     have HCS : Hid True := trivial
     have r0 : ∀ o, (w1.alloc o).cell? ⟨w.heap.size + 1, 0, none⟩ = some (.string ⟨#[]⟩) := fun o => (R1.out.alloc o).cell 0
     have r1 : ∀ o, (w1.alloc o).cell? ⟨w.heap.size + 1, 1, none⟩ = some (.slice none 0 0) := fun o => (R1.out.alloc o).cell 1
     have rf : ∀ o i, (w1.alloc o).frozen? ⟨w.heap.size + 1, i, none⟩ = false := fun o => (R1.out.alloc o).frozen
     clear he9 h0 hx0
     go_wp2_with fail
     refine bodyPost_ret (v := .tuple #[.agg #[.string ⟨#[]⟩, .slice none 0 0], .int .i64 er]) (by simp [results, Tryz.results53, go_sem, World.cell?_setCell_same, World.cell?_setCell_other, r0, r1]) rfl ?_
     refine ⟨by first | exact (((HXJ.out.trans HX1.out).alloc _).setNew (by simp) 0 _).setNew (by simp) 1 _ | exact (((HXJ.out.trans HX1.out).setNew (by simp) 0 _).setNew (by simp) 1 _).alloc _, ⟨⟨#[]⟩, []⟩, none, 0, er, rfl, ⟨by simp, Or.inl rfl⟩, Or.inr ⟨H0.out, rfl, ?_⟩⟩
     rw [HEN.out, HDR.out, HE9.out]
     exact shiftN_err _ _ hne
   ·have hjl : j = l.length := by omega
    have HDE : Hid (ys ++ gL ls (l.drop j) = ys) := by
     unfold Hid
     rw [hjl, List.drop_length]
     simp [gL]
    rw [HDE.out] at HEN HZJ HIJ
    have hge : ¬ ((j : Int) < (l.length : Int)) := by omega
    obtain ⟨va, vc, hv, hsv⟩ := HROW.out.sl
    subst hv
    have HKN := hide (HK.out C k d1 ⟨s, ys⟩ va vc wr (fun b => X b ∨ w.heap.size + 4 ≤ b) HC.out (by omega) hd1m ((HU.out.exqE HXJ.out HX.out).mono fun b hb _ => Or.inl hb) hsv HYN.out (fun b hb => by rcases hb with h | h; exact HX.out b h; omega) HZJ.out HIJ.out)
    have o0 := hOj.c0
    have o1 : wr.cell? ⟨w.heap.size + 1 + 1 + 1, 1, none⟩ = some (.slice va ys.length vc) := hOj.cell 1
    clear hsv hOj
    go_wp2_with fail
    refine HKN.out.mono ?_
    rintro e w3 ⟨x3, x, ax, cx, er, rfl, hsx, hcs⟩
    have X3 := hide x3
    have HSX := hide hsx
    have HCS := hide hcs
    have hz8 := x3.size
    have R3 := hide (HRJ.out.exq x3 (by omega))
    clear x3 hsx hcs o0 o1
    have r0 := R3.out.c0
    have r1 := R3.out.c1
    have rf := R3.out.frozen
    go_wp2_with fail
    refine bodyPost_ret (v := .tuple #[.agg #[.string x.name, .slice ax x.args.length cx], .int .i64 er]) (by simp [results, Tryz.results53, go_sem, World.cell?_setCell_same, World.cell?_setCell_other, r0, r1]) rfl ?_
    refine ⟨((HXJ.out.trans X3.out).setNew (by simp) 0 _).setNew (by simp) 1 _, x, ax, cx, er, rfl, ?_, ?_⟩
    ·have hsv : Sl w3 (fun b => OldNew w X0 b ∧ b ≠ w.heap.size + 1) ax x.args := HSX.out.mono fun b hb hl => by
      rcases hb with ⟨hb, _⟩ | hb
      ·rcases hb with h | h
       ·have := HXW.out b h
        exact ⟨Or.inl ⟨HXX.out b h, this⟩, by omega⟩
       ·exact ⟨Or.inr (by omega), by omega⟩
      ·exact ⟨Or.inr (by omega), by omega⟩
     refine (hsv.kept fun b hb => ?_).mono fun b hb _ => hb.1
     rw [Below.heap_setCell _ _ _ _ (by simpa using hb.2), Below.heap_setCell _ _ _ _ (by simpa using hb.2)]
    ·rcases HCS.out with ⟨h0, d', hok, hI9⟩ | ⟨h0, hx0, he9⟩
     ·exact Or.inl ⟨h0, d', InOk.trans hd1 HEN.out hok, (hI9.setOther _ _ (by omega)).setOther _ _ (by omega)⟩
     ·refine Or.inr ⟨h0, hx0, ?_⟩
      rw [HEN.out, he9]
      exact shiftN_err _ _ (by rcases h0 with h | h <;> omega)
theorem inner_any (rs : List Pr) (hr : ∀ p ∈ rs, ruleE p = 0) (ua : Option Addr) (uc I m : Nat) (hm : m ≤ 400) : ∀ f, EndC rs ua uc I m f := by
 intro f
 induction f using Nat.strongRecOn with
 | ind f ih => exact end_of rs ua uc I m f (knot_of rs hr ua uc I m f hm ih)
end Go.Proofs.YtbnmlkaejdpigaaGreatDoor
