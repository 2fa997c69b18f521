/- Walks: the reader's small functions. -/
import Derived.Test.YtdmaijmglblccaaGreatDoorZTopClassesOwn
import Derived.Test.YtdmaijmglblccaaGreatDoorZBTopClassesOwn
import Derived.Deep.RegionHeld3
namespace Go.Proofs.YtdmaijmglblccaaGreatDoor
open Go.RowKit
set_option linter.unusedSimpArgs false
set_option linter.unusedVariables false
set_option maxRecDepth 8000

theorem isSign_any (n : Int) (w : World) : Calls Tryz.prog 73 #[.int .u8 n] w fun e w' => e = .returned (.bool (alnB n)) ∧ w' = w := by
  go_enter Tryz.func73, Tryz.ntmps73
  go_wp2_with (first | (go_at_call 101; refine (isLetter_any _ _).mono ?_; rintro e w' ⟨rfl, rfl⟩) | (go_at_call 102; refine (isDigit_any _ _).mono ?_; rintro e w' ⟨rfl, rfl⟩))
  all_goals (go_ret; exact ⟨ret_bool (by simp_all [alnB]), rfl⟩)

/-- The reader's box. -/
def Bx (w : World) (B : Nat) (s : ByteArray) (i k : Nat) : Prop := Blk w B #[.string s, .int .i64 (i : Int), .int .i64 (k : Int)] 73
theorem Bx.c0 {w : World} {B i k : Nat} {s : ByteArray} (h : Bx w B s i k) : w.cell? ⟨B, 0, none⟩ = some (.string s) := Blk.cell h 0
theorem Bx.c1 {w : World} {B i k : Nat} {s : ByteArray} (h : Bx w B s i k) : w.cell? ⟨B, 1, none⟩ = some (.int .i64 (i : Int)) := Blk.cell h 1
theorem Bx.c2 {w : World} {B i k : Nat} {s : ByteArray} (h : Bx w B s i k) : w.cell? ⟨B, 2, none⟩ = some (.int .i64 (k : Int)) := Blk.cell h 2
theorem Bx.lt {w : World} {B i k : Nat} {s : ByteArray} (h : Bx w B s i k) : B < w.heap.size := Blk.lt h
theorem Bx.drewN {w : World} {B i k : Nat} {s : ByteArray} (h : Bx w B s i k) (n : Nat) : Bx (w.drewN n) B s i k := h
theorem Bx.next {w : World} {B i k : Nat} {s : ByteArray} (h : Bx w B s i k) : Bx (w.setCell ⟨B, 1, none⟩ (.int .i64 ((i : Int) + 1))) B s (i + 1) k := Blk.set h 1 _
theorem Bx.more {w : World} {B i k : Nat} {s : ByteArray} (h : Bx w B s i k) : Bx (w.setCell ⟨B, 2, none⟩ (.int .i64 ((k : Int) + 1))) B s i (k + 1) := Blk.set h 2 _

theorem atEnd_any (B i k : Nat) (s : ByteArray) (w : World) (h : Bx w B s i k) :
    Calls Tryz.prog 58 #[.pointer (some ⟨B, 0, none⟩)] w fun e w' => e = .returned (.bool (decide (i = s.size))) ∧ w' = w.drew := by
  have c0 := h.c0
  have c1 := h.c1
  clear h
  go_enter Tryz.func58, Tryz.ntmps58
  go_wp2_with fail
  go_region_held3 (fun w' => w'.cell? ⟨B, 0, none⟩ = some (.string s) ∧ w'.cell? ⟨B, 1, none⟩ = some (.int .i64 (i : Int))) (go_keep) (fail)
  go_wp2_with fail
  go_ret
  refine ⟨ret_bool ?_, rfl⟩
  rw [Bool.eq_iff_iff]; simp <;> omega

/-- What is thrown. -/
def thrown (r : Int) : Ending := .panicked [{ v := .iface 28 (.int .i64 r), recovered := false }]
theorem rdRefuse_any (B i k : Nat) (s : ByteArray) (w : World) (h : Bx w B s i k) :
    Calls Tryz.prog 74 #[.pointer (some ⟨B, 0, none⟩)] w fun e w' => e = thrown (if i = s.size then 13 else 12) ∧ w' = w.drew := by
  unfold thrown
  by_cases he : i = s.size
  · rw [if_pos he]
    have HE := hide he
    go_enter Tryz.func74, Tryz.ntmps74
    go_wp2_with fail
    refine (atEnd_any B i k s _ h).mono ?_
    rintro e w' ⟨rfl, rfl⟩
    rw [show decide (i = s.size) = true by simpa using HE.out]
    clear he
    go_wp2_with fail
    exact ⟨rfl, rfl, rfl⟩
  · rw [if_neg he]
    have HE := hide he
    go_enter Tryz.func74, Tryz.ntmps74
    go_wp2_with fail
    refine (atEnd_any B i k s _ h).mono ?_
    rintro e w' ⟨rfl, rfl⟩
    rw [show decide (i = s.size) = false by simpa using HE.out]
    clear he
    go_wp2_with fail
    exact ⟨rfl, rfl, rfl⟩

theorem atEnd_yes (B i k : Nat) (s : ByteArray) (he : i = s.size) (w : World) (h : Bx w B s i k) :
    Calls Tryz.prog 58 #[.pointer (some ⟨B, 0, none⟩)] w fun e w' => e = .returned (.bool true) ∧ ∃ m, w' = w.drewN m := by
  have h1 := atEnd_any B i k s w h
  rw [show decide (i = s.size) = true by simpa using he] at h1
  exact h1.mono fun e w' h => ⟨h.1, 1, h.2⟩
theorem atEnd_no (B i k : Nat) (s : ByteArray) (he : ¬ i = s.size) (w : World) (h : Bx w B s i k) :
    Calls Tryz.prog 58 #[.pointer (some ⟨B, 0, none⟩)] w fun e w' => e = .returned (.bool false) ∧ ∃ m, w' = w.drewN m := by
  have h1 := atEnd_any B i k s w h
  rw [show decide (i = s.size) = false by simpa using he] at h1
  exact h1.mono fun e w' h => ⟨h.1, 1, h.2⟩

/-- What taking a sign does. -/
def TookPost (w : World) (B i k : Nat) (s : ByteArray) (c : Int) (e : Ending) (w' : World) : Prop :=
  if i < s.size ∧ byteAt s i = c then e = .returned (.bool true) ∧ Bx w' B s (i + 1) k ∧ Ex B w w' ∧ w'.heap.size = w.heap.size else e = .returned (.bool false) ∧ ∃ n, w' = w.drewN n

set_option maxHeartbeats 1000000 in
theorem take_any (B i k : Nat) (s : ByteArray) (c : Int) (hi : i ≤ s.size) (hs : s.size ≤ 4000) (w : World) (h : Bx w B s i k) :
    Calls Tryz.prog 56 #[.pointer (some ⟨B, 0, none⟩), .int .u8 c] w fun e w' => TookPost w B i k s c e w' := by
  have H := hide h
  have c0 := h.c0
  have c1 := h.c1
  have cf := Blk.frozen h
  clear h
  by_cases he : i = s.size
  · have HP : Hid (∀ w', (∃ n, w' = w.drewN n) → TookPost w B i k s c (.returned (.bool false)) w') := fun w' hw => by
      unfold TookPost; rw [if_neg (by omega)]; exact ⟨rfl, hw⟩
    have HE := hide he
    clear he hi
    go_enter Tryz.func56, Tryz.ntmps56
    go_wp2_with fail
    go_quiet ((go_at_call 58; refine Calls.quiet_of (atEnd_yes B i k s HE.out _ ?_); exact H.out.drewN _))
    go_wp2_with fail
    go_ret
    exact HP.out _ ⟨_, rfl⟩
  · have hlt : i < s.size := by omega
    have hb := hide (byteAt_of hlt)
    have HE := hide he
    clear he
    by_cases hc : byteAt s i = c
    · have hc2 : ((s[i].toNat : Int) != c) = false := by rw [hb.out, hc]; simp
      have HC := hide hc
      clear hc
      go_enter Tryz.func56, Tryz.ntmps56
      go_wp2_with fail
      go_quiet ((go_at_call 58; refine Calls.quiet_of (atEnd_no B i k s HE.out _ ?_); exact H.out.drewN _))
      go_wp2_with fail
      go_ret
      unfold TookPost
      rw [if_pos ⟨hlt, HC.out⟩]
      exact ⟨rfl, (H.out.drewN _).next, ((Ex.refl _ _).drewN _).set _ _, by simp [World.setCell]⟩
    · have hc2 : ((s[i].toNat : Int) != c) = true := by rw [hb.out]; simpa using hc
      have HC := hide hc
      clear hc
      go_enter Tryz.func56, Tryz.ntmps56
      go_wp2_with fail
      go_quiet ((go_at_call 58; refine Calls.quiet_of (atEnd_no B i k s HE.out _ ?_); exact H.out.drewN _))
      go_wp2_with fail
      go_ret
      unfold TookPost
      rw [if_neg (fun h => HC.out h.2)]
      exact ⟨rfl, _, rfl⟩
/-- What asking for a sign does. -/
def RdAskPost (w : World) (B i k : Nat) (s : ByteArray) (c : Int) (e : Ending) (w' : World) : Prop :=
  if i < s.size ∧ byteAt s i = c then (∃ v, e = .returned v) ∧ Bx w' B s (i + 1) k ∧ Ex B w w' ∧ w'.heap.size = w.heap.size else e = thrown (if i = s.size then 13 else 12) ∧ ∃ n, w' = w.drewN n
set_option maxHeartbeats 1000000 in
theorem rdAsk_any (B i k : Nat) (s : ByteArray) (c : Int) (hi : i ≤ s.size) (hs : s.size ≤ 4000) (w : World) (h : Bx w B s i k) :
    Calls Tryz.prog 57 #[.pointer (some ⟨B, 0, none⟩), .int .u8 c] w fun e w' => RdAskPost w B i k s c e w' := by
  have H := hide h
  clear h
  have HT := hide (take_any B i k s c hi hs w H.out)
  go_enter Tryz.func57, Tryz.ntmps57
  go_wp2_with fail
  refine HT.out.mono ?_
  intro e w' hp
  unfold TookPost at hp
  by_cases hc : i < s.size ∧ byteAt s i = c
  · rw [if_pos hc] at hp
    obtain ⟨rfl, h1, h2, h3⟩ := hp
    have HB := hide h1
    have HX := hide h2
    have HZ := hide h3
    have HC := hide hc
    clear h1 h2 h3 hc
    go_wp2_with fail
    refine bodyPost_ret (v := .tuple #[]) (by simp [results, Tryz.results57, go_sem]) rfl ?_
    show RdAskPost w B i k s c _ _
    unfold RdAskPost
    rw [if_pos HC.out]
    exact ⟨⟨_, rfl⟩, HB.out, HX.out, HZ.out⟩
  · rw [if_neg hc] at hp
    obtain ⟨rfl, n, rfl⟩ := hp
    have HC := hide hc
    clear hc
    go_wp2_with fail
    refine (rdRefuse_any B i k s _ (H.out.drewN n)).mono ?_
    rintro e w' ⟨he, rfl⟩
    unfold thrown at he
    subst he
    generalize hr : (if i = s.size then (13 : Int) else 12) = r
    have HR := hide hr
    clear hr
    go_wp2_with fail
    refine ⟨rfl, ?_⟩
    show RdAskPost w B i k s c _ _
    unfold RdAskPost
    rw [if_neg HC.out, HR.out]
    exact ⟨rfl, n + 1, rfl⟩

/-- What counting a knot does. -/
def RdKnotPost (w : World) (B i k : Nat) (s : ByteArray) (e : Ending) (w' : World) : Prop :=
  if 200 < k + 1 then e = thrown 3 ∧ Ex B w w' else (∃ v, e = .returned v) ∧ Bx w' B s i (k + 1) ∧ Ex B w w' ∧ w'.heap.size = w.heap.size
set_option maxHeartbeats 1000000 in
theorem rdKnot_any (B i k : Nat) (s : ByteArray) (hk : k ≤ 4000) (w : World) (h : Bx w B s i k) :
    Calls Tryz.prog 55 #[.pointer (some ⟨B, 0, none⟩)] w fun e w' => RdKnotPost w B i k s e w' := by
  have H := hide h
  have c2 := h.c2
  have cf := Blk.frozen h
  have hl := h.lt
  have hw1 : IntKind.i64.wrap ((k : Int) + 1) = (k : Int) + 1 := by rw [IntKind.wrap_i64]; omega
  clear h
  by_cases hc : 200 < k + 1
  · have hc2 : (200 : Int) < (k : Int) + 1 := by omega
    have HC := hide hc
    clear hc
    go_enter Tryz.func55, Tryz.ntmps55
    go_wp2_with fail
    refine ⟨rfl, ?_⟩
    show RdKnotPost w B i k s _ _
    unfold RdKnotPost
    rw [if_pos HC.out]
    exact ⟨rfl, (Ex.refl _ _).set _ _⟩
  · have hc2 : ¬ (200 : Int) < (k : Int) + 1 := by omega
    have HC := hide hc
    clear hc
    go_enter Tryz.func55, Tryz.ntmps55
    go_wp2_with fail
    refine bodyPost_ret (v := .tuple #[]) (by simp [results, Tryz.results55, go_sem]) rfl ?_
    show RdKnotPost w B i k s _ _
    unfold RdKnotPost
    rw [if_neg HC.out]
    exact ⟨⟨_, rfl⟩, H.out.more, (Ex.refl _ _).set _ _, by simp [World.setCell]⟩
end Go.Proofs.YtdmaijmglblccaaGreatDoor
