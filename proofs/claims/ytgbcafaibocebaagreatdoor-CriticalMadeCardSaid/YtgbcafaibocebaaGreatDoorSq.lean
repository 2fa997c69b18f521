import Derived.Deep.RegionHeld3
import Derived.WalkKit
namespace Go.Proofs.YtgbcafaibocebaaGreatDoor
theorem sqA : type_of% @List.setIfInBounds_toArray := @List.setIfInBounds_toArray
theorem sqB : type_of% @List.set_cons_zero := @List.set_cons_zero
theorem sqC : type_of% @List.set_cons_succ := @List.set_cons_succ
theorem sqD : type_of% @List.getElem_toArray := @List.getElem_toArray
theorem sqE : type_of% @List.getElem_cons_succ := @List.getElem_cons_succ
theorem sqF : type_of% @List.getElem_cons_zero := @List.getElem_cons_zero
theorem sq {α : Type} : (∀ (l : List α) (i : Nat) (a : α), l.toArray.setIfInBounds i a = (l.set i a).toArray) ∧ (∀ (x y : α) (l : List α), (x :: l).set 0 y = y :: l) ∧ (∀ (x y : α) (l : List α) (i : Nat), (x :: l).set (i + 1) y = x :: l.set i y) ∧
    (∀ (l : List α) (i : Nat) (h : i < l.toArray.size), l.toArray[i] = l[i]'(by simpa using h)) ∧ (∀ (a : α) (l : List α) (i : Nat) (h : i + 1 < (a :: l).length), (a :: l)[i + 1] = l[i]'(Nat.lt_of_succ_lt_succ h)) ∧ ∀ (a : α) (l : List α) (h : 0 < (a :: l).length), (a :: l)[0] = a :=
  ⟨fun _ _ _ => List.setIfInBounds_toArray .., fun _ _ _ => rfl, fun _ _ _ _ => rfl, fun _ _ _ => List.getElem_toArray .., fun _ _ _ _ => rfl, fun _ _ _ => rfl⟩
theorem tkq {P : Program} {ops : Array Oper} {Q : Exit → Act → World → Prop} {md : Region.Mode} {S : World → Prop} {oi : Oper} {v : Value} {fuel : Nat} {listed : Array Bool} {a : Act} {w : World} (i : Nat) (hi : ops[i]? = some oi)
    (hy : ∀ w, S w → (execOp a.eval oi).run P w = .ok (.value v) w) (h : wpAnyH P md ops Q S fuel (listed.setIfInBounds i true) (a.put oi.dst v) w)
    (hs : Region.noSelect ops = true := by kernel_rfl) (hf : Region.free md ops listed i = true := by kernel_rfl) (hr : (Region.ready md ops listed).contains i = true := by kernel_rfl)
    (hQ : ∀ c a w, Q (.panic c) (a.put oi.dst v) w → Q (.panic c) a w := by exact fun _ _ _ h => h) (hw : Region.wanted oi (yielded ops a.tmps) = true := by rfl) (hS : S w := by assumption) : wpAnyH P md ops Q S (fuel + 1) listed a w :=
  wpAnyH_take hi hs hf hr hQ (Or.inl ⟨hw, hy⟩) hS h
theorem tkz {P : Program} {ops : Array Oper} {Q : Exit → Act → World → Prop} {md : Region.Mode} {S : World → Prop} {oi : Oper} {v : Value} {fuel : Nat} {listed : Array Bool} {a a' : Act} {w : World} (i : Nat)
    (h : wpAnyH P md ops Q S fuel (listed.setIfInBounds i true) a' w) (hi : ops[i]? = some oi := by rfl)
    (hy : ∀ w, S w → (execOp a.eval oi).run P w = .ok (.value v) w := by intro w' hSw; go_simp <;> with_reducible rfl)
    (ha : a.put oi.dst v = a' := by first | (simp only [Act.put, sq]; rfl) | rfl)
    (hs : Region.noSelect ops = true := by kernel_rfl) (hf : Region.free md ops listed i = true := by kernel_rfl) (hr : (Region.ready md ops listed).contains i = true := by kernel_rfl)
    (hQ : ∀ c a w, Q (.panic c) (a.put oi.dst v) w → Q (.panic c) a w := by exact fun _ _ _ h => h) (hw : Region.wanted oi (yielded ops a.tmps) = true := by rfl) (hS : S w := by assumption) : wpAnyH P md ops Q S (fuel + 1) listed a w :=
  wpAnyH_take hi hs hf hr hQ (Or.inl ⟨hw, hy⟩) hS (by subst ha; exact h)
theorem tku {P : Program} {ops : Array Oper} {Q : Exit → Act → World → Prop} {md : Region.Mode} {S : World → Prop} {oi : Oper} {fuel : Nat} {listed : Array Bool} {a : Act} {w : World} (i : Nat)
    (h : wpAnyH P md ops Q S fuel (listed.setIfInBounds i true) (a.put oi.dst undef) w) (hi : ops[i]? = some oi := by rfl)
    (hs : Region.noSelect ops = true := by kernel_rfl) (hf : Region.free md ops listed i = true := by kernel_rfl) (hr : (Region.ready md ops listed).contains i = true := by kernel_rfl)
    (hQ : ∀ c a w, Q (.panic c) (a.put oi.dst undef) w → Q (.panic c) a w := by exact fun _ _ _ h => h) (hw : Region.wanted oi (yielded ops a.tmps) = false := by rfl) (hS : S w := by assumption) : wpAnyH P md ops Q S (fuel + 1) listed a w :=
  wpAnyH_take hi hs hf hr hQ (Or.inr ⟨hw, rfl⟩) hS h
theorem dnq {P : Program} {ops : Array Oper} {Q : Exit → Act → World → Prop} {md : Region.Mode} {S : World → Prop} {fuel : Nat} {listed : Array Bool} {a : Act} {w : World} (h : Q .normal a w) (hr : Region.ready md ops listed = [] := by kernel_rfl) : wpAnyH P md ops Q S fuel listed a w :=
  wpAnyH_done hr h fuel
theorem hmq {P : Program} (fn : Fn) (first cap : Array Value) (w : World) : (Instr.makeFunc fn first cap).run P w = .ok (.func fn first cap) w := rfl
theorem rdq {P : Program} {ops : Array Oper} {Q : Exit → Act → World → Prop} {md : Region.Mode} {S : World → Prop} {fuel : Nat} {listed : Array Bool} {a : Act} {w : World} (i : Nat) {o : Oper} (ho : ops[i]? = some o)
    (h : ∀ K' : Act → World → Prop, Shut (∀ a w, S w → (S w → wpAnyH P md ops Q S fuel (listed.setIfInBounds i true) a w) → K' a w) → if Region.wanted o (yielded ops a.tmps) = true then Oper.wp P o a w K' Q else K' (a.put o.dst undef) w)
    (hr : Region.ready md ops listed = [i] := by kernel_rfl) : wpAnyH P md ops Q S (fuel + 1) listed a w :=
  wpAnyH_ready hr (by simp) (AllReadyH.cons ho h AllReadyH.nil)
open Go.RowKit
abbrev zA (x:Int):Value:=.int .i64 x
abbrev zB:Value:=.slice none 0 0
abbrev zD (b i:Nat):Addr:=⟨b,i,none⟩
abbrev _root_.Go.World.zH (w:World) (r:Array Value) (T:Nat):World:=w.alloc (.cells r T)
abbrev zI:Array Value:=#[zA 0,zA 0,zB]
abbrev zC (b:Nat):Value:=.pointer (some ⟨b,0,none⟩)
theorem tkv {P:Program} {ops:Array Oper} {Q:Exit->Act->World->Prop} {md:Region.Mode} {S:World->Prop} {oi:Oper} {fuel:Nat} {listed:Array Bool} {a a':Act} {w:World} (i:Nat) (h:wpAnyH P md ops Q S fuel (listed.setIfInBounds i true) a' w) (hi:ops[i]?=some oi:=by rfl) (ha:a.put oi.dst undef=a':=by first|(simp only[Act.put,sq];rfl)|rfl) (hs:Region.noSelect ops=true:=by kernel_rfl) (hf:Region.free md ops listed i=true:=by kernel_rfl) (hr:(Region.ready md ops listed).contains i=true:=by kernel_rfl) (hQ:∀c a w,Q (.panic c) (a.put oi.dst undef) w->Q (.panic c) a w:=by exact fun _ _ _ h=>h) (hw:Region.wanted oi (yielded ops a.tmps)=false:=by rfl) (hS:S w:=by assumption):wpAnyH P md ops Q S (fuel+1) listed a w:=tku i (by subst ha;exact h) hi hs hf hr hQ hw hS
theorem _root_.Go.RowKit.Hid.o {p:Prop} (h:Go.RowKit.Hid p):p:=h
theorem _root_.Go.Shut.o {p:Prop} (h:Go.Shut p):p:=h
theorem Ad:type_of% @Or.inl:=@Or.inl
theorem Ae:type_of% @Or.inr:=@Or.inr
theorem Af:type_of% @Below.refl:=@Below.refl
theorem Ai:type_of% @Nat.le_refl:=@Nat.le_refl
theorem Aj:type_of% @if_neg:=@if_neg
theorem An:type_of% @bodyPost_ret:=@bodyPost_ret
theorem Aq:type_of% @Below.heap_setCell:=@Below.heap_setCell
theorem Ar:type_of% @if_pos:=@if_pos
theorem Aw:type_of% @World.cell?_setCell_other:=@World.cell?_setCell_other
theorem Ay:type_of% @World.cell?_setCell_same:=@World.cell?_setCell_same
theorem AG:type_of% @Nat.zero_le:=@Nat.zero_le
theorem AL:type_of% @Below.heap_alloc:=@Below.heap_alloc
theorem AN:type_of% @List.getElem_mem:=@List.getElem_mem
theorem AX:type_of% @List.take_of_length_le:=@List.take_of_length_le
theorem AY:type_of% @Nat.le_trans:=@Nat.le_trans
theorem Bf:type_of% @AllReadyH.cons:=@AllReadyH.cons
theorem Bg:type_of% @List.mem_append:=@List.mem_append
theorem Bo:type_of% @List.take_succ_eq_append_getElem:=@List.take_succ_eq_append_getElem
theorem Bq:type_of% @List.mem_cons:=@List.mem_cons
theorem Bu:type_of% @List.length_cons:=@List.length_cons
theorem Bx:type_of% @congrArg:=@congrArg
theorem Cb:type_of% @List.map_cons:=@List.map_cons
theorem Ce:type_of% @List.mem_map:=@List.mem_map
theorem Cj:type_of% @List.cons_append:=@List.cons_append
theorem Cn:type_of% @Nat.lt_of_lt_of_le:=@Nat.lt_of_lt_of_le
theorem Cr:type_of% @List.map_append:=@List.map_append
theorem CE:type_of% @info_parts:=@info_parts
theorem CR:type_of% @wp_region_held_drew:=@wp_region_held_drew
theorem CV:type_of% @World.cell?_of_block:=@World.cell?_of_block
theorem CW:type_of% @World.size_alloc:=@World.size_alloc
theorem Da:type_of% @World.cell?_alloc_old:=@World.cell?_alloc_old
theorem Db:type_of% @wpAnyH_ready:=@wpAnyH_ready
theorem Dc:type_of% @AllReadyH.nil:=@AllReadyH.nil
theorem Dx:type_of% @List.length_append:=@List.length_append
theorem DU:type_of% @beq_eq_false_iff_ne:=@beq_eq_false_iff_ne
theorem DV:type_of% @Array.getElem?_eq_some_iff:=@Array.getElem?_eq_some_iff
theorem DW:type_of% @callsIn_wide:=@callsIn_wide
theorem D7:type_of% @dif_pos:=@dif_pos
theorem D8:type_of% @Nat.lt_succ_self:=@Nat.lt_succ_self
theorem D9:type_of% @List.nil_append:=@List.nil_append
theorem Ea:type_of% @List.length_map:=@List.length_map
theorem Eh:type_of% @Ne.symm:=@Ne.symm
theorem Ei:type_of% @List.any_eq_true:=@List.any_eq_true
theorem Et:type_of% @heap_alloc_new:=@heap_alloc_new
theorem EI:type_of% @List.getElem_cons_zero:=@List.getElem_cons_zero
theorem EJ:type_of% @List.take_append_drop:=@List.take_append_drop
theorem EK:type_of% @List.length_eq_zero_iff:=@List.length_eq_zero_iff
theorem EL:type_of% @Nat.zero_add:=@Nat.zero_add
theorem EZ:type_of% @IntKind.wrap_i64:=@IntKind.wrap_i64
theorem E4:type_of% @List.length_nil:=@List.length_nil
theorem E5:type_of% @List.take_length:=@List.take_length
theorem Ff:type_of% @List.take_succ_cons:=@List.take_succ_cons
theorem Fp:type_of% @List.length_pos_iff:=@List.length_pos_iff
theorem FL:type_of% @Bool.eq_iff_iff:=@Bool.eq_iff_iff
theorem F9:type_of% @Nat.add_zero:=@Nat.add_zero
theorem Ga:type_of% @run_underlying:=@run_underlying
theorem Gb:type_of% @List.filter_cons_of_pos:=@List.filter_cons_of_pos
theorem Gc:type_of% @List.pairwise_map:=@List.pairwise_map
theorem Gd:type_of% @Nat.ne_of_gt:=@Nat.ne_of_gt
theorem Gw:type_of% @List.getElem_cons_succ:=@List.getElem_cons_succ
theorem Gx:type_of% @Option.eq_none_or_eq_some:=@Option.eq_none_or_eq_some
theorem Gy:type_of% @World.ownsRow_nil:=@World.ownsRow_nil
theorem Gz:type_of% @List.append_assoc:=@List.append_assoc
theorem GC:type_of% @List.cons.injEq:=@List.cons.injEq
theorem GD:type_of% @List.filter_cons_of_neg:=@List.filter_cons_of_neg
theorem GE:type_of% @List.mem_singleton:=@List.mem_singleton
theorem G3:type_of% @ByteArray.toList_eq:=@ByteArray.toList_eq
theorem G4:type_of% @List.getElem?_eq_getElem:=@List.getElem?_eq_getElem
theorem G5:type_of% @Bool.and_eq_true:=@Bool.and_eq_true
theorem G6:type_of% @List.take_append_of_le_length:=@List.take_append_of_le_length
theorem G7:type_of% @Oper.semAt_some:=@Oper.semAt_some
theorem Hw:type_of% @Classical.byContradiction:=@Classical.byContradiction
theorem Hx:type_of% @List.all_eq_true:=@List.all_eq_true
theorem Hy:type_of% @List.map_nil:=@List.map_nil
theorem Hz:type_of% @List.getElem_of_mem:=@List.getElem_of_mem
theorem HH:type_of% @List.any_append:=@List.any_append
theorem H6:type_of% @Option.some.inj:=@Option.some.inj
theorem H7:type_of% @Option.some.injEq:=@Option.some.injEq
theorem H8:type_of% @MapKept.run_getObj_map:=@MapKept.run_getObj_map
theorem H9:type_of% @List.length_take:=@List.length_take
theorem IA:type_of% @MapKept.run_findKey:=@MapKept.run_findKey
theorem IB:type_of% @MapKept.heap_set:=@MapKept.heap_set
theorem ID:type_of% @List.length_singleton:=@List.length_singleton
theorem IE:type_of% @List.getElem?_toArray:=@List.getElem?_toArray
theorem IF:type_of% @List.prefix_refl:=@List.prefix_refl
theorem Jv:type_of% @Array.getElem?_eq_none:=@Array.getElem?_eq_none
theorem Jw:type_of% @Bool.eq_false_iff:=@Bool.eq_false_iff
theorem Jy:type_of% @Nat.add_assoc:=@Nat.add_assoc
theorem Jz:type_of% @List.getElem_map:=@List.getElem_map
theorem JB:type_of% @List.pairwise_cons:=@List.pairwise_cons
theorem JC:type_of% @List.flatMap_cons:=@List.flatMap_cons
theorem JD:type_of% @List.drop_zero:=@List.drop_zero
theorem JE:type_of% @of_decide_eq_true:=@of_decide_eq_true
theorem Kj:type_of% @List.Perm.refl:=@List.Perm.refl
theorem Kk:type_of% @MapKept.bytes_beq:=@MapKept.bytes_beq
theorem Kl:type_of% @MapKept.run_checkKey:=@MapKept.run_checkKey
theorem Km:type_of% @List.pairwise_append:=@List.pairwise_append
theorem Kn:type_of% @List.getElem?_cons_zero:=@List.getElem?_cons_zero
theorem Ko:type_of% @List.find?_cons:=@List.find?_cons
theorem Kq:type_of% @List.getElem_append_left:=@List.getElem_append_left
theorem Kr:type_of% @List.pairwise_iff_getElem:=@List.pairwise_iff_getElem
theorem Ks:type_of% @List.drop_eq_getElem_cons:=@List.drop_eq_getElem_cons
theorem Kt:type_of% @List.drop_eq_nil_of_le:=@List.drop_eq_nil_of_le
theorem L3:type_of% @World.grownBy_alloc:=@World.grownBy_alloc
theorem L4:type_of% @List.getElem?_cons_succ:=@List.getElem?_cons_succ
theorem L7:type_of% @List.filterMap_append:=@List.filterMap_append
theorem L8:type_of% @List.drop_succ_cons:=@List.drop_succ_cons
theorem L9:type_of% @Array.replicate_succ:=@Array.replicate_succ
theorem Ma:type_of% @Array.replicate_zero:=@Array.replicate_zero
theorem Mb:type_of% @List.append_toArray:=@List.append_toArray
theorem Of:type_of% @List.getElem?_append_right:=@List.getElem?_append_right
theorem Og:type_of% @List.nodup_iff_pairwise_ne:=@List.nodup_iff_pairwise_ne
end Go.Proofs.YtgbcafaibocebaaGreatDoor
