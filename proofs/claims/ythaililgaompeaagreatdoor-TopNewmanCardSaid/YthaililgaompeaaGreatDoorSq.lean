import Derived.Deep.RegionHeld3
import Derived.WalkKit
namespace Go.Proofs.YthaililgaompeaaGreatDoor
theorem sqA : type_of% @List.setIfInBounds_toArray := @List.setIfInBounds_toArray
theorem sqB : type_of% @List.set_cons_zero := @List.set_cons_zero
theorem sqC : type_of% @List.set_cons_succ := @List.set_cons_succ
theorem sqD : type_of% @List.getElem_toArray := @List.getElem_toArray
theorem sqE : type_of% @List.getElem_cons_succ := @List.getElem_cons_succ
theorem sqF : type_of% @List.getElem_cons_zero := @List.getElem_cons_zero
theorem sq {α : Type} : (∀ (l : List α) (i : Nat) (a : α), l.toArray.setIfInBounds i a = (l.set i a).toArray) ∧ (∀ (x y : α) (l : List α), (x :: l).set 0 y = y :: l) ∧ (∀ (x y : α) (l : List α) (i : Nat), (x :: l).set (i + 1) y = x :: l.set i y) ∧
    (∀ (l : List α) (i : Nat) (h : i < l.toArray.size), l.toArray[i] = l[i]'(by simpa using h)) ∧ (∀ (a : α) (l : List α) (i : Nat) (h : i + 1 < (a :: l).length), (a :: l)[i + 1] = l[i]'(Nat.lt_of_succ_lt_succ h)) ∧ ∀ (a : α) (l : List α) (h : 0 < (a :: l).length), (a :: l)[0] = a :=
  ⟨fun _ _ _ => List.setIfInBounds_toArray .., fun _ _ _ => rfl, fun _ _ _ _ => rfl, fun _ _ _ => List.getElem_toArray .., fun _ _ _ _ => rfl, fun _ _ _ => rfl⟩
theorem tkq {P : Program} {ops : Array Oper} {Q : Exit → Act → World → Prop} {md : Region.Mode} {S : World → Prop} {oi : Oper} {v : Value} {fuel : Nat} {listed : Array Bool} {a : Act} {w : World} (i : Nat) (hi : ops[i]? = some oi)
    (hy : ∀ w, S w → (execOp a.eval oi).run P w = .ok (.value v) w) (h : wpAnyH P md ops Q S fuel (listed.setIfInBounds i true) (a.put oi.dst v) w)
    (hs : Region.noSelect ops = true := by kernel_rfl) (hf : Region.free md ops listed i = true := by kernel_rfl) (hr : (Region.ready md ops listed).contains i = true := by kernel_rfl)
    (hQ : ∀ c a w, Q (.panic c) (a.put oi.dst v) w → Q (.panic c) a w := by exact fun _ _ _ h => h) (hw : Region.wanted oi (yielded ops a.tmps) = true := by rfl) (hS : S w := by assumption) : wpAnyH P md ops Q S (fuel + 1) listed a w :=
  wpAnyH_take hi hs hf hr hQ (Or.inl ⟨hw, hy⟩) hS h
theorem tkz {P : Program} {ops : Array Oper} {Q : Exit → Act → World → Prop} {md : Region.Mode} {S : World → Prop} {oi : Oper} {v : Value} {fuel : Nat} {listed : Array Bool} {a a' : Act} {w : World} (i : Nat)
    (h : wpAnyH P md ops Q S fuel (listed.setIfInBounds i true) a' w) (hi : ops[i]? = some oi := by rfl)
    (hy : ∀ w, S w → (execOp a.eval oi).run P w = .ok (.value v) w := by intro w' hSw; go_simp <;> with_reducible rfl)
    (ha : a.put oi.dst v = a' := by first | (simp only [Act.put, sq]; rfl) | rfl)
    (hs : Region.noSelect ops = true := by kernel_rfl) (hf : Region.free md ops listed i = true := by kernel_rfl) (hr : (Region.ready md ops listed).contains i = true := by kernel_rfl)
    (hQ : ∀ c a w, Q (.panic c) (a.put oi.dst v) w → Q (.panic c) a w := by exact fun _ _ _ h => h) (hw : Region.wanted oi (yielded ops a.tmps) = true := by rfl) (hS : S w := by assumption) : wpAnyH P md ops Q S (fuel + 1) listed a w :=
  wpAnyH_take hi hs hf hr hQ (Or.inl ⟨hw, hy⟩) hS (by subst ha; exact h)
theorem tku {P : Program} {ops : Array Oper} {Q : Exit → Act → World → Prop} {md : Region.Mode} {S : World → Prop} {oi : Oper} {fuel : Nat} {listed : Array Bool} {a : Act} {w : World} (i : Nat)
    (h : wpAnyH P md ops Q S fuel (listed.setIfInBounds i true) (a.put oi.dst undef) w) (hi : ops[i]? = some oi := by rfl)
    (hs : Region.noSelect ops = true := by kernel_rfl) (hf : Region.free md ops listed i = true := by kernel_rfl) (hr : (Region.ready md ops listed).contains i = true := by kernel_rfl)
    (hQ : ∀ c a w, Q (.panic c) (a.put oi.dst undef) w → Q (.panic c) a w := by exact fun _ _ _ h => h) (hw : Region.wanted oi (yielded ops a.tmps) = false := by rfl) (hS : S w := by assumption) : wpAnyH P md ops Q S (fuel + 1) listed a w :=
  wpAnyH_take hi hs hf hr hQ (Or.inr ⟨hw, rfl⟩) hS h
theorem dnq {P : Program} {ops : Array Oper} {Q : Exit → Act → World → Prop} {md : Region.Mode} {S : World → Prop} {fuel : Nat} {listed : Array Bool} {a : Act} {w : World} (h : Q .normal a w) (hr : Region.ready md ops listed = [] := by kernel_rfl) : wpAnyH P md ops Q S fuel listed a w :=
  wpAnyH_done hr h fuel
theorem hmq {P : Program} (fn : Fn) (first cap : Array Value) (w : World) : (Instr.makeFunc fn first cap).run P w = .ok (.func fn first cap) w := rfl
theorem rdq {P : Program} {ops : Array Oper} {Q : Exit → Act → World → Prop} {md : Region.Mode} {S : World → Prop} {fuel : Nat} {listed : Array Bool} {a : Act} {w : World} (i : Nat) {o : Oper} (ho : ops[i]? = some o)
    (h : ∀ K' : Act → World → Prop, Shut (∀ a w, S w → (S w → wpAnyH P md ops Q S fuel (listed.setIfInBounds i true) a w) → K' a w) → if Region.wanted o (yielded ops a.tmps) = true then Oper.wp P o a w K' Q else K' (a.put o.dst undef) w)
    (hr : Region.ready md ops listed = [i] := by kernel_rfl) : wpAnyH P md ops Q S (fuel + 1) listed a w :=
  wpAnyH_ready hr (by simp) (AllReadyH.cons ho h AllReadyH.nil)
open Go.RowKit
abbrev zA (x:Int):Value:=.int .i64 x
abbrev zB:Value:=.slice none 0 0
abbrev zD (b i:Nat):Addr:=⟨b,i,none⟩
abbrev _root_.Go.World.zH (w:World) (r:Array Value) (T:Nat):World:=w.alloc (.cells r T)
abbrev zI:Array Value:=#[zA 0,zA 0,zB]
abbrev zC (b:Nat):Value:=.pointer (some ⟨b,0,none⟩)
abbrev zd:Array Value:=#[.string ⟨#[]⟩,zB]
abbrev zc:Obj:=.cells zd 31
abbrev zh (r:Array Value) (T:Nat):Obj:=.cells r T
theorem tkv {P:Program} {ops:Array Oper} {Q:Exit->Act->World->Prop} {md:Region.Mode} {S:World->Prop} {oi:Oper} {fuel:Nat} {listed:Array Bool} {a a':Act} {w:World} (i:Nat) (h:wpAnyH P md ops Q S fuel (listed.setIfInBounds i true) a' w) (hi:ops[i]?=some oi:=by rfl) (ha:a.put oi.dst undef=a':=by first|(simp only[Act.put,sq];rfl)|rfl) (hs:Region.noSelect ops=true:=by kernel_rfl) (hf:Region.free md ops listed i=true:=by kernel_rfl) (hr:(Region.ready md ops listed).contains i=true:=by kernel_rfl) (hQ:∀c a w,Q (.panic c) (a.put oi.dst undef) w->Q (.panic c) a w:=by exact fun _ _ _ h=>h) (hw:Region.wanted oi (yielded ops a.tmps)=false:=by rfl) (hS:S w:=by assumption):wpAnyH P md ops Q S (fuel+1) listed a w:=tku i (by subst ha;exact h) hi hs hf hr hQ hw hS
theorem _root_.Go.RowKit.Hid.o {p:Prop} (h:Go.RowKit.Hid p):p:=h
theorem _root_.Go.Shut.o {p:Prop} (h:Go.Shut p):p:=h
theorem Ad:type_of% @Or.inr:=@Or.inr
theorem Ae:type_of% @Or.inl:=@Or.inl
theorem Ag:type_of% @Below.refl:=@Below.refl
theorem Ah:type_of% @if_neg:=@if_neg
theorem Al:type_of% @Nat.le_refl:=@Nat.le_refl
theorem An:type_of% @Below.heap_setCell:=@Below.heap_setCell
theorem Ao:type_of% @if_pos:=@if_pos
theorem Aq:type_of% @bodyPost_ret:=@bodyPost_ret
theorem Aw:type_of% @World.cell?_setCell_other:=@World.cell?_setCell_other
theorem Ay:type_of% @Below.heap_alloc:=@Below.heap_alloc
theorem Az:type_of% @World.cell?_setCell_same:=@World.cell?_setCell_same
theorem AM:type_of% @List.getElem_mem:=@List.getElem_mem
theorem Ba:type_of% @List.mem_append:=@List.mem_append
theorem Be:type_of% @Nat.zero_le:=@Nat.zero_le
theorem Bf:type_of% @Nat.le_trans:=@Nat.le_trans
theorem Bg:type_of% @List.length_cons:=@List.length_cons
theorem Bh:type_of% @List.mem_cons:=@List.mem_cons
theorem Bj:type_of% @List.cons_append:=@List.cons_append
theorem Bk:type_of% @List.mem_map:=@List.mem_map
theorem Bo:type_of% @List.map_cons:=@List.map_cons
theorem BH:type_of% @List.take_of_length_le:=@List.take_of_length_le
theorem BJ:type_of% @AllReadyH.cons:=@AllReadyH.cons
theorem B7:type_of% @Nat.lt_of_lt_of_le:=@Nat.lt_of_lt_of_le
theorem Cb:type_of% @congrArg:=@congrArg
theorem Ce:type_of% @World.cell?_of_block:=@World.cell?_of_block
theorem Ci:type_of% @List.take_succ_eq_append_getElem:=@List.take_succ_eq_append_getElem
theorem Cp:type_of% @World.size_alloc:=@World.size_alloc
theorem Cv:type_of% @List.length_append:=@List.length_append
theorem Cz:type_of% @World.cell?_alloc_old:=@World.cell?_alloc_old
theorem CE:type_of% @List.nil_append:=@List.nil_append
theorem CI:type_of% @List.map_append:=@List.map_append
theorem CO:type_of% @Array.getElem?_eq_some_iff:=@Array.getElem?_eq_some_iff
theorem CP:type_of% @callsIn_wide:=@callsIn_wide
theorem DA:type_of% @Nat.zero_add:=@Nat.zero_add
theorem DB:type_of% @List.length_nil:=@List.length_nil
theorem DM:type_of% @List.take_append_drop:=@List.take_append_drop
theorem DN:type_of% @List.append_assoc:=@List.append_assoc
theorem DO:type_of% @info_parts:=@info_parts
theorem D3:type_of% @wpAnyH_ready:=@wpAnyH_ready
theorem D5:type_of% @AllReadyH.nil:=@AllReadyH.nil
theorem D6:type_of% @List.any_eq_true:=@List.any_eq_true
theorem D7:type_of% @List.getElem?_toArray:=@List.getElem?_toArray
theorem D8:type_of% @List.take_length:=@List.take_length
theorem D9:type_of% @wp_region_held_drew:=@wp_region_held_drew
theorem Ei:type_of% @List.getElem?_cons_zero:=@List.getElem?_cons_zero
theorem Et:type_of% @List.getElem?_cons_succ:=@List.getElem?_cons_succ
theorem EI:type_of% @Ne.symm:=@Ne.symm
theorem EX:type_of% @Classical.byContradiction:=@Classical.byContradiction
theorem EY:type_of% @dif_pos:=@dif_pos
theorem EZ:type_of% @List.length_map:=@List.length_map
theorem Fj:type_of% @List.length_eq_zero_iff:=@List.length_eq_zero_iff
theorem Fk:type_of% @heap_alloc_new:=@heap_alloc_new
theorem Fl:type_of% @run_underlying:=@run_underlying
theorem Fm:type_of% @IntKind.wrap_i64:=@IntKind.wrap_i64
theorem FX:type_of% @List.getElem_cons_succ:=@List.getElem_cons_succ
theorem FY:type_of% @beq_eq_false_iff_ne:=@beq_eq_false_iff_ne
theorem FZ:type_of% @Bool.and_eq_true:=@Bool.and_eq_true
theorem F1:type_of% @List.getElem?_eq_getElem:=@List.getElem?_eq_getElem
theorem F2:type_of% @Nat.lt_succ_self:=@Nat.lt_succ_self
theorem F4:type_of% @if_true:=@if_true
theorem F5:type_of% @MapKept.run_getObj_map:=@MapKept.run_getObj_map
theorem Gq:type_of% @List.length_pos_iff:=@List.length_pos_iff
theorem Gr:type_of% @Option.some.injEq:=@Option.some.injEq
theorem Gs:type_of% @List.getElem_cons_zero:=@List.getElem_cons_zero
theorem GR:type_of% @List.all_eq_true:=@List.all_eq_true
theorem GT:type_of% @World.ownsRow_nil:=@World.ownsRow_nil
theorem GU:type_of% @MapKept.heap_set:=@MapKept.heap_set
theorem GV:type_of% @List.filter_cons_of_pos:=@List.filter_cons_of_pos
theorem GW:type_of% @Nat.ne_of_gt:=@Nat.ne_of_gt
theorem GX:type_of% @List.mem_append_left:=@List.mem_append_left
theorem GY:type_of% @List.take_succ_cons:=@List.take_succ_cons
theorem Hi:type_of% @List.getElem_of_mem:=@List.getElem_of_mem
theorem Hj:type_of% @List.cons.injEq:=@List.cons.injEq
theorem Hk:type_of% @List.filter_cons_of_neg:=@List.filter_cons_of_neg
theorem Hl:type_of% @List.take_append_of_le_length:=@List.take_append_of_le_length
theorem Hm:type_of% @List.flatMap_cons:=@List.flatMap_cons
theorem Hn:type_of% @List.flatMap_append:=@List.flatMap_append
theorem Ho:type_of% @Oper.semAt_some:=@Oper.semAt_some
theorem Hp:type_of% @Nat.add_zero:=@Nat.add_zero
theorem Io:type_of% @Bool.eq_iff_iff:=@Bool.eq_iff_iff
theorem IK:type_of% @Prod.mk.injEq:=@Prod.mk.injEq
theorem IL:type_of% @List.length_singleton:=@List.length_singleton
theorem IM:type_of% @List.mem_flatMap:=@List.mem_flatMap
theorem Jx:type_of% @List.drop_eq_getElem_cons:=@List.drop_eq_getElem_cons
theorem IP:type_of% @Option.some.inj:=@Option.some.inj
theorem Jo:type_of% @Array.getElem?_eq_none:=@Array.getElem?_eq_none
theorem Jp:type_of% @ByteArray.toList_eq:=@ByteArray.toList_eq
theorem Jq:type_of% @Array.getElem?_modify:=@Array.getElem?_modify
theorem Jr:type_of% @MapKept.run_findKey:=@MapKept.run_findKey
theorem Js:type_of% @List.size_toArray:=@List.size_toArray
theorem Jt:type_of% @Array.replicate_succ:=@Array.replicate_succ
theorem Ju:type_of% @Array.replicate_zero:=@Array.replicate_zero
theorem Jv:type_of% @List.push_toArray:=@List.push_toArray
theorem Jw:type_of% @List.append_toArray:=@List.append_toArray
theorem Jy:type_of% @List.drop_zero:=@List.drop_zero
theorem Jz:type_of% @List.pairwise_map:=@List.pairwise_map
theorem JB:type_of% @List.getElem_append_left:=@List.getElem_append_left
theorem Ky:type_of% @List.map_nil:=@List.map_nil
theorem Kz:type_of% @Option.eq_none_or_eq_some:=@Option.eq_none_or_eq_some
theorem KE:type_of% @List.any_append:=@List.any_append
theorem KH:type_of% @List.take_set:=@List.take_set
theorem KJ:type_of% @List.map_map:=@List.map_map
theorem LZ:type_of% @List.getElem?_append_right:=@List.getElem?_append_right
theorem L6:type_of% @MapKept.bytes_beq:=@MapKept.bytes_beq
theorem L7:type_of% @MapKept.run_checkKey:=@MapKept.run_checkKey
theorem L8:type_of% @Array.length_toList:=@Array.length_toList
theorem L9:type_of% @List.mem_filter:=@List.mem_filter
theorem Ma:type_of% @List.drop_succ_cons:=@List.drop_succ_cons
theorem Mb:type_of% @Option.bind_some:=@Option.bind_some
theorem Mc:type_of% @List.mem_filterMap:=@List.mem_filterMap
theorem Md:type_of% @List.pairwise_iff_getElem:=@List.pairwise_iff_getElem
theorem Me:type_of% @List.prefix_refl:=@List.prefix_refl
theorem Mf:type_of% @of_decide_eq_true:=@of_decide_eq_true
theorem NW:type_of% @MapKept.run_setObj_map:=@MapKept.run_setObj_map
theorem NX:type_of% @Array.toList_setIfInBounds:=@Array.toList_setIfInBounds
theorem NY:type_of% @List.filterMap_cons:=@List.filterMap_cons
theorem NZ:type_of% @List.pairwise_cons:=@List.pairwise_cons
theorem N4:type_of% @List.drop_eq_nil_of_le:=@List.drop_eq_nil_of_le
theorem N5:type_of% @List.mem_append_right:=@List.mem_append_right
theorem N6:type_of% @List.mem_singleton:=@List.mem_singleton
theorem N7:type_of% @List.mem_cons_of_mem:=@List.mem_cons_of_mem
theorem QM:type_of% @List.nodup_iff_pairwise_ne:=@List.nodup_iff_pairwise_ne
end Go.Proofs.YthaililgaompeaaGreatDoor
