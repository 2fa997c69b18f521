import Derived.Deep.RegionHeld3
import Derived.WalkKit
namespace Go.Proofs.YtacmmcnnhfmepaaGreatDoor
theorem sqA : type_of% @List.setIfInBounds_toArray := @List.setIfInBounds_toArray
theorem sqB : type_of% @List.set_cons_zero := @List.set_cons_zero
theorem sqC : type_of% @List.set_cons_succ := @List.set_cons_succ
theorem sqD : type_of% @List.getElem_toArray := @List.getElem_toArray
theorem sqE : type_of% @List.getElem_cons_succ := @List.getElem_cons_succ
theorem sqF : type_of% @List.getElem_cons_zero := @List.getElem_cons_zero
theorem sq {α : Type} : (∀ (l : List α) (i : Nat) (a : α), l.toArray.setIfInBounds i a = (l.set i a).toArray) ∧ (∀ (x y : α) (l : List α), (x :: l).set 0 y = y :: l) ∧ (∀ (x y : α) (l : List α) (i : Nat), (x :: l).set (i + 1) y = x :: l.set i y) ∧
    (∀ (l : List α) (i : Nat) (h : i < l.toArray.size), l.toArray[i] = l[i]'(by simpa using h)) ∧ (∀ (a : α) (l : List α) (i : Nat) (h : i + 1 < (a :: l).length), (a :: l)[i + 1] = l[i]'(Nat.lt_of_succ_lt_succ h)) ∧ ∀ (a : α) (l : List α) (h : 0 < (a :: l).length), (a :: l)[0] = a :=
  ⟨fun _ _ _ => List.setIfInBounds_toArray .., fun _ _ _ => rfl, fun _ _ _ _ => rfl, fun _ _ _ => List.getElem_toArray .., fun _ _ _ _ => rfl, fun _ _ _ => rfl⟩
theorem tkq {P : Program} {ops : Array Oper} {Q : Exit → Act → World → Prop} {md : Region.Mode} {S : World → Prop} {oi : Oper} {v : Value} {fuel : Nat} {listed : Array Bool} {a : Act} {w : World} (i : Nat) (hi : ops[i]? = some oi)
    (hy : ∀ w, S w → (execOp a.eval oi).run P w = .ok (.value v) w) (h : wpAnyH P md ops Q S fuel (listed.setIfInBounds i true) (a.put oi.dst v) w)
    (hs : Region.noSelect ops = true := by kernel_rfl) (hf : Region.free md ops listed i = true := by kernel_rfl) (hr : (Region.ready md ops listed).contains i = true := by kernel_rfl)
    (hQ : ∀ c a w, Q (.panic c) (a.put oi.dst v) w → Q (.panic c) a w := by exact fun _ _ _ h => h) (hw : Region.wanted oi (yielded ops a.tmps) = true := by rfl) (hS : S w := by assumption) : wpAnyH P md ops Q S (fuel + 1) listed a w :=
  wpAnyH_take hi hs hf hr hQ (Or.inl ⟨hw, hy⟩) hS h
theorem tkz {P : Program} {ops : Array Oper} {Q : Exit → Act → World → Prop} {md : Region.Mode} {S : World → Prop} {oi : Oper} {v : Value} {fuel : Nat} {listed : Array Bool} {a a' : Act} {w : World} (i : Nat)
    (h : wpAnyH P md ops Q S fuel (listed.setIfInBounds i true) a' w) (hi : ops[i]? = some oi := by rfl)
    (hy : ∀ w, S w → (execOp a.eval oi).run P w = .ok (.value v) w := by intro w' hSw; go_simp <;> with_reducible rfl)
    (ha : a.put oi.dst v = a' := by first | (simp only [Act.put, sq]; rfl) | rfl)
    (hs : Region.noSelect ops = true := by kernel_rfl) (hf : Region.free md ops listed i = true := by kernel_rfl) (hr : (Region.ready md ops listed).contains i = true := by kernel_rfl)
    (hQ : ∀ c a w, Q (.panic c) (a.put oi.dst v) w → Q (.panic c) a w := by exact fun _ _ _ h => h) (hw : Region.wanted oi (yielded ops a.tmps) = true := by rfl) (hS : S w := by assumption) : wpAnyH P md ops Q S (fuel + 1) listed a w :=
  wpAnyH_take hi hs hf hr hQ (Or.inl ⟨hw, hy⟩) hS (by subst ha; exact h)
theorem tku {P : Program} {ops : Array Oper} {Q : Exit → Act → World → Prop} {md : Region.Mode} {S : World → Prop} {oi : Oper} {fuel : Nat} {listed : Array Bool} {a : Act} {w : World} (i : Nat)
    (h : wpAnyH P md ops Q S fuel (listed.setIfInBounds i true) (a.put oi.dst undef) w) (hi : ops[i]? = some oi := by rfl)
    (hs : Region.noSelect ops = true := by kernel_rfl) (hf : Region.free md ops listed i = true := by kernel_rfl) (hr : (Region.ready md ops listed).contains i = true := by kernel_rfl)
    (hQ : ∀ c a w, Q (.panic c) (a.put oi.dst undef) w → Q (.panic c) a w := by exact fun _ _ _ h => h) (hw : Region.wanted oi (yielded ops a.tmps) = false := by rfl) (hS : S w := by assumption) : wpAnyH P md ops Q S (fuel + 1) listed a w :=
  wpAnyH_take hi hs hf hr hQ (Or.inr ⟨hw, rfl⟩) hS h
theorem dnq {P : Program} {ops : Array Oper} {Q : Exit → Act → World → Prop} {md : Region.Mode} {S : World → Prop} {fuel : Nat} {listed : Array Bool} {a : Act} {w : World} (h : Q .normal a w) (hr : Region.ready md ops listed = [] := by kernel_rfl) : wpAnyH P md ops Q S fuel listed a w :=
  wpAnyH_done hr h fuel
theorem hmq {P : Program} (fn : Fn) (first cap : Array Value) (w : World) : (Instr.makeFunc fn first cap).run P w = .ok (.func fn first cap) w := rfl
theorem rdq {P : Program} {ops : Array Oper} {Q : Exit → Act → World → Prop} {md : Region.Mode} {S : World → Prop} {fuel : Nat} {listed : Array Bool} {a : Act} {w : World} (i : Nat) {o : Oper} (ho : ops[i]? = some o)
    (h : ∀ K' : Act → World → Prop, Shut (∀ a w, S w → (S w → wpAnyH P md ops Q S fuel (listed.setIfInBounds i true) a w) → K' a w) → if Region.wanted o (yielded ops a.tmps) = true then Oper.wp P o a w K' Q else K' (a.put o.dst undef) w)
    (hr : Region.ready md ops listed = [i] := by kernel_rfl) : wpAnyH P md ops Q S (fuel + 1) listed a w :=
  wpAnyH_ready hr (by simp) (AllReadyH.cons ho h AllReadyH.nil)
open Go.RowKit
abbrev zA (x:Int):Value:=.int .i64 x
abbrev zB:Value:=.slice none 0 0
abbrev zD (b i:Nat):Addr:=⟨b,i,none⟩
abbrev _root_.Go.World.zI (w:World) (r:Array Value) (T:Nat):World:=w.alloc (.cells r T)
abbrev zJ:Array Value:=#[zA 0,zA 0,zB]
abbrev zC (b:Nat):Value:=.pointer (some ⟨b,0,none⟩)
abbrev ze:Array Value:=#[.string ⟨#[]⟩,zB]
abbrev zd:Obj:=.cells ze 61
abbrev zi:Obj:=.cells zJ 24
abbrev zj:Obj:=.cells #[zA 0,zB] 27
abbrev zk:Obj:=.cells #[] 27
abbrev zl:Obj:=.cells #[] 61
abbrev zp (r:Array Value) (T:Nat):Obj:=.cells r T
theorem tkv {P:Program} {ops:Array Oper} {Q:Exit->Act->World->Prop} {md:Region.Mode} {S:World->Prop} {oi:Oper} {fuel:Nat} {listed:Array Bool} {a a':Act} {w:World} (i:Nat) (h:wpAnyH P md ops Q S fuel (listed.setIfInBounds i true) a' w) (hi:ops[i]?=some oi:=by rfl) (ha:a.put oi.dst undef=a':=by first|(simp only[Act.put,sq];rfl)|rfl) (hs:Region.noSelect ops=true:=by kernel_rfl) (hf:Region.free md ops listed i=true:=by kernel_rfl) (hr:(Region.ready md ops listed).contains i=true:=by kernel_rfl) (hQ:∀c a w,Q (.panic c) (a.put oi.dst undef) w->Q (.panic c) a w:=by exact fun _ _ _ h=>h) (hw:Region.wanted oi (yielded ops a.tmps)=false:=by rfl) (hS:S w:=by assumption):wpAnyH P md ops Q S (fuel+1) listed a w:=tku i (by subst ha;exact h) hi hs hf hr hQ hw hS
theorem _root_.Go.RowKit.Hid.o {p:Prop} (h:Go.RowKit.Hid p):p:=h
theorem _root_.Go.Shut.o {p:Prop} (h:Go.Shut p):p:=h
theorem zo {S:World->Prop} {G K:Act->World->Prop} (hK:Go.Shut (∀a w,S w->(S w->G a w)->K a w)) {a a':Act} {w:World} (hs:S w) (h:S w->G a' w) (ha:a=a':=by first|(simp only[Act.put,sq];rfl)|rfl):K a w:=by
 subst ha;exact hK.o _ _ hs h
theorem Ac:type_of% @Below.refl:=@Below.refl
theorem Ad:type_of% @Or.inl:=@Or.inl
theorem Ae:type_of% @Or.inr:=@Or.inr
theorem Af:type_of% @Nat.le_refl:=@Nat.le_refl
theorem Ak:type_of% @Below.heap_setCell:=@Below.heap_setCell
theorem Am:type_of% @if_neg:=@if_neg
theorem Ao:type_of% @bodyPost_ret:=@bodyPost_ret
theorem Aq:type_of% @if_pos:=@if_pos
theorem Ax:type_of% @AllReadyH.cons:=@AllReadyH.cons
theorem AE:type_of% @World.cell?_setCell_other:=@World.cell?_setCell_other
theorem AJ:type_of% @Nat.le_trans:=@Nat.le_trans
theorem AL:type_of% @World.cell?_setCell_same:=@World.cell?_setCell_same
theorem Bp:type_of% @Nat.zero_le:=@Nat.zero_le
theorem Bv:type_of% @List.getElem_mem:=@List.getElem_mem
theorem Bw:type_of% @wpAnyH_ready:=@wpAnyH_ready
theorem Bx:type_of% @AllReadyH.nil:=@AllReadyH.nil
theorem Bz:type_of% @List.take_of_length_le:=@List.take_of_length_le
theorem BL:type_of% @Below.heap_alloc:=@Below.heap_alloc
theorem BN:type_of% @List.mem_append:=@List.mem_append
theorem BP:type_of% @List.getElem?_toArray:=@List.getElem?_toArray
theorem BQ:type_of% @List.getElem?_cons_succ:=@List.getElem?_cons_succ
theorem BU:type_of% @List.getElem?_cons_zero:=@List.getElem?_cons_zero
theorem Ca:type_of% @World.size_alloc:=@World.size_alloc
theorem Cb:type_of% @Nat.ne_of_lt:=@Nat.ne_of_lt
theorem Ce:type_of% @Nat.lt_of_lt_of_le:=@Nat.lt_of_lt_of_le
theorem Ck:type_of% @IntKind.wrap_i64:=@IntKind.wrap_i64
theorem Cl:type_of% @List.length_cons:=@List.length_cons
theorem Co:type_of% @wp_region_held_drew:=@wp_region_held_drew
theorem Ct:type_of% @List.mem_cons:=@List.mem_cons
theorem Cx:type_of% @List.mem_map:=@List.mem_map
theorem CB:type_of% @List.map_cons:=@List.map_cons
theorem CI:type_of% @List.take_succ_eq_append_getElem:=@List.take_succ_eq_append_getElem
theorem Db:type_of% @List.map_append:=@List.map_append
theorem Dj:type_of% @List.cons_append:=@List.cons_append
theorem Dt:type_of% @congrArg:=@congrArg
theorem Dw:type_of% @info_parts:=@info_parts
theorem Dx:type_of% @beq_eq_false_iff_ne:=@beq_eq_false_iff_ne
theorem DC:type_of% @Nat.lt_succ_self:=@Nat.lt_succ_self
theorem DI:type_of% @World.cell?_of_block:=@World.cell?_of_block
theorem Ej:type_of% @List.length_append:=@List.length_append
theorem Ek:type_of% @List.length_nil:=@List.length_nil
theorem Er:type_of% @Classical.byContradiction:=@Classical.byContradiction
theorem EI:type_of% @World.cell?_alloc_old:=@World.cell?_alloc_old
theorem Fc:type_of% @List.any_eq_true:=@List.any_eq_true
theorem Fp:type_of% @Array.getElem?_eq_some_iff:=@Array.getElem?_eq_some_iff
theorem Fq:type_of% @Prod.mk.injEq:=@Prod.mk.injEq
theorem Fr:type_of% @run_underlying:=@run_underlying
theorem FG:type_of% @List.getElem_cons_succ:=@List.getElem_cons_succ
theorem FH:type_of% @List.take_append_drop:=@List.take_append_drop
theorem FJ:type_of% @callsIn_wide:=@callsIn_wide
theorem Gc:type_of% @List.getElem_cons_zero:=@List.getElem_cons_zero
theorem Gd:type_of% @List.cons.injEq:=@List.cons.injEq
theorem Ge:type_of% @Nat.min_eq_left:=@Nat.min_eq_left
theorem Gy:type_of% @List.nil_append:=@List.nil_append
theorem Gz:type_of% @MapKept.run_getObj_map:=@MapKept.run_getObj_map
theorem GA:type_of% @List.getElem?_eq_getElem:=@List.getElem?_eq_getElem
theorem GC:type_of% @List.mem_singleton:=@List.mem_singleton
theorem GD:type_of% @List.getD_eq_getElem?_getD:=@List.getD_eq_getElem?_getD
theorem GH:type_of% @List.length_map:=@List.length_map
theorem GI:type_of% @List.filter_cons_of_pos:=@List.filter_cons_of_pos
theorem GJ:type_of% @Nat.lt_irrefl:=@Nat.lt_irrefl
theorem GV:type_of% @List.length_eq_zero_iff:=@List.length_eq_zero_iff
theorem GW:type_of% @ByteArray.toList_eq:=@ByteArray.toList_eq
theorem GY:type_of% @List.length_pos_iff:=@List.length_pos_iff
theorem G1:type_of% @decide_eq_false:=@decide_eq_false
theorem G7:type_of% @List.filter_cons_of_neg:=@List.filter_cons_of_neg
theorem G8:type_of% @List.take_length:=@List.take_length
theorem H4:type_of% @List.map_nil:=@List.map_nil
theorem H5:type_of% @World.ownsRow_nil:=@World.ownsRow_nil
theorem H6:type_of% @MapKept.run_findKey:=@MapKept.run_findKey
theorem H9:type_of% @MapKept.heap_set:=@MapKept.heap_set
theorem Ia:type_of% @Nat.zero_add:=@Nat.zero_add
theorem Ib:type_of% @List.pairwise_map:=@List.pairwise_map
theorem Ic:type_of% @Nat.add_zero:=@Nat.add_zero
theorem Iz:type_of% @Array.getElem?_eq_none:=@Array.getElem?_eq_none
theorem IA:type_of% @heap_alloc_new:=@heap_alloc_new
theorem Jd:type_of% @Nat.le_succ:=@Nat.le_succ
theorem Je:type_of% @Option.eq_none_or_eq_some:=@Option.eq_none_or_eq_some
theorem Jf:type_of% @Option.some.injEq:=@Option.some.injEq
theorem Jg:type_of% @List.getElem_of_mem:=@List.getElem_of_mem
theorem Jh:type_of% @List.append_assoc:=@List.append_assoc
theorem J4:type_of% @decide_eq_true:=@decide_eq_true
theorem J5:type_of% @List.take_succ_cons:=@List.take_succ_cons
theorem J6:type_of% @MapKept.run_checkKey:=@MapKept.run_checkKey
theorem J7:type_of% @List.take_append_of_le_length:=@List.take_append_of_le_length
theorem J8:type_of% @Option.some.inj:=@Option.some.inj
theorem Kc:type_of% @of_decide_eq_true:=@of_decide_eq_true
theorem Ln:type_of% @MapKept.bytes_beq:=@MapKept.bytes_beq
theorem Lo:type_of% @decide_eq_true_eq:=@decide_eq_true_eq
theorem Lp:type_of% @List.pairwise_cons:=@List.pairwise_cons
theorem Lq:type_of% @Array.getElem?_eq_getElem:=@Array.getElem?_eq_getElem
theorem Lr:type_of% @Array.getElem?_setIfInBounds_ne:=@Array.getElem?_setIfInBounds_ne
theorem Ls:type_of% @List.getElem_append_left:=@List.getElem_append_left
theorem Lt:type_of% @List.pairwise_iff_getElem:=@List.pairwise_iff_getElem
theorem Nq:type_of% @List.getElem?_append_left:=@List.getElem?_append_left
theorem Nr:type_of% @Bool.or_eq_false_iff:=@Bool.or_eq_false_iff
theorem Ns:type_of% @List.pairwise_append:=@List.pairwise_append
theorem Nt:type_of% @List.set_cons_succ:=@List.set_cons_succ
theorem Pn:type_of% @List.setIfInBounds_toArray:=@List.setIfInBounds_toArray
theorem Po:type_of% @List.getElem?_append_right:=@List.getElem?_append_right
theorem Pp:type_of% @List.nodup_iff_pairwise_ne:=@List.nodup_iff_pairwise_ne
end Go.Proofs.YtacmmcnnhfmepaaGreatDoor
