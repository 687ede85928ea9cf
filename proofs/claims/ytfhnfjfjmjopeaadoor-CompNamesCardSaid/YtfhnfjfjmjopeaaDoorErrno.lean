/-
  errors.As hits; cursor's errno: the number of a failure, or none.
-/
import Derived.Test.YtfhnfjfjmjopeaaDoorAs
namespace Go.Proofs.YtfhnfjfjmjopeaaDoor
open Go.RowKit Go.Extern.Stop Go.Stop Go.Extern
set_option linter.unusedVariables false

/-- The variable errors.errorType holds the handle of type error. -/
def ErrT (w : World) : Prop := w.cell? ⟨0, 0, none⟩ = some (.iface 99 (.agg #[.pointer (some ⟨1, 67, none⟩)]))
theorem ErrT.lt {w : World} (h : ErrT w) : 0 < w.heap.size := World.block_lt_of_cell? w _ h
theorem ErrT.only {w w' : World} {S : Nat → Prop} (h : ErrT w) (ho : Only S w w') (hS : ¬ S 0) : ErrT w' := ho.cell_some hS h
theorem ErrT.still {w w' : World} (h : ErrT w) (ho : Still w w') : ErrT w' := h.only ho (fun h => h)

set_option maxHeartbeats 4000000 in
theorem as_hit (n : Int) (tb : Nat) (old : Value) (w : World) (hg : ErrT w) (ht0 : w.cell? ⟨tb, 0, none⟩ = some old) (hf0 : w.frozen? ⟨tb, 0, none⟩ = false) :
    Calls Tryd.prog 29 #[.iface 76 (.agg #[.int .i64 n]), .iface 78 (.pointer (some ⟨tb, 0, none⟩))] w fun ev w' => ev = .returned (.bool true) ∧
      ((((w.alloc (.cells #[.pointer (some ⟨tb, 0, none⟩)] 78)).alloc (.cells #[.pointer (some ⟨1, 78, none⟩), .pointer (some ⟨w.heap.size, 0, none⟩), .int .u64 150] 86)).alloc (.cells #[.pointer (some ⟨1, 78, none⟩), .pointer (some ⟨w.heap.size, 0, none⟩), .int .u64 150] 86)).alloc (.cells #[.int .i64 n] 76)).setCell ⟨tb, 0, none⟩ (.int .i64 n) = w' := by
  have h6 := @run_callFunc_extern Tryd.prog 33 _ (fun args => ReflectliteValue.unpack (args.getD 0 (.tuple #[]))) Tryd.func33 (by kernel_rfl) (by kernel_rfl) (by kernel_rfl) (by kernel_rfl)
  have h7 := @run_callFunc_extern Tryd.prog 34 _ (ReflectliteValue.methodAny (ReflectliteValue.valueError "reflectlite.Value.Type" 0) (fun t _ _ _ => ReflectliteType.toType t)) Tryd.func34 (by kernel_rfl) (by kernel_rfl) (by kernel_rfl) (by kernel_rfl)
  have h8 := @run_callFunc_extern Tryd.prog 35 _ (ReflectliteValue.method (ReflectliteValue.valueError "reflectlite.Value.IsNil" 0) ReflectliteValue.isNil) Tryd.func35 (by kernel_rfl) (by kernel_rfl) (by kernel_rfl) (by kernel_rfl)
  have h27 := @run_callFunc_extern Tryd.prog 56 _ (ReflectliteType.abiMethod fun t => do pure (.int .u8 (← Rtype.kind t))) Tryd.func56 (by kernel_rfl) (by kernel_rfl) (by kernel_rfl) (by kernel_rfl)
  have h37 := @run_callFunc_extern Tryd.prog 66 _ (ReflectliteType.method ReflectliteType.elem) Tryd.func66 (by kernel_rfl) (by kernel_rfl) (by kernel_rfl) (by kernel_rfl)
  have h38 := @run_callFunc_extern Tryd.prog 67 _ (ReflectliteType.relation "Implements" ReflectliteType.implements_) Tryd.func67 (by kernel_rfl) (by kernel_rfl) (by kernel_rfl) (by kernel_rfl)
  have h10 := @run_callFunc_extern Tryd.prog 39 _ ReflectliteType.typeOf Tryd.func39 (by kernel_rfl) (by kernel_rfl) (by kernel_rfl) (by kernel_rfl)
  have h35 := @run_callFunc_extern Tryd.prog 64 _ (ReflectliteType.relation "AssignableTo" ReflectliteType.assignableTo) Tryd.func64 (by kernel_rfl) (by kernel_rfl) (by kernel_rfl) (by kernel_rfl)
  have h11 := @run_callFunc_extern Tryd.prog 40 _ (ReflectliteValue.method (ReflectliteValue.valueError "reflectlite.Value.Elem" 0) ReflectliteValue.elem) Tryd.func40 (by kernel_rfl) (by kernel_rfl) (by kernel_rfl) (by kernel_rfl)
  have h12 := @run_callFunc_extern Tryd.prog 41 _ ReflectliteValue.set Tryd.func41 (by kernel_rfl) (by kernel_rfl) (by kernel_rfl) (by kernel_rfl)
  have tO := x_typeOfF
  have mA := x_methodAssignableTo
  have a25 := x_assignableF
  have v25 := x_valueOfF
  have f6 := x_valueOfP
  have f7 := x_typeP
  have mK := x_methodKind
  have mE := x_methodElem
  have mI := x_methodImplements
  have k27 := x_kindP
  have k25 := x_kindF
  have e27 := x_elemP
  have i25 := x_implementsF
  have n8 := x_isNilP ⟨w.heap.size, 0, none⟩ ⟨tb, 0, none⟩ ((w.alloc (.cells #[.pointer (some ⟨tb, 0, none⟩)] 78)).alloc (.cells #[.pointer (some ⟨1, 78, none⟩), .pointer (some ⟨w.heap.size, 0, none⟩), .int .u64 150] 86)) (by simp)
  have hlt := hg.lt
  have hg2 : ((w.alloc (.cells #[.pointer (some ⟨tb, 0, none⟩)] 78)).alloc (.cells #[.pointer (some ⟨1, 78, none⟩), .pointer (some ⟨w.heap.size, 0, none⟩), .int .u64 150] 86)).cell? ⟨0, 0, none⟩ = some (.iface 99 (.agg #[.pointer (some ⟨1, 67, none⟩)])) :=
    ((Still.new w _).alloc _).cell_some (fun h => h) hg
  have htl : tb < w.heap.size := World.block_lt_of_cell? w ⟨tb, 0, none⟩ ht0
  have el := x_elemV ⟨w.heap.size, 0, none⟩ ⟨tb, 0, none⟩ (((w.alloc (.cells #[.pointer (some ⟨tb, 0, none⟩)] 78)).alloc (.cells #[.pointer (some ⟨1, 78, none⟩), .pointer (some ⟨w.heap.size, 0, none⟩), .int .u64 150] 86)).alloc (.cells #[.pointer (some ⟨1, 78, none⟩), .pointer (some ⟨w.heap.size, 0, none⟩), .int .u64 150] 86)) (by rw [World.cell?_alloc_lt _ _ ⟨w.heap.size, 0, none⟩ (by simp; omega)]; simp)
  have st := x_setF tb (w.heap.size + 1 + 1 + 1) n old ((((w.alloc (.cells #[.pointer (some ⟨tb, 0, none⟩)] 78)).alloc (.cells #[.pointer (some ⟨1, 78, none⟩), .pointer (some ⟨w.heap.size, 0, none⟩), .int .u64 150] 86)).alloc (.cells #[.pointer (some ⟨1, 78, none⟩), .pointer (some ⟨w.heap.size, 0, none⟩), .int .u64 150] 86)).alloc (.cells #[.int .i64 n] 76))
    (by rw [World.cell?_alloc_at _ _ _ _ (by simp)]; rfl)
    ((((Still.new w _).alloc _).alloc _).alloc _ |>.cell_some (fun h => h) ht0)
    (((((Still.new w _).alloc _).alloc _).alloc _ |>.frozen (p := ⟨tb, 0, none⟩) htl (fun h => h)).trans hf0)
  have Hg := Lib.hid hg
  clear hg
  go_enter Tryd.func29, Tryd.ntmps29
  go_wp2
  refine wp_loop_rounds 1 ?_
  rw [rounds_succ]
  go_wp2
  go_ret
  exact ⟨rfl, rfl⟩

theorem as_true (n : Int) (tb : Nat) (t : TypeId) (cs : Array Value) (w : World) (hg : ErrT w) (hb : Blk w tb t cs) (h0 : 0 < cs.size) :
    Calls Tryd.prog 29 #[.iface 76 (.agg #[.int .i64 n]), .iface 78 (.pointer (some ⟨tb, 0, none⟩))] w fun ev w' => ev = .returned (.bool true) ∧ w'.cell? ⟨tb, 0, none⟩ = some (.int .i64 n) ∧ Only (· = tb) w w' := by
  have hc : w.cell? ⟨tb, 0, none⟩ = some cs[0] := by rw [hb.cell 0]; exact Array.getElem?_eq_getElem h0
  refine (as_hit n tb _ w hg hc (hb.frozen 0)).mono ?_
  rintro e w' ⟨rfl, rfl⟩
  refine ⟨rfl, ?_, (((((Only.refl (· = tb) w).alloc _).alloc _).alloc _).alloc _).setCell (p := ⟨tb, 0, none⟩) (.inl rfl) _⟩
  rw [((((((hb.alloc _).alloc _).alloc _).alloc _).set_ 0 (.int .i64 n)).cell 0)]
  simp [h0]
theorem errno_nil (w : World) :
    Calls Tryd.prog 23 #[.nilIface] w fun e w' => e = .returned (.int .i64 0) ∧ Still w w' := by
  go_enter Tryd.func23, Tryd.ntmps23
  go_wp2_with fail
  refine (as_nil _ _).mono ?_
  rintro e w' ⟨rfl, rfl⟩
  go_wp2
  go_ret
  exact ⟨rfl, Still.new _ _⟩
theorem errno_hit (n : Int) (w : World) (hg : ErrT w) :
    Calls Tryd.prog 23 #[.iface 76 (.agg #[.int .i64 n])] w fun e w' => e = .returned (.int .i64 n) ∧ Still w w' := by
  have hb := Blk.new w 76 #[.int .i64 0]
  have hg2 := hg.still (Still.new w (.cells #[.int .i64 0] 76))
  go_enter Tryd.func23, Tryd.ntmps23
  go_wp2_with fail
  refine (as_true n w.heap.size _ _ _ hg2 hb (by simp)).mono ?_
  rintro e w1 ⟨rfl, k0, ho⟩
  have hst : Still w w1 := (Still.new w _).trans ho (fun i hi e => by omega)
  go_wp2
  go_ret
  exact ⟨rfl, hst⟩
end Go.Proofs.YtfhnfjfjmjopeaaDoor
