/-
  Package lru: Drop.
-/
import Derived.Test.YtfbknjboceheaaaLruEq
namespace Go.Proofs.Ytfbknjboceheaaa
open Go.RowKit
set_option linter.unusedVariables false

theorem wp_load_at {P : Program} {o : Oper} {a : Act} {w : World} {K : Act → World → Prop} {Q : Exit → Act → World → Prop} (ty : TypeId) (x : Operand) (ho : o.op = .load ty x)
    (ad : Addr) (v : Value) (hx : a.eval x = .pointer (some ad)) (hrun : (loadVar ty ad).run P w = .ok v w) (h : K (a.put o.dst v) w) : o.wp P a w K Q := by
  unfold Oper.wp execOp
  simp only [ho, hx, Instr.loadAt, Instr.sureAddr, Sem.run_bind, Sem.run_pure, Result.andThen_ok, hrun]
  exact h
theorem quiet_value {P : Program} {ops : Array Oper} {C : World → Prop} {Q : Act → Prop} {a : Act} {o : Oper} {rest : List Oper} {v : Value} (hgd : o.guard = none) (hrun : ∀ w, C w → (execOp a.eval o).run P w = .ok (.value v) w)
    (h : wpQuiet P ops C Q rest (a.put o.dst v)) : wpQuiet P ops C Q (o :: rest) a := by
  refine wpQuiet_step fun K hK => ?_
  have hw : Region.wanted o (yielded ops a.tmps) = true := by simp [Region.wanted, hgd]
  rw [if_pos hw]
  exact ⟨v, fun w hw' => by unfold Oper.quietAt; rw [hrun w hw']; exact ⟨rfl, rfl⟩, hK _ h⟩
theorem exec_load {P : Program} {o : Oper} {a : Act} {w : World} (ty : TypeId) (x : Operand) (ho : o.op = .load ty x) (ad : Addr) (v : Value) (hx : a.eval x = .pointer (some ad)) (hrun : (loadVar ty ad).run P w = .ok v w) :
    (execOp a.eval o).run P w = .ok (.value v) w := by
  unfold execOp
  simp only [ho, hx, Instr.loadAt, Instr.sureAddr, Sem.run_bind, Sem.run_pure, Result.andThen_ok, hrun]
theorem exec_bin {P : Program} {o : Oper} {a : Act} {w : World} (op : BinOp) (t t' : TypeId) (x y : Operand) (ho : o.op = .binOp op t x y t') (u v r : Value) (hx : a.eval x = u) (hy : a.eval y = v) (hg : (eqGuard op t x y u v).run P w = .ok () w) (hrun : (binOp op t u v).run P w = .ok r w) :
    (execOp a.eval o).run P w = .ok (.value r) w := by
  unfold execOp
  simp only [ho, hx, hy, Sem.run_bind, Sem.run_pure, Result.andThen_ok, hg, hrun]
theorem run_loadVar_at {P : Program} (w : World) (g off : Nat) (ty : TypeId) (cs : List Value) (d : TypeDesc) (hc : ∀ j v, cs[j]? = some v → w.cell? ⟨g, off + j, none⟩ = some v)
    (hu : P.underlying ty = some d) (hd : (match d with | .struct _ | .array _ _ => true | _ => false) = true) (hi : (P.info? ty).map (·.size) = some cs.length) :
    (loadVar ty ⟨g, off, none⟩).run P w = .ok (.agg cs.toArray) w := by
  have hl : (loadCells ⟨g, off, none⟩ cs.length).run P w = .ok cs.toArray w :=
    run_loadCells_list (P := P) w ⟨g, off, none⟩ cs (fun j v hv => by
      have hadd : (⟨g, off, none⟩ : Addr).add j = ⟨g, off + j, none⟩ := by unfold Addr.add; split <;> simp_all
      rw [hadd]
      exact hc j v hv)
  cases hq : P.info? ty with
  | none => simp [hq] at hi
  | some i =>
    have hs : i.size = cs.length := by simpa [hq] using hi
    have hagg : (isAgg ty).run P w = .ok true w := by
      unfold isAgg
      rw [Sem.run_bind, run_underlying hu w]
      cases d <;> simp_all
    simp [loadVar, Sem.run_bind, hagg, sizeOf, typeInfo, hq, hs, hl]
theorem run_cellsFrom_at {P : Program} (w : World) (g off : Nat) (cs : List Value) (hc : ∀ j v, cs[j]? = some v → w.cell? ⟨g, off + j, none⟩ = some v) (n : Nat) (hn : cs.length = n) :
    (loadCellsFrom ⟨g, off, none⟩ 0 n #[]).run P w = .ok cs.toArray w := by
  subst hn
  have := run_loadCells_list (P := P) w ⟨g, off, none⟩ cs (fun j v hv => by
      have hadd : (⟨g, off, none⟩ : Addr).add j = ⟨g, off + j, none⟩ := by unfold Addr.add; split <;> simp_all
      rw [hadd]
      exact hc j v hv)
  simpa [loadCells] using this
theorem info_row : (Try.prog.info? 33).map (·.size) = some 257 := by kernel_rfl
theorem load_next {w : World} {g : Nat} {n : Int} {f h : Nat → Nat} (hb : LB w g n f h) : (loadVar 33 ⟨g, 1, none⟩).run Try.prog w = .ok (.agg (ring f).toArray) w :=
  run_loadVar_at w g 1 _ _ _ (fun j v hv => by
    have hj : j < 257 := by
      have := (List.getElem?_eq_some_iff.1 hv).1
      rw [ring_len] at this
      exact this
    rw [hb.cf hj, ← hv, ring_at f hj]) Try.underlying33 rfl (by rw [info_row, ring_len])
def zrow : Array Value := (List.replicate 257 (Value.int .i64 0)).toArray
theorem zero_row (w : World) : (zeroValue 33).run Try.prog w = .ok (.agg zrow) w := by kernel_rfl
theorem one_ring (f : Nat → Nat) : (ring f).toArray.all (·.oneCell') = true := by
  rw [Array.all_eq_true_iff_forall_mem]
  intro v hv
  simp only [ring, List.mem_toArray, List.mem_map] at hv
  obtain ⟨q, _, rfl⟩ := hv
  rfl

set_option maxRecDepth 1000000 in
set_option maxHeartbeats 1600000 in
theorem Drop_out {w : World} {g n : Nat} {L : List Nat} (hb : Lst w g n L) (p : Int) (hp : ¬ (0 ≤ p ∧ p < n)) :
    Calls Try.prog 16 #[.pointer (some ⟨g, 0, none⟩), .int .i64 p] w fun e w' => e = .returned (.bool false) ∧ w = w' := by
  have hi := is_any hb p
  rw [decide_eq_false hp] at hi
  go_enter Try.func16, Try.ntmps16
  go_wp2_with fail
  refine hi.mono ?_
  rintro e w1 ⟨rfl, rfl⟩
  go_wp2_with fail
  go_ret
  exact ⟨rfl, rfl⟩

set_option maxRecDepth 1000000 in
set_option maxHeartbeats 6400000 in
theorem Drop_in {w : World} {g n : Nat} {L : List Nat} (hb : Lst w g n L) (hl : LL n L) (k p : Nat) (hp : p = k + 1) (hk : k < n) :
    Calls Try.prog 16 #[.pointer (some ⟨g, 0, none⟩), .int .i64 k] w fun e w' => e = .returned (.bool (decide (p ∈ L))) ∧ Lst w' g n (out p L) ∧ Only (· = g) w w' := by
  have hi := is_any hb (k : Int)
  rw [decide_eq_true (by omega)] at hi
  have hn := hl.mx
  have hpi : (k : Int) + 1 = (p : Int) := by omega
  have hk63 : (k : Int) < 256 := by omega
  have hp0 : p ≠ 0 := by omega
  have hpn : p ≤ n := by omega
  have Hp := Lib.hid hp
  clear hp
  go_enter Try.func16, Try.ntmps16
  go_wp2_with fail
  refine hi.mono ?_
  rintro e w1 ⟨rfl, rfl⟩
  go_wp2_with fail
  refine wp_load_at 33 (.tmp 12) rfl ⟨g, 1, none⟩ (.agg (ring (cut n (sc 0 L))).toArray) rfl (load_next hb) ?_
  have hz := zero_row w
  obtain ⟨R, hR⟩ : ∃ R, R = (ring (cut n (sc 0 L))).toArray := ⟨_, rfl⟩
  rw [← hR]
  have hRs : R.size = 257 := by rw [hR]; exact ring_len _
  have hsc : (storeCells ⟨w.heap.size, 0, none⟩ R.toList 0).run Try.prog (w.alloc (.cells zrow 33)) = .ok () (w.alloc (.cells R 33)) :=
    run_storeCells_new w _ zrow R (by rw [hRs]; exact info_row) (by rw [hRs]; rfl) (by rw [hR]; exact one_ring _)
  have HR := Lib.hid hR
  clear hR
  go_wp2_with fail
  have hb1 : Lst (w.alloc (.cells R 33)) g n L := Blk.alloc hb _
  have hB1 := Blk.new w 33 R
  have ho1 : Only (· = g) w (w.alloc (.cells R 33)) := (Only.refl _ _).alloc _
  have hgB : g < w.heap.size := Blk.lt hb
  generalize w.alloc (.cells R 33) = w1 at *
  generalize w.heap.size = B at *
  clear hsc hz hi
  go_wp2_with fail
  refine (unlink_L hb1 hl (p := p) hp0 hpn).mono ?_
  rintro e w2 ⟨rfl, hb2, ho2⟩
  have hB2 := hB1.only ho2 (by omega)
  have ho3 := ho1.trans ho2 (fun _ _ h => h)
  clear hb1 hB1 ho1 ho2 hb
  have hl2 := hl.out p
  go_wp2_with fail
  obtain ⟨F2, hF2⟩ : ∃ F2, F2 = cut n (sc 0 (out p L)) := ⟨_, rfl⟩
  obtain ⟨R2, hR2⟩ : ∃ R2, R2 = (ring F2).toArray := ⟨_, rfl⟩
  have hRR : R = (ring (cut n (sc 0 L))).toArray := HR.out
  have hcmp : ∀ W, ∃ b : Bool, (binOp .neq 33 (.agg R2) (.agg R)).run Try.prog W = .ok (.bool b) W ∧ (b = false ↔ ∀ q, q < 257 → F2 q = cut n (sc 0 L) q) ∧ (Op.equalIn 10000 33 (.agg R2) (.agg R)).run Try.prog W = .ok (!b) W := by
    intro W
    rw [hR2, hRR, hF2]
    exact neq_ring W _ _ (fun q hq => cut_lt (hl2.sc_lt hq)) (fun q hq => cut_lt (hl.sc_lt hq))
  have hmem : (∀ q, q < 257 → F2 q = cut n (sc 0 L) q) ↔ p ∉ L := by
    rw [hF2]
    constructor
    · intro h hm
      have h1 := h p (by omega)
      rw [cut_le _ hpn, cut_le _ hpn, sc_not (a := 0) hp0 (out_not p L)] at h1
      exact sc_ne hl.row hm h1.symm
    · intro hm q hq
      have e1 : ∀ q, sc 0 (out p L) q = sc 0 L q := fun q => by
        rw [sc_out hp0 0 L hl.row hp0 q, pd_not (a := 0) hp0 hm, sc_not (a := 0) hp0 hm]
        by_cases e : q = p
        · subst e; rw [if_pos rfl, sc_not (a := 0) hp0 hm]
        · rw [if_neg e, if_neg e]
      rw [cut_congr e1]
  have hcmp' : ∀ W, (Op.equalIn 10000 33 (.agg R2) (.agg R)).run Try.prog W = .ok (!(decide (p ∈ L))) W := by
    intro W
    obtain ⟨b, _, hb3, hb4⟩ := hcmp W
    rw [hmem] at hb3
    rw [hb4]
    congr 1
    by_cases hm : p ∈ L
    · have : b ≠ false := fun e => hb3.1 e hm
      simp [hm]
      cases b
      · exact absurd rfl this
      · rfl
    · rw [hb3.2 hm]
      simp [hm]
  have hcmpN : ∀ W, (binOp .neq 33 (.agg R2) (.agg R)).run Try.prog W = .ok (.bool (decide (p ∈ L))) W := by
    intro W
    rw [run_neq_struct, hcmp' W]
    simp
  have hV1 : ∀ m, (loadVar 33 ⟨g, 1, none⟩).run Try.prog (w2.drewN m) = .ok (.agg R2) (w2.drewN m) := fun m => by
    rw [hR2, hF2]
    exact load_next (Blk.drewN hb2 m : LB (w2.drewN m) g n _ _)
  have hV2 : ∀ m, (loadVar 33 ⟨B, 0, none⟩).run Try.prog (w2.drewN m) = .ok (.agg R) (w2.drewN m) := fun m =>
    run_loadVar_row _ B _ _ R (0, 0) _ (Blk.drewN hB2 m) Try.underlying33 rfl (by rw [hRs]; exact info_row)
  have hR2s : R2.size = 257 := by rw [hR2]; exact ring_len _
  generalize hD : decide (p ∈ L) = D at *
  clear hcmp hmem hRR hR2 hF2
  refine wp_region_quiet_lit (by kernel_rfl) (by kernel_rfl) ?_
  quiet_step (fail)
  quiet_step (fail)
  quiet_step (fail)
  refine quiet_value rfl (fun W hW => exec_load 33 (.tmp 20) rfl ⟨g, 1, none⟩ (.agg R2) rfl (by obtain ⟨m, rfl⟩ := hW; exact hV1 m)) ?_
  refine quiet_value rfl (fun W hW => exec_load 33 (.tmp 5) rfl ⟨B, 0, none⟩ (.agg R) rfl (by obtain ⟨m, rfl⟩ := hW; exact hV2 m)) ?_
  refine quiet_value rfl (fun W _ => exec_bin .neq 33 _ (.tmp 21) (.tmp 22) rfl (.agg R2) (.agg R) (.bool D) rfl rfl (run_eqGuard_agg _ _ _ _ _ _ _ (by kernel_rfl)) (hcmpN W)) ?_
  quiet_step (fail)
  refine wpQuiet_nil ?_
  intro _ hw'
  obtain ⟨nq, hw''⟩ := hw'
  subst hw''
  go_wp2_with fail
  go_ret
  exact ⟨by first | rfl | exact ret_bool hD.symm, hb2, ho3.drewN _⟩
end Go.Proofs.Ytfbknjboceheaaa
