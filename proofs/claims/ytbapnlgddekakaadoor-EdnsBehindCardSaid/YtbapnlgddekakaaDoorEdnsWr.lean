/-
  Package edns: Write.
-/
import Derived.Test.YtbapnlgddekakaaDoorEdnsFill
import Derived.Test.YtbapnlgddekakaaDoorTake
namespace Go.Proofs.YtbapnlgddekakaaDoor
open Go.RowKit
set_option linter.unusedVariables false
set_option linter.unusedSimpArgs false

/-- The bytes of options, one behind the other. -/
def wB (os : List Opt) : List UInt8 := (os.map optB).flatten
theorem wB_snoc (os : List Opt) (o : Opt) : wB (os ++ [o]) = wB os ++ optB o := by unfold wB; simp
theorem wB_append (os os' : List Opt) : wB (os ++ os') = wB os ++ wB os' := by unfold wB; simp
theorem wB_take_succ {os : List Opt} {k : Nat} {o : Opt} (h : os[k]? = some o) : wB (os.take (k + 1)) = wB (os.take k) ++ optB o := by
  rw [List.take_add_one, h]; exact wB_snoc _ _
theorem wB_take_le (os : List Opt) (k : Nat) : (wB (os.take k)).length ≤ (wB os).length := by
  conv => rhs; rw [← List.take_append_drop k os, wB_append, List.length_append]
  omega
theorem cells2 {w : World} {g : Nat} {a b : Value} (h0 : w.cell? ⟨g, 0, none⟩ = some a) (h1 : w.cell? ⟨g, 1, none⟩ = some b) :
    ∀ j v, [a, b][j]? = some v → w.cell? ⟨g, 0 + j, none⟩ = some v
  | 0, v, h => by simp at h; rw [← h]; exact h0
  | 1, v, h => by simp at h; rw [← h]; exact h1
  | j + 2, v, h => by simp at h
theorem blk_of_own {w : World} {base n g : Nat} {e : TypeId} {xs : List Value} (h : w.ownsRow base e 1 (.slice (some ⟨g, 0, none⟩) n n) n xs) : Blk w g e xs.toArray := by
  rcases h.2 with ⟨hv, _⟩ | ⟨g', cap, cur, hv, _, hh, hnc, _, hsz, ht⟩
  · cases hv
  · injection hv with e1 _ e3
    injection e1 with e1
    injection e1 with e1
    subst e1
    subst e3
    have : cur.toList = xs := by rw [← ht, List.take_of_length_le (by rw [Array.length_toList]; omega)]
    unfold Blk
    rw [hh, ← this]
/-- All codes are numbers of two bytes, and no data is huge. -/
def codesOk (os : List Opt) : Prop := ∀ o ∈ os, o.1 < 65536 ∧ o.2.size ≤ 1000000
theorem results_tmp4 {fn : Func} {t u v x : Tmp} (h : fn.results = #[.tmp t, .tmp u, .tmp v, .tmp x]) (tmps : Array Value) (P : Program) (w : World) :
    (results fn tmps).run P w = .ok (.tuple #[tmps.getD t undef, tmps.getD u undef, tmps.getD v undef, tmps.getD x undef]) w := by
  simp [results, h]
/-- A TTL's number. -/
def ttlOf (x v f : Nat) : Nat := x * 16777216 + v * 65536 + f
theorem exec_slice {P : Program} {op : Oper} {ρ : Operand → Value} {t : TypeId} {x lo hi mx : Operand} {v : Value} {w : World} (ho : op.op = .slice t x (some lo) (some hi) (some mx))
    (h : (Instr.sliceAt t (ρ x) (some (ρ lo)) (some (ρ hi)) (some (ρ mx))).run P w = .ok v w) : (execOp ρ op).run P w = .ok (.value v) w := by
  unfold execOp
  simp only [ho, Option.map_some, Sem.run_bind, h, Result.andThen_ok, Sem.run_pure]
theorem slice_room (w : World) (B S S' d : Nat) (h : S' + (4 + d) ≤ S) :
    (Instr.sliceAt 41 (.slice (some ⟨B, 0, none⟩) S S) (some (.int .i64 (S' : Int))) (some (.int .i64 (S' : Int))) (some (.int .i64 ((S' : Int) + 4 + (d : Int))))).run Tryd.prog w = .ok (.slice (some ⟨B, S', none⟩) 0 (4 + d)) w := by
  obtain ⟨i0, hi, hz0, hz1, hz2⟩ := info_parts info_byte
  have hel : Tryd.prog.elem 41 = 5 := by kernel_rfl
  have hu : Tryd.prog.underlying 41 = some (.slice (Tryd.prog.elem 41)) := by rw [hel]; exact Tryd.underlying41
  rw [run_sliceAt_slice w 41 _ _ _ _ hu, run_slice_lhm w 41 _ _ _ hu .i64 .i64 .i64 _ _ _ (by omega) (by omega) (by omega) (by omega)]
  have e1 : ((S' : Int) + 4 + (d : Int)).toNat = S' + (4 + d) := by omega
  have e2 : ((S' : Int)).toNat = S' := by omega
  have e3 : (sizeOf (Tryd.prog.elem 41)).run Tryd.prog w = .ok 1 w := by
    rw [hel]
    simp [sizeOf, typeInfo, hi, hz1]
  rw [e1, e2, e3]
  simp only [Result.andThen, sliced]
  have ea : (⟨B, 0, none⟩ : Addr).add (S' * 1) = ⟨B, S', none⟩ := by unfold Addr.add; simp; omega
  rw [if_neg (by omega), Option.map_some, ea, Nat.sub_self, Nat.add_sub_cancel_left]
theorem wrAt_take {L : List UInt8} {p : Nat} {M : List UInt8} (h : p + M.length ≤ L.length) : (wrAt L p M).take (p + M.length) = L.take p ++ M := by
  unfold wrAt
  have hl : (L.take p ++ M).length = p + M.length := by rw [List.length_append, List.length_take]; omega
  rw [← hl, List.take_left]
theorem or_ttl (x v f : Nat) (hx : x < 256) (hv : v < 256) (hf : f < 65536) : bits .or .u32 (bits .or .u32 ((x : Int) * 16777216) ((v : Int) * 65536)) (f : Int) = ((ttlOf x v f : Nat) : Int) := by
  have h1 : bits .or .u32 ((x : Int) * 16777216) ((v : Int) * 65536) = (x : Int) * 16777216 + (v : Int) * 65536 :=
    bits_join .u32 32 (by decide) (fun n h0 h1 => by rw [IntKind.wrap_u32]; omega) 24 _ _ (by omega) (by omega) (by omega) (by omega) (by omega) (by omega)
  rw [h1]
  have h2 : bits .or .u32 ((x : Int) * 16777216 + (v : Int) * 65536) (f : Int) = (x : Int) * 16777216 + (v : Int) * 65536 + (f : Int) :=
    bits_join .u32 32 (by decide) (fun n h0 h1 => by rw [IntKind.wrap_u32]; omega) 16 _ _ (by omega) (by omega) (by omega) (by omega) (by omega) (by omega)
  rw [h2]
  unfold ttlOf
  omega

set_option maxRecDepth 1000000 in
set_option maxHeartbeats 6400000 in
theorem write_any (w : World) (cl x v f : Nat) (hcl : cl < 65536) (hx : x < 256) (hv : v < 256) (hf : f < 65536) (A : Option Addr) (n c : Nat) (os : List Opt) (hl : os.length = n) (hn : n ≤ 1000000) (hco : codesOk os) (hr : Reads w w.heap.size 2 A n (oRow os)) :
    Calls Tryd.prog 11 #[.agg (eA cl x v f A n c)] w fun e w' =>
      (Hid ((wB os).length ≤ 65535) ∧ e = .returned (.tuple #[.int .u16 cl, .int .u32 ((ttlOf x v f : Nat) : Int), .string (str (wB os)), .int .i64 0]) ∧ Still w w') ∨
      (Hid (65535 < (wB os).length) ∧ e = .returned (.tuple #[.int .u16 0, .int .u32 0, .string ⟨#[]⟩, .int .i64 5]) ∧ Still w w') := by
  obtain ⟨i0, hi, hz0, hz1, hz2⟩ := info_parts info_byte
  unfold eA
  have hsA := Still.new w (.cells #[.int .u16 cl, .int .u8 x, .int .u8 v, .int .u16 f, .slice A n c] 25)
  have hBE := Blk.new w 25 #[.int .u16 cl, .int .u8 x, .int .u8 v, .int .u16 f, .slice A n c]
  have hr := hr.only hsA (Nat.le_refl _) (fun _ _ h => h)
  have httl := or_ttl x v f hx hv hf
  have Httl := Lib.hid httl
  have Hco := Lib.hid hco
  clear hco httl
  go_enter Tryd.func11, Tryd.ntmps11
  go_wp2_with fail
  obtain ⟨w1, hw1⟩ : ∃ w1, w1 = w.alloc (.cells #[.int .u16 cl, .int .u8 x, .int .u8 v, .int .u16 f, .slice A n c] 25) := ⟨_, rfl⟩
  rw [← hw1] at hsA hBE hr ⊢
  obtain ⟨K, hK⟩ : ∃ K, K = w.heap.size := ⟨_, rfl⟩
  rw [← hK] at hBE hr ⊢
  have HK := Lib.hid hK
  have hKs := hBE.lt
  clear hw1 hK
  go_loopw [6, 16] (fun sz i wr => ∃ k S : Nat, k ≤ n ∧ i = .int .i64 k ∧ sz = .int .i64 S ∧ S ≤ 65535 ∧ Hid (S = (wB (os.take k)).length) ∧ Hid (Still w1 wr)) (fun _ i _ => n - (intOf i).toNat)
  case atStart => exact ⟨0, 0, Nat.zero_le _, rfl, rfl, by omega, Lib.hid rfl, Lib.hid (Only.refl _ _)⟩
  case round =>
    obtain ⟨k, S, hk, rfl, rfl, hS65, hSe, hst⟩ := hrel
    have hr1 := hr.only hst.out (by omega) (fun _ _ h => h)
    have hBE1 := hBE.only hst.out (fun h => h)
    obtain ⟨b0, b1, b2, b3, b4⟩ := blk5 hBE1
    by_cases hlt : k < n
    · obtain ⟨bl, off, o, rfl, _, hok, x0, x1⟩ := o2_cells hr1 hl hlt
      obtain ⟨oc, od⟩ := o
      simp only at x0 x1
      have hnx := wB_take_succ hok
      have hln : (wB (os.take (k + 1))).length = S + (4 + od.size) := by rw [hnx, List.length_append, optB_length, hSe.out]
      have Hln := Lib.hid hln
      have hle := wB_take_le os (k + 1)
      have i1 : (k : Int) < (n : Int) := by omega
      have hst6 := hst.out.alloc (.cells #[.int .u16 oc, .string od] 40)
      obtain ⟨hoc, hod⟩ := Hco.out _ (List.mem_of_getElem? hok)
      simp only at hoc hod
      have y1 : IntKind.i64.wrap (4 + (od.size : Int)) = 4 + (od.size : Int) := IntWalk.i64_in _ (by omega)
      have y2 : IntKind.i64.wrap ((S : Int) + (4 + (od.size : Int))) = (S : Int) + (4 + (od.size : Int)) := IntWalk.i64_in _ (by omega)
      clear hnx hok
      by_cases hbig : 65535 < S + (4 + od.size)
      · have hbig' : (65535 : Int) < (S : Int) + (4 + (od.size : Int)) := by omega
        have hfin : 65535 < (wB os).length := by omega
        have Hfin := Lib.hid hfin
        clear hfin hle hln hbig
        go_wp2_with fail
        refine bodyPost_ret (results_tmp4 rfl _ _ _) rfl ?_
        exact .inr ⟨Hfin, rfl, hsA.still hst6⟩
      · have hbig' : ¬ (65535 : Int) < (S : Int) + (4 + (od.size : Int)) := by omega
        clear hle hln
        go_wp2
        go_roundw
        case rel =>
          exact ⟨k + 1, S + (4 + od.size), by omega, by go_num, by push_cast; rfl, by omega, Lib.hid Hln.out.symm, Lib.hid hst6⟩
        case measure => first | go_num | omega | (simp only [intOf]; omega) | (simp [intOf]; omega)
    · obtain rfl : n = k := by omega
      have hSe' := hSe.out
      rw [List.take_of_length_le (by omega)] at hSe'
      have HS2 := Lib.hid hSe'
      have hst' := hst.out
      have HKr := hst'.size
      clear hSe hSe' hst hBE hr
      obtain ⟨w2, rfl⟩ : ∃ w2, w2 = wr := ⟨_, rfl⟩
      have hnl : ¬ (n : Int) < (n : Int) := by omega
      go_wp2_with (at_make; refine wpList_make_full _ rfl _ _ 41 rfl w2.heap.size 5 i0 (.int .u8 0) 1 Tryd.underlying41 hi hz0 hz1 _ _ _ _ S rfl rfl rfl rfl ?q1 ?q2 ?q3 ?_)
      case q1 => omega
      case q2 => unfold maxLen; omega
      intro w3 hown hgrow
      have hst3 : Still w2 w3 := (Only.refl _ _).grown hgrow (fun k hk => by cases hk)
      rw [made_bytes] at hown
      have hBT := blk_of_own hown
      have hr3 := hr1.only hst3 (by omega) (fun _ _ h => h)
      have hBE3 := hBE1.only hst3 (fun h => h)
      have hs3 := hst'.still hst3
      obtain ⟨B, hB⟩ : ∃ B, B = w2.heap.size := ⟨_, rfl⟩
      rw [← hB] at hBT HKr ⊢
      have HB := Lib.hid hB
      have hBl := hBT.lt
      obtain ⟨b0, b1, b2, b3, b4⟩ := blk5 hBE3
      clear hown hgrow hr1 hBE1 hst3 hB hst'
      go_wp2_with fail
      go_loopw [10, 34] (fun at_ i wr => ∃ (k S' : Nat) (L : List UInt8), k ≤ n ∧ i = .int .i64 k ∧ at_ = .int .i64 S' ∧ S' ≤ S ∧ Blk wr B 5 (bv L).toArray ∧ Hid (L.length = S ∧ L.take S' = wB (os.take k) ∧ S' = (wB (os.take k)).length) ∧ Hid (Only (· = B) w3 wr)) (fun _ i _ => n - (intOf i).toNat)
      case atStart => exact ⟨0, 0, List.replicate S 0, Nat.zero_le _, rfl, rfl, Nat.zero_le _, hBT, Lib.hid ⟨List.length_replicate .., rfl, rfl⟩, Lib.hid (Only.refl _ _)⟩
      case round =>
        clear hBT hnl
        obtain ⟨k, S', L, hk, rfl, rfl, hS', hBr, hLL, ho⟩ := hrel
        have hBE4 := hBE3.only ho.out (fun e => by have e' : K = B := e; omega)
        by_cases hlt : k < n
        · have hr4 := hr3.only ho.out (by have := hs3.size; omega) (fun q hq e => by have e' : q = B := e; omega)
          obtain ⟨bl, off, o, rfl, _, hok, x0, x1⟩ := o2_cells hr4 hl hlt
          obtain ⟨oc, od⟩ := o
          simp only at x0 x1
          have hnx := wB_take_succ hok
          have hln : (wB (os.take (k + 1))).length = S' + (4 + od.size) := by rw [hnx, List.length_append, optB_length, hLL.out.2.2]
          have hle := wB_take_le os (k + 1)
          have hfit : S' + (4 + od.size) ≤ S := by have := HS2.out; omega
          have Hnx := Lib.hid hnx
          have Hln := Lib.hid hln
          have i1 : (k : Int) < (n : Int) := by omega
          obtain ⟨hoc, -⟩ := Hco.out _ (List.mem_of_getElem? hok)
          simp only at hoc
          have hsn := Still.new wr (.cells #[.int .u16 oc, .string od] 40)
          have hB4 := hBr.only hsn (fun h => h)
          have hZn := Blk.new wr 40 #[.int .u16 oc, .string od]
          have z0 := hZn.cell 0
          have z1 := hZn.cell 1
          have hZB := hBr.lt
          have y1 : IntKind.i64.wrap ((S' : Int) + 4) = (S' : Int) + 4 := IntWalk.i64_in _ (by omega)
          have y2 : IntKind.i64.wrap ((S' : Int) + 4 + (od.size : Int)) = (S' : Int) + 4 + (od.size : Int) := IntWalk.i64_in _ (by omega)
          have y3 : IntKind.i64.wrap ((S' : Int) + (4 + (od.size : Int))) = (S' : Int) + (4 + (od.size : Int)) := IntWalk.i64_in _ (by omega)
          clear hnx hok hln hle hBE4 hr4 hZn
          go_wp2_with fail
          clear x0 x1
          obtain ⟨Z, hZ⟩ : ∃ Z, Z = wr.heap.size := ⟨_, rfl⟩
          obtain ⟨w4, hw4⟩ : ∃ w4, w4 = wr.alloc (.cells #[.int .u16 oc, .string od] 40) := ⟨_, rfl⟩
          rw [← hZ] at z0 z1 hZB ⊢
          rw [← hw4] at z0 z1 hsn hB4 ⊢
          replace z0 : w4.cell? ⟨Z, 0, none⟩ = some (.int .u16 oc) := z0
          replace z1 : w4.cell? ⟨Z, 1, none⟩ = some (.string od) := z1
          clear hZ hw4
          have hL1 := hLL.out.1
          refine wp_region_held_drew (S := fun w' => w'.cell? ⟨Z, 0, none⟩ = some (.int .u16 oc) ∧ w'.cell? ⟨Z, 1, none⟩ = some (.string od)) (by kernel_rfl) ⟨z0, z1⟩ (fun hS => ?_)
          (refine take_p (i := 0) (v := ?_) rfl (by kernel_rfl) (by kernel_rfl) (by kernel_rfl) (fun _ _ _ h => h) (Or.inl ⟨by rfl, ?_⟩) hS ?_; rotate_left; (focus (intro w0 hSw; obtain ⟨s0_, s1_⟩ := hSw; go_simp; try with_reducible rfl)); try simp only [Act.put, List.setIfInBounds_toArray, List.set_cons_zero, List.set_cons_succ])
          (refine take_p (i := 1) (v := ?_) rfl (by kernel_rfl) (by kernel_rfl) (by kernel_rfl) (fun _ _ _ h => h) (Or.inl ⟨by rfl, ?_⟩) hS ?_; rotate_left; (focus (intro w0 hSw; obtain ⟨s0_, s1_⟩ := hSw; go_simp; try with_reducible rfl)); try simp only [Act.put, List.setIfInBounds_toArray, List.set_cons_zero, List.set_cons_succ])
          (refine take_p (i := 2) (v := ?_) rfl (by kernel_rfl) (by kernel_rfl) (by kernel_rfl) (fun _ _ _ h => h) (Or.inl ⟨by rfl, ?_⟩) hS ?_; rotate_left; (focus (intro w0 hSw; obtain ⟨s0_, s1_⟩ := hSw; go_simp; try with_reducible rfl)); try simp only [Act.put, List.setIfInBounds_toArray, List.set_cons_zero, List.set_cons_succ])
          (refine take_p (i := 3) (v := ?_) rfl (by kernel_rfl) (by kernel_rfl) (by kernel_rfl) (fun _ _ _ h => h) (Or.inl ⟨by rfl, ?_⟩) hS ?_; rotate_left; (focus (intro w0 hSw; obtain ⟨s0_, s1_⟩ := hSw; go_simp; try with_reducible rfl)); try simp only [Act.put, List.setIfInBounds_toArray, List.set_cons_zero, List.set_cons_succ])
          (refine take_p (i := 4) (v := ?_) rfl (by kernel_rfl) (by kernel_rfl) (by kernel_rfl) (fun _ _ _ h => h) (Or.inl ⟨by rfl, ?_⟩) hS ?_; rotate_left; (focus (intro w0 hSw; obtain ⟨s0_, s1_⟩ := hSw; go_simp; try with_reducible rfl)); try simp only [Act.put, List.setIfInBounds_toArray, List.set_cons_zero, List.set_cons_succ])
          (refine take_p (i := 5) (v := ?_) rfl (by kernel_rfl) (by kernel_rfl) (by kernel_rfl) (fun _ _ _ h => h) (Or.inl ⟨by rfl, ?_⟩) hS ?_; rotate_left; (focus (intro w0 hSw; obtain ⟨s0_, s1_⟩ := hSw; go_simp; try with_reducible rfl)); try simp only [Act.put, List.setIfInBounds_toArray, List.set_cons_zero, List.set_cons_succ])
          (refine take_p (i := 6) (v := ?_) rfl (by kernel_rfl) (by kernel_rfl) (by kernel_rfl) (fun _ _ _ h => h) (Or.inl ⟨by rfl, ?_⟩) hS ?_; rotate_left; (focus (intro w0 hSw; obtain ⟨s0_, s1_⟩ := hSw; go_simp; try with_reducible rfl)); try simp only [Act.put, List.setIfInBounds_toArray, List.set_cons_zero, List.set_cons_succ])
          (refine take_p (i := 7) (v := ?_) rfl (by kernel_rfl) (by kernel_rfl) (by kernel_rfl) (fun _ _ _ h => h) (Or.inl ⟨by rfl, ?_⟩) hS ?_; rotate_left; (focus (intro w0 hSw; obtain ⟨s0_, s1_⟩ := hSw; go_simp; try with_reducible rfl)); try simp only [Act.put, List.setIfInBounds_toArray, List.set_cons_zero, List.set_cons_succ])
          (refine take_p (i := 8) (v := ?_) rfl (by kernel_rfl) (by kernel_rfl) (by kernel_rfl) (fun _ _ _ h => h) (Or.inl ⟨by rfl, ?_⟩) hS ?_; rotate_left; (focus (intro w0 hSw; obtain ⟨s0_, s1_⟩ := hSw; go_simp; try with_reducible rfl)); try simp only [Act.put, List.setIfInBounds_toArray, List.set_cons_zero, List.set_cons_succ])
          (refine take_p (i := 9) (v := ?_) rfl (by kernel_rfl) (by kernel_rfl) (by kernel_rfl) (fun _ _ _ h => h) (Or.inl ⟨by rfl, ?_⟩) hS ?_; rotate_left; (focus (intro w0 hSw; obtain ⟨s0_, s1_⟩ := hSw; go_simp; try with_reducible rfl)); try simp only [Act.put, List.setIfInBounds_toArray, List.set_cons_zero, List.set_cons_succ])
          refine take_p (i := 10) (v := .slice (some ⟨B, S', none⟩) 0 (4 + od.size)) rfl (by kernel_rfl) (by kernel_rfl) (by kernel_rfl) (fun _ _ _ h => h) (Or.inl ⟨by rfl, fun w0 _ => exec_slice rfl (slice_room w0 B S S' od.size (by omega))⟩) hS ?_
          try simp only [Act.put, List.setIfInBounds_toArray, List.set_cons_zero, List.set_cons_succ]
          refine take_p (i := 11) (v := .agg ([.int .u16 oc, .string od] : List Value).toArray) rfl (by kernel_rfl) (by kernel_rfl) (by kernel_rfl) (fun _ _ _ h => h) ?_ hS ?_
          · exact yieldsIf_load_at rfl 40 (.tmp 12) rfl Z 0 rfl [.int .u16 oc, .string od] _ (fun _ hSw j v hv => cells2 hSw.1 hSw.2 j v hv) Tryd.underlying40 rfl (by kernel_rfl)
          try simp only [Act.put, List.setIfInBounds_toArray, List.set_cons_zero, List.set_cons_succ]
          refine wpAnyH_ready (rs := [12]) (by kernel_rfl) (by simp) ?_
          refine cons_p rfl (fun K hK => ?_) AllReadyH.nil
          go_simp
          refine (fill_any (oc, od) hoc (show od.size < 65536 by omega) hB4.drew (show S' + (4 + od.size) ≤ L.length by omega) (by omega)).mono ?_
          rintro e w9 ⟨rfl, hB9, ho9⟩
          have hSx : w9.cell? ⟨Z, 0, none⟩ = some (.int .u16 oc) ∧ w9.cell? ⟨Z, 1, none⟩ = some (.string od) := ⟨ho9.cell_some (fun e => by have e' : Z = B := e; omega) z0, ho9.cell_some (fun e => by have e' : Z = B := e; omega) z1⟩
          refine hK.out _ _ hSx (fun hHeld => ?_)
          clear hK K hHeld
          try simp only [Act.put, List.setIfInBounds_toArray, List.set_cons_zero, List.set_cons_succ]
          replace hS := hSx
          (refine take_p (i := 13) (v := ?_) rfl (by kernel_rfl) (by kernel_rfl) (by kernel_rfl) (fun _ _ _ h => h) (Or.inl ⟨by rfl, ?_⟩) hS ?_; rotate_left; (focus (intro w0 hSw; go_simp; try with_reducible rfl)); try simp only [Act.put, List.setIfInBounds_toArray, List.set_cons_zero, List.set_cons_succ])
          (refine take_p (i := 14) (v := ?_) rfl (by kernel_rfl) (by kernel_rfl) (by kernel_rfl) (fun _ _ _ h => h) (Or.inl ⟨by rfl, ?_⟩) hS ?_; rotate_left; (focus (intro w0 hSw; go_simp; try with_reducible rfl)); try simp only [Act.put, List.setIfInBounds_toArray, List.set_cons_zero, List.set_cons_succ])
          refine wpAnyH_done (by kernel_rfl) ?_ _
          have ho4 := ((ho.out.still hsn).drew).trans ho9 (fun _ _ h => h)
          have hlw : (wrAt L S' (optB (oc, od))).length = L.length := wrAt_length (by rw [optB_length]; show S' + (4 + od.size) ≤ _; omega)
          have htk := wrAt_take (L := L) (p := S') (M := optB (oc, od)) (by rw [optB_length]; show S' + (4 + od.size) ≤ _; omega)
          rw [optB_length, hLL.out.2.1, ← Hnx.out] at htk
          have Hl4 := Lib.hid (And.intro (hlw.trans hL1) (And.intro htk Hln.out.symm))
          have Ho4 := Lib.hid ho4
          clear hSx hS ho9 hlw htk ho4 z0 z1 hZB hsn hB4 y1 y2 y3 hLL ho hBr
          go_wp2
          go_roundw
          case rel =>
            exact ⟨k + 1, S' + (4 + od.size), _, by omega, by go_num, by push_cast; rfl, hfit, hB9, Hl4, Ho4⟩
          case measure => first | go_num | omega | (simp only [intOf]; omega) | (simp [intOf]; omega)
        · obtain rfl : n = k := by omega
          have hLS : L = wB os := by
            have h := hLL.out
            rw [List.take_of_length_le (l := os) (by omega)] at h
            rw [← h.2.1, List.take_of_length_le (by rw [h.1, h.2.2, HS2.out]; exact Nat.le_refl _)]
          subst hLS
          obtain ⟨b0, b1, b2, b3, b4⟩ := blk5 hBE4
          have hownF := own_of_full (n := S) (base := w.heap.size) hBr (by have := HK.out; omega) (by unfold maxLen; omega) (by rw [bv_length]; exact HS2.out.symm)
          have hfin : (wB os).length ≤ 65535 := by rw [← HS2.out]; exact hS65
          have Hfin := Lib.hid hfin
          have hstF := (hsA.still hs3).trans ho.out (fun i hi e => by have e' : i = B := e; have := HK.out; omega)
          have HstF := Lib.hid hstF
          have httl := Httl.out
          have yx : IntKind.u32.wrap (x : Int) = (x : Int) := by rw [IntKind.wrap_u32]; omega
          have yv : IntKind.u32.wrap (v : Int) = (v : Int) := by rw [IntKind.wrap_u32]; omega
          have yf : IntKind.u32.wrap (f : Int) = (f : Int) := by rw [IntKind.wrap_u32]; omega
          have ysx : IntKind.u32.wrap ((x : Int) * 16777216) = (x : Int) * 16777216 := by rw [IntKind.wrap_u32]; omega
          have ysv : IntKind.u32.wrap ((v : Int) * 65536) = (v : Int) * 65536 := by rw [IntKind.wrap_u32]; omega
          have hnl : ¬ (n : Int) < (n : Int) := by omega
          clear hfin hstF hLL ho hs3 hr3 hBE3 hBE4
          go_wp2_with fail
          clear Httl httl yx yv yf ysx ysv
          refine wp_region_held_drew (S := fun w' => Still wr w') (by kernel_rfl) ((Only.refl (fun _ => False) wr).drew) (fun hS => ?_)
          (refine take_p (i := 0) (v := ?_) rfl (by kernel_rfl) (by kernel_rfl) (by kernel_rfl) (fun _ _ _ h => h) (Or.inl ⟨by rfl, ?_⟩) hS ?_; rotate_left; (focus (intro w0 hSw; go_simp; try with_reducible rfl)); try simp only [Act.put, List.setIfInBounds_toArray, List.set_cons_zero, List.set_cons_succ])
          (refine take_p (i := 1) (v := ?_) rfl (by kernel_rfl) (by kernel_rfl) (by kernel_rfl) (fun _ _ _ h => h) (Or.inl ⟨by rfl, ?_⟩) hS ?_; rotate_left; (focus (intro w0 hSw; have z0_ := hSw.cell_some (fun h => h) b0; go_simp; try with_reducible rfl)); try simp only [Act.put, List.setIfInBounds_toArray, List.set_cons_zero, List.set_cons_succ])
          (refine take_p (i := 2) (v := ?_) rfl (by kernel_rfl) (by kernel_rfl) (by kernel_rfl) (fun _ _ _ h => h) (Or.inl ⟨by rfl, ?_⟩) hS ?_; rotate_left; (focus (intro w0 hSw; go_simp; try with_reducible rfl)); try simp only [Act.put, List.setIfInBounds_toArray, List.set_cons_zero, List.set_cons_succ])
          (refine take_p (i := 3) (v := ?_) rfl (by kernel_rfl) (by kernel_rfl) (by kernel_rfl) (fun _ _ _ h => h) (Or.inl ⟨by rfl, ?_⟩) hS ?_; rotate_left; (focus (intro w0 hSw; go_simp; try with_reducible rfl)); try simp only [Act.put, List.setIfInBounds_toArray, List.set_cons_zero, List.set_cons_succ])
          (refine take_p (i := 4) (v := ?_) rfl (by kernel_rfl) (by kernel_rfl) (by kernel_rfl) (fun _ _ _ h => h) (Or.inl ⟨by rfl, ?_⟩) hS ?_; rotate_left; (focus (intro w0 hSw; have hcv := conv_own (own_only hownF hSw (fun _ _ h => h)); go_simp; try with_reducible rfl)); try simp only [Act.put, List.setIfInBounds_toArray, List.set_cons_zero, List.set_cons_succ])
          (refine take_p (i := 5) (v := ?_) rfl (by kernel_rfl) (by kernel_rfl) (by kernel_rfl) (fun _ _ _ h => h) (Or.inl ⟨by rfl, ?_⟩) hS ?_; rotate_left; (focus (intro w0 hSw; go_simp; try with_reducible rfl)); try simp only [Act.put, List.setIfInBounds_toArray, List.set_cons_zero, List.set_cons_succ])
          (refine take_p (i := 6) (v := ?_) rfl (by kernel_rfl) (by kernel_rfl) (by kernel_rfl) (fun _ _ _ h => h) (Or.inl ⟨by rfl, ?_⟩) hS ?_; rotate_left; (focus (intro w0 hSw; go_simp; try with_reducible rfl)); try simp only [Act.put, List.setIfInBounds_toArray, List.set_cons_zero, List.set_cons_succ])
          (refine take_p (i := 7) (v := ?_) rfl (by kernel_rfl) (by kernel_rfl) (by kernel_rfl) (fun _ _ _ h => h) (Or.inl ⟨by rfl, ?_⟩) hS ?_; rotate_left; (focus (intro w0 hSw; go_simp; try with_reducible rfl)); try simp only [Act.put, List.setIfInBounds_toArray, List.set_cons_zero, List.set_cons_succ])
          (refine take_p (i := 8) (v := ?_) rfl (by kernel_rfl) (by kernel_rfl) (by kernel_rfl) (fun _ _ _ h => h) (Or.inl ⟨by rfl, ?_⟩) hS ?_; rotate_left; (focus (intro w0 hSw; go_simp; try with_reducible rfl)); try simp only [Act.put, List.setIfInBounds_toArray, List.set_cons_zero, List.set_cons_succ])
          refine wpAnyH_done (by kernel_rfl) ?_ _
          go_wp2_with fail
          refine bodyPost_ret (results_tmp4 rfl _ _ _) rfl ?_
          exact .inl ⟨Hfin, rfl, HstF.out.drew⟩
end Go.Proofs.YtbapnlgddekakaaDoor
