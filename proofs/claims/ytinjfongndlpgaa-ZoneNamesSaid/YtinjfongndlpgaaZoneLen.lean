/-
  Package zone: Len; Find and Len of nobody's table, and of one without a map.
-/
import Derived.Test.YtinjfongndlpgaaZoneFind
namespace Go.Proofs.Ytinjfongndlpgaa
open Go.RowKit
set_option linter.unusedVariables false
set_option linter.unusedSimpArgs false

/-- How many zones are still to come. -/
def toCome (left : Lit → Bool) : List Zn → Nat
  | [] => 0
  | y :: r => (if left (.int .i64 (nl y.nm : Nat)) = true then 1 else 0) + toCome left r
theorem toCome_all {Z0 : List Zn} (β : Nat → Nat) : ∀ Z : List Zn, (∀ z ∈ Z, z ∈ Z0) → toCome (fun kl => (outAt Z0 β kl).isSome) Z = Z.length
  | [], _ => rfl
  | y :: r, h => by
    rw [toCome, toCome_all β r (fun z hz => h z (List.mem_cons_of_mem _ hz))]
    have : (outAt Z0 β (.int .i64 (nl y.nm : Nat))).isSome = true := by rw [outAt_nat, if_pos (hasL_of (h y List.mem_cons_self))]; rfl
    rw [if_pos this, List.length_cons]
    omega
theorem toCome_none {left : Lit → Bool} (h : ∀ kl, left kl = false) : ∀ Z : List Zn, toCome left Z = 0
  | [] => rfl
  | y :: r => by rw [toCome, toCome_none h r, h]; rfl
theorem cntL_cons (y : Zn) (r : List Zn) (L : Nat) : cntL (y :: r) L = (if nl y.nm = L then 1 else 0) + cntL r L := by
  unfold cntL
  rw [List.filter_cons]
  by_cases e : nl y.nm = L
  · simp [e]; omega
  · simp [e]
theorem toCome_step {left : Lit → Bool} {L : Nat} (hl : left (.int .i64 (L : Int)) = true) : ∀ Z : List Zn, toCome left Z = toCome (fun z => left z && !z.sameKey (.int .i64 (L : Int))) Z + cntL Z L
  | [] => rfl
  | y :: r => by
    rw [toCome, toCome, cntL_cons, toCome_step hl r]
    by_cases e : nl y.nm = L
    · have e1 : (Lit.int .i64 (nl y.nm : Nat)).sameKey (.int .i64 (L : Int)) = true := by rw [e]; exact WideAt.sameKey_self (by trivial)
      have e2 : left (.int .i64 (nl y.nm : Nat)) = true := by rw [e]; exact hl
      rw [if_pos e2, if_neg (by rw [e1]; simp), if_pos e]
      omega
    · have e1 : (Lit.int .i64 (nl y.nm : Nat)).sameKey (.int .i64 (L : Int)) = false := Maps.sameKey_ne (fun h => e (by injection h with _ h; exact Int.ofNat.inj h))
      rw [if_neg e, e1]
      simp only [Bool.not_false, Bool.and_true]
      omega
theorem outAt_inv {Z : List Zn} {β : Nat → Nat} {key : Value} {kl : Lit} {v : Value} (hk : keyOf Try.prog 3 key = some kl) (h : outAt Z β kl = some v) : ∃ (x : Nat) (c : Unit), key = .int .i64 (x : Int) ∧ v = .map (some (β x)) := by
  obtain ⟨x, rfl, rfl, _⟩ := Maps.keyOf_int_inv Try.underlying3 hk
  unfold outAt at h
  split at h
  · rename_i L e
    injection e with _ e
    subst e
    split at h
    · exact ⟨L, (), rfl, (Option.some.inj h).symm⟩
    · cases h
  · cases h

set_option maxRecDepth 1000000 in
set_option maxHeartbeats 6400000 in
theorem len_any (w : World) (base t : Nat) (Z : List Zn) (hT : Tab w base t Z) (hZ : Z.length ≤ 1000) :
    Calls Try.prog 15 #[.pointer (some ⟨t, 0, none⟩)] w fun e w' => e = .returned (.int .i64 (Z.length : Nat)) ∧ Still w w' := by
  obtain ⟨bo, no, β, hB⟩ := hT
  obtain ⟨w1, hrun, hon, hs1, hz1⟩ := hB.out.range klaw_int Try.underlying41
  have c0 := hB.blk.cell 0
  simp at c0
  obtain ⟨r, hr⟩ : ∃ r, r = w.heap.size := ⟨_, rfl⟩
  rw [← hr] at hrun hon
  have HR : Hid (w.heap.size ≤ r) := Lib.hid (Nat.le_of_eq hr.symm)
  clear hr hz1
  go_enter Try.func15, Try.ntmps15
  go_wp2_with fail
  clear hrun c0
  go_loopw [3] (fun i wr => ∃ left cnt n, MapOn wr Try.prog 3 bo r no (outAt Z β) left cnt ∧ Still w wr ∧ i = .int .i64 (n : Nat) ∧ n + toCome left Z = Z.length) (fun _ wr => wr.rangeLeft bo r)
  case atStart => exact ⟨_, _, 0, hon, hs1, rfl, by rw [toCome_all β Z (fun _ h => h)]; omega⟩
  case round =>
    obtain ⟨left, cnt, n, hrg, hst, rfl, hn⟩ := hrel
    have hBr := hB.still hst
    go_wp2_with ((at_next; refine wpList_mapNext _ rfl _ rfl 3 klaw_int (outAt Z β) (fun x : Nat => Value.int .i64 (x : Int)) (fun x (_ : Unit) => Value.map (some (β x))) bo r no left cnt (fun _ _ _ hk hM => outAt_inv hk hM) rfl hrg (fun hc0 hl0 => ?_) (fun x c kl w' cnt' hkey hlk hM hrg' hlt ho hsz hen => ?_)))
    · skip
      rw [toCome_none hl0] at hn
      obtain rfl : n = Z.length := by omega
      go_wp2_with fail
      go_ret
      exact ⟨rfl, hst⟩
    · obtain ⟨x', e1, e2, _⟩ := Maps.keyOf_int_inv Try.underlying3 hkey
      cases e1
      subst e2
      have hx : hasL Z x = true := by
        rw [outAt_nat] at hM
        by_cases h : hasL Z x = true
        · exact h
        · rw [if_neg h] at hM; cases hM
      have hst' : Still w w' := hst.trans ho (fun i hi e => by have e' : i = r := e; have := HR.out; omega)
      have hmi := ((hB.still hst').inn x hx).2.2
      have hlen := hmi.len Try.underlying58 3
      rw [toCome_step hlk] at hn
      have hcl := cntL_le Z x
      clear hM hkey
      have H := Lib.hid hlen
      clear hlen
      go_wp2_with fail
      rw [H.out]
      go_wp2_with fail
      go_roundw
      case rel => exact ⟨_, _, n + cntL Z x, hrg', hst', by go_num, by omega⟩
      case measure => rw [hrg'.left_eq, hrg.left_eq]; exact hlt

set_option maxRecDepth 1000000 in
set_option maxHeartbeats 1600000 in
theorem len_nil (w : World) : Calls Try.prog 15 #[.pointer none] w fun e w' => e = .returned (.int .i64 0) ∧ Still w w' := by
  go_enter Try.func15, Try.ntmps15
  go_wp2_with fail
  go_ret
  exact ⟨rfl, Only.refl _ _⟩
set_option maxRecDepth 1000000 in
set_option maxHeartbeats 1600000 in
theorem find_nil (w : World) (s : ByteArray) : Calls Try.prog 13 #[.pointer none, .string s] w fun e w' => e = .returned (zV none0) ∧ Still w w' := by
  go_enter Try.func13, Try.ntmps13
  go_wp2_with fail
  (try simp only [Exit.inBlock, Exit.then])
  refine bodyPost_ret (results_cell_row rfl _ _ _ _ _ (0, 0) _ rfl ((Blk.new w 35 #[.string ⟨#[0]⟩, .int .u8 1, .int .u16 0]).alloc _) (Try.underlying35) rfl (by kernel_rfl)) rfl ?_
  exact ⟨rfl, (Still.new _ _).alloc _⟩
end Go.Proofs.Ytinjfongndlpgaa
