/-
  Package sip: rounds, as contracts.
-/
import Derived.Test.YtpgebejnpncemaaRows
import Derived.Test.YtpgebejnpncemaaBase
import Derived.Deep.RegionHeld3
import Derived.StillTailTactics
import Derived.BigRegion
import Derived.KernelRfl
namespace Go.Proofs.Ytpgebejnpncemaa
open Go.RowKit
set_option linter.unusedVariables false

/-- x turned left by some bits: p, q: the powers of 2. -/
def rot (x p q : Int) : Int := bits .or .u64 (IntKind.u64.wrap (x * p)) (x / q)

theorem rot13 (x : Int) (w : World) (h0 : 0 ≤ x) (h1 : x < 18446744073709551616) :
    Calls Try.prog 51 #[.int .u64 x, .int .i64 13] w fun e w' => e = .returned (.int .u64 (rot x 8192 2251799813685248)) ∧ w = w' := by
  have hk : bits BinOp.and IntKind.u64 13 63 = 13 := by decide
  go_enter Try.func51, Try.ntmps51
  go_wp2
  go_ret
  exact ⟨rfl, rfl⟩

theorem rot16 (x : Int) (w : World) (h0 : 0 ≤ x) (h1 : x < 18446744073709551616) :
    Calls Try.prog 51 #[.int .u64 x, .int .i64 16] w fun e w' => e = .returned (.int .u64 (rot x 65536 281474976710656)) ∧ w = w' := by
  have hk : bits BinOp.and IntKind.u64 16 63 = 16 := by decide
  go_enter Try.func51, Try.ntmps51
  go_wp2
  go_ret
  exact ⟨rfl, rfl⟩

theorem rot17 (x : Int) (w : World) (h0 : 0 ≤ x) (h1 : x < 18446744073709551616) :
    Calls Try.prog 51 #[.int .u64 x, .int .i64 17] w fun e w' => e = .returned (.int .u64 (rot x 131072 140737488355328)) ∧ w = w' := by
  have hk : bits BinOp.and IntKind.u64 17 63 = 17 := by decide
  go_enter Try.func51, Try.ntmps51
  go_wp2
  go_ret
  exact ⟨rfl, rfl⟩

theorem rot21 (x : Int) (w : World) (h0 : 0 ≤ x) (h1 : x < 18446744073709551616) :
    Calls Try.prog 51 #[.int .u64 x, .int .i64 21] w fun e w' => e = .returned (.int .u64 (rot x 2097152 8796093022208)) ∧ w = w' := by
  have hk : bits BinOp.and IntKind.u64 21 63 = 21 := by decide
  go_enter Try.func51, Try.ntmps51
  go_wp2
  go_ret
  exact ⟨rfl, rfl⟩

theorem rot32 (x : Int) (w : World) (h0 : 0 ≤ x) (h1 : x < 18446744073709551616) :
    Calls Try.prog 51 #[.int .u64 x, .int .i64 32] w fun e w' => e = .returned (.int .u64 (rot x 4294967296 4294967296)) ∧ w = w' := by
  have hk : bits BinOp.and IntKind.u64 32 63 = 32 := by decide
  go_enter Try.func51, Try.ntmps51
  go_wp2
  go_ret
  exact ⟨rfl, rfl⟩

theorem rot_range (x p q : Int) (h0 : 0 ≤ x) (h1 : x < 18446744073709551616) (hq : 1 ≤ q) : 0 ≤ rot x p q ∧ rot x p q < 18446744073709551616 := by
  unfold rot
  have hd0 : 0 ≤ x / q := Int.ediv_nonneg h0 (by omega)
  have hd1 : x / q < 18446744073709551616 := Int.lt_of_le_of_lt (Int.ediv_le_self _ h0) h1
  rw [u64_or _ _ (by rw [IntKind.wrap_u64]; omega) (by rw [IntKind.wrap_u64]; omega) hd0 hd1]
  have := Nat.or_lt_two_pow (n := 64) (x := (IntKind.u64.wrap (x * p)).toNat) (y := (x / q).toNat) (by rw [IntKind.wrap_u64]; omega) (by omega)
  omega
theorem xor64 (a b : Int) (ha : 0 ≤ a ∧ a < 18446744073709551616) (hb : 0 ≤ b ∧ b < 18446744073709551616) : 0 ≤ bits .xor .u64 a b ∧ bits .xor .u64 a b < 18446744073709551616 := by
  rw [u64_xor a b ha.1 ha.2 hb.1 hb.2]
  have := Nat.xor_lt_two_pow (n := 64) (x := a.toNat) (y := b.toNat) (by omega) (by omega)
  omega

set_option maxRecDepth 1000000 in
set_option maxHeartbeats 1600000 in
theorem half_any {w : World} {g o a b : Nat} (k : Int) (p q : Int) (hrot : Hid (∀ (y : Int) (w : World), 0 ≤ y → y < 18446744073709551616 → Calls Try.prog 51 #[.int .u64 y, .int .i64 k] w fun e w' => e = .returned (.int .u64 (rot y p q)) ∧ w = w'))
    (ha : a < 4) (hb : b < 4) (hab : a ≠ b) {x y : Int} (hx : w.cell? ⟨g, o + a, none⟩ = some (.int .u64 x)) (hy : w.cell? ⟨g, o + b, none⟩ = some (.int .u64 y))
    (fx : w.frozen? ⟨g, o + a, none⟩ = false) (fy : w.frozen? ⟨g, o + b, none⟩ = false) (hy0 : 0 ≤ y) (hy1 : y < 18446744073709551616) :
    Calls Try.prog 50 #[.pointer (some ⟨g, o, none⟩), .int .i64 a, .int .i64 b, .int .i64 k] w fun e w' => e = .returned (.tuple #[]) ∧
      ∃ n, w' = ((w.setCell ⟨g, o + a, none⟩ (.int .u64 (IntKind.u64.wrap (x + y)))).setCell ⟨g, o + b, none⟩ (.int .u64 (bits .xor .u64 (rot y p q) (IntKind.u64.wrap (x + y))))).drewN n := by
  have ha' : (a : Int) < 4 := by omega
  have hb' : (b : Int) < 4 := by omega
  obtain ⟨S, hS⟩ : ∃ S, S = IntKind.u64.wrap (x + y) := ⟨_, rfl⟩
  have hy2 : (w.setCell ⟨g, o + a, none⟩ (.int .u64 S)).cell? ⟨g, o + b, none⟩ = some (.int .u64 y) :=
    (World.cell?_setCell_other _ _ _ _ (fun e => by simp at e)).trans hy
  have hx2 : (w.setCell ⟨g, o + a, none⟩ (.int .u64 S)).cell? ⟨g, o + a, none⟩ = some (.int .u64 S) := World.cell?_setCell_same _ _ _ hx
  have hS' : IntKind.u64.wrap (x + y) = S := hS.symm
  have HS := Lib.hid hS
  clear hS
  go_enter Try.func50, Try.ntmps50
  go_wp2
  go_still_tail 13, (by kernel_rfl)
  go_wp2
  have fy2 : (w.setCell ⟨g, o + a, none⟩ (.int .u64 S)).frozen? ⟨g, o + b, none⟩ = false := by simpa using fy
  generalize hW : w.setCell ⟨g, o + a, none⟩ (.int .u64 S) = W at *
  have hW := Lib.hid hW
  clear hx hy fx fy
  go_region_with (go_at_call 51; refine (hrot.out y _ hy0 hy1).mono ?_; rintro e w5 ⟨rfl, rfl⟩)
  all_goals
    go_wp2
    go_end0
    refine ⟨rfl, 2, ?_⟩
    rw [← HS.out, hW.out]
    rfl


/-! ### states as lists -/
def lay (pre : List Value) (v : List Int) (post : List Value) : Array Value := (pre ++ v.map (Value.int .u64) ++ post).toArray
structure Ok (v : List Int) : Prop where
  len : v.length = 4
  rg : ∀ i, i < 4 → 0 ≤ v.getD i 0 ∧ v.getD i 0 < 18446744073709551616

theorem Ok.set {v : List Int} (h : Ok v) (i : Nat) (x : Int) (hx : 0 ≤ x ∧ x < 18446744073709551616) : Ok (v.set i x) := by
  refine ⟨by rw [List.length_set]; exact h.len, fun j hj => ?_⟩
  rw [List.getD_eq_getElem?_getD, List.getElem?_set]
  by_cases e : i = j
  · subst e
    rw [if_pos rfl, if_pos (by rw [h.len]; exact hj)]; exact hx
  · rw [if_neg e, ← List.getD_eq_getElem?_getD]; exact h.rg j hj

theorem lay_get {pre post : List Value} {v : List Int} {o i : Nat} (ho : pre.length = o) (h : Ok v) (hi : i < 4) : (lay pre v post)[o + i]? = some (.int .u64 (v.getD i 0)) := by
  have hi' : i < v.length := by rw [h.len]; exact hi
  unfold lay
  subst ho
  simp only [List.getElem?_toArray, List.append_assoc]
  rw [List.getElem?_append_right (by omega), show pre.length + i - pre.length = i by omega, List.getElem?_append_left (by simpa using hi'), List.getElem?_map, List.getElem?_eq_getElem hi', List.getD_eq_getElem?_getD, List.getElem?_eq_getElem hi']
  rfl
theorem lay_set {pre post : List Value} {v : List Int} {o i : Nat} (ho : pre.length = o) (h : Ok v) (hi : i < 4) (x : Int) : (lay pre v post).setIfInBounds (o + i) (.int .u64 x) = lay pre (v.set i x) post := by
  have hi' : i < v.length := by rw [h.len]; exact hi
  unfold lay
  subst ho
  simp only [List.setIfInBounds_toArray, List.append_assoc]
  rw [List.set_append_right _ _ (by omega), show pre.length + i - pre.length = i by omega, List.set_append_left _ _ (by simpa using hi'), List.map_set]

/-- Half a round. -/
def hf (v : List Int) (a b : Nat) (p q : Int) : List Int :=
  (v.set a (IntKind.u64.wrap (v.getD a 0 + v.getD b 0))).set b (bits .xor .u64 (rot (v.getD b 0) p q) (IntKind.u64.wrap (v.getD a 0 + v.getD b 0)))
theorem wrap_range (x : Int) : 0 ≤ IntKind.u64.wrap x ∧ IntKind.u64.wrap x < 18446744073709551616 := by rw [IntKind.wrap_u64]; omega
theorem hf_ok {v : List Int} (h : Ok v) (a b : Nat) (hb : b < 4) (p q : Int) (hq : 1 ≤ q) : Ok (hf v a b p q) :=
  (h.set _ _ (wrap_range _)).set _ _ (xor64 _ _ (rot_range _ p q (h.rg b hb).1 (h.rg b hb).2 hq) (wrap_range _))

theorem half_blk {w : World} {g o a b : Nat} {t : TypeId} {pre post : List Value} {v : List Int} (k : Int) (p q : Int) (hrot : Hid (∀ (y : Int) (w : World), 0 ≤ y → y < 18446744073709551616 → Calls Try.prog 51 #[.int .u64 y, .int .i64 k] w fun e w' => e = .returned (.int .u64 (rot y p q)) ∧ w = w'))
    (hbk : Blk w g t (lay pre v post)) (ho : pre.length = o) (hv : Ok v) (ha : a < 4) (hb : b < 4) (hab : a ≠ b) :
    Calls Try.prog 50 #[.pointer (some ⟨g, o, none⟩), .int .i64 a, .int .i64 b, .int .i64 k] w fun e w' => e = .returned (.tuple #[]) ∧ Blk w' g t (lay pre (hf v a b p q) post) ∧ Only (· = g) w w' := by
  refine (half_any k p q hrot ha hb hab ((hbk.cell _).trans (lay_get ho hv ha)) ((hbk.cell _).trans (lay_get ho hv hb)) (hbk.frozen _) (hbk.frozen _) (hv.rg b hb).1 (hv.rg b hb).2).mono ?_
  rintro e w' ⟨rfl, n, rfl⟩
  refine ⟨rfl, ?_, (((Only.refl (· = g) _).setCell (p := ⟨g, o + a, none⟩) (.inl rfl) _).setCell (p := ⟨g, o + b, none⟩) (.inl rfl) _).drewN n⟩
  have h1 := hbk.set_ (o + a) (.int .u64 (IntKind.u64.wrap (v.getD a 0 + v.getD b 0)))
  rw [lay_set ho hv ha] at h1
  have h2 := h1.set_ (o + b) (.int .u64 (bits .xor .u64 (rot (v.getD b 0) p q) (IntKind.u64.wrap (v.getD a 0 + v.getD b 0))))
  rw [lay_set ho (hv.set _ _ (wrap_range _)) hb] at h2
  exact h2.drewN n

def rd1 (v : List Int) : List Int := let u := hf v 0 1 8192 2251799813685248; u.set 0 (rot (u.getD 0 0) 4294967296 4294967296)
def rd2 (v : List Int) : List Int := hf (hf v 2 3 65536 281474976710656) 0 3 2097152 8796093022208
def rd3 (v : List Int) : List Int := let u := hf v 2 1 131072 140737488355328; u.set 2 (rot (u.getD 2 0) 4294967296 4294967296)
def rd (v : List Int) : List Int := rd3 (rd2 (rd1 v))
theorem rd1_ok {v : List Int} (h : Ok v) : Ok (rd1 v) := by
  have h1 := hf_ok h 0 1 (by omega) 8192 2251799813685248 (by omega)
  exact h1.set _ _ (rot_range _ _ _ (h1.rg 0 (by omega)).1 (h1.rg 0 (by omega)).2 (by omega))
theorem rd2_ok {v : List Int} (h : Ok v) : Ok (rd2 v) := hf_ok (hf_ok h 2 3 (by omega) _ _ (by omega)) 0 3 (by omega) _ _ (by omega)
theorem rd3_ok {v : List Int} (h : Ok v) : Ok (rd3 v) := by
  have h1 := hf_ok h 2 1 (by omega) 131072 140737488355328 (by omega)
  exact h1.set _ _ (rot_range _ _ _ (h1.rg 2 (by omega)).1 (h1.rg 2 (by omega)).2 (by omega))
theorem rd_ok {v : List Int} (h : Ok v) : Ok (rd v) := rd3_ok (rd2_ok (rd1_ok h))

end Go.Proofs.Ytpgebejnpncemaa
