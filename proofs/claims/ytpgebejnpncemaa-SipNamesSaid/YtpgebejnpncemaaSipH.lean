/-
  Package sip: a Hash in memory.
-/
import Derived.Test.YtpgebejnpncemaaSipM
namespace Go.Proofs.Ytpgebejnpncemaa
open Go.RowKit
set_option linter.unusedVariables false

def beg (k0 k1 : Int) : List Int := [bits .xor .u64 k0 8317987319222330741, bits .xor .u64 k1 7237128888997146477, bits .xor .u64 k0 7816392313619706465, bits .xor .u64 k1 8387220255154660723]

set_option maxRecDepth 1000000 in
set_option maxHeartbeats 1600000 in
theorem begin_any {w : World} {k0 k1 : Int} (h0 : 0 ≤ k0 ∧ k0 < 18446744073709551616) (h1 : 0 ≤ k1 ∧ k1 < 18446744073709551616) :
    Calls Try.prog 42 #[.int .u64 k0, .int .u64 k1] w fun e w' => e = .returned (.agg ((beg k0 k1).map (Value.int .u64)).toArray) ∧ Still w w' := by
  go_enter Try.func42, Try.ntmps42
  go_wp2_with fail
  have hst : Still w (w.alloc (.cells #[.int .u64 (bits .xor .u64 k0 8317987319222330741), .int .u64 (bits .xor .u64 k1 7237128888997146477), .int .u64 (bits .xor .u64 k0 7816392313619706465), .int .u64 (bits .xor .u64 k1 8387220255154660723)] 57)) := Still.new w _
  have hb := Blk.new w 57 #[.int .u64 (bits .xor .u64 k0 8317987319222330741), .int .u64 (bits .xor .u64 k1 7237128888997146477), .int .u64 (bits .xor .u64 k0 7816392313619706465), .int .u64 (bits .xor .u64 k1 8387220255154660723)]
  generalize w.alloc (.cells #[.int .u64 (bits .xor .u64 k0 8317987319222330741), .int .u64 (bits .xor .u64 k1 7237128888997146477), .int .u64 (bits .xor .u64 k0 7816392313619706465), .int .u64 (bits .xor .u64 k1 8387220255154660723)] 57) = W at hst hb ⊢
  generalize w.heap.size = B at *
  refine bodyPost_ret (results_cell_row rfl _ _ _ _ _ (0, 0) _ rfl hb (Try.underlying57) rfl (by kernel_rfl)) rfl ?_
  exact ⟨rfl, hst⟩

/-- The cells of a Hash that is keyed. -/
def hcells (v l : List Int) (n : Nat) : Array Value := lay [.bool true] v (l.map (Value.int .u8) ++ [.int .i64 n])
def oct0 : List Int := [0, 0, 0, 0, 0, 0, 0, 0]
theorem oct0_ok : Oct oct0 := ⟨rfl, by decide⟩
theorem beg_ok {k0 k1 : Int} (h0 : 0 ≤ k0 ∧ k0 < 18446744073709551616) (h1 : 0 ≤ k1 ∧ k1 < 18446744073709551616) : Ok (beg k0 k1) := by
  refine ⟨rfl, fun i hi => ?_⟩
  match i, hi with
  | 0, _ => exact xor64 _ _ h0 (by omega)
  | 1, _ => exact xor64 _ _ h1 (by omega)
  | 2, _ => exact xor64 _ _ h0 (by omega)
  | 3, _ => exact xor64 _ _ h1 (by omega)

set_option maxRecDepth 1000000 in
set_option maxHeartbeats 1600000 in
theorem New_any {w : World} {k0 k1 : Int} (h0 : 0 ≤ k0 ∧ k0 < 18446744073709551616) (h1 : 0 ≤ k1 ∧ k1 < 18446744073709551616) :
    Calls Try.prog 31 #[.int .u64 k0, .int .u64 k1] w fun e w' => ∃ g, e = .returned (.pointer (some ⟨g, 0, none⟩)) ∧ w.heap.size ≤ g ∧ Blk w' g 60 (hcells (beg k0 k1) oct0 0) ∧ Still w w' := by
  go_enter Try.func31, Try.ntmps31
  go_wp2_with fail
  refine (begin_any h0 h1).mono ?_
  rintro e w1 ⟨rfl, hs1⟩
  have hs2 := hs1.alloc (.cells (hcells (beg k0 k1) oct0 0) 60)
  have hb2 := Blk.new w1 60 (hcells (beg k0 k1) oct0 0)
  have hsz := hs1.size
  have hlen : (beg k0 k1).length = 4 := rfl
  go_wp2_with fail
  go_ret
  exact ⟨_, rfl, hsz, hb2, hs2⟩

/-! ### the machine -/
structure St where
  v : List Int
  l : List Int
  n : Nat
/-- One byte comes. -/
def St.step (s : St) (b : Int) : St :=
  let l := s.l.set (s.n % 8) b
  ⟨if (s.n + 1) % 8 = 0 then mix s.v (num l) else s.v, l, s.n + 1⟩
def St.eat (s : St) (bs : List Int) : St := bs.foldl St.step s
structure St.Ok (s : St) : Prop where
  v : Proofs.Ytpgebejnpncemaa.Ok s.v
  l : Oct s.l
/-- A Hash in block g. -/
def Hsh (w : World) (g : Nat) (s : St) : Prop := Blk w g 60 (hcells s.v s.l s.n)
def Byts (bs : List Int) : Prop := ∀ x ∈ bs, 0 ≤ x ∧ x < 256
theorem Oct.set {l : List Int} (h : Oct l) (i : Nat) {b : Int} (hb : 0 ≤ b ∧ b < 256) : Oct (l.set i b) := by
  refine ⟨by rw [List.length_set]; exact h.len, fun x hx => ?_⟩
  rcases List.mem_or_eq_of_mem_set hx with h1 | h1
  · exact h.rg x h1
  · rw [h1]; exact hb
theorem St.step_ok {s : St} (h : s.Ok) {b : Int} (hb : 0 ≤ b ∧ b < 256) : (s.step b).Ok := by
  have hl := h.l.set (s.n % 8) hb
  refine ⟨?_, hl⟩
  unfold St.step
  by_cases e : (s.n + 1) % 8 = 0
  · simp only [e, if_true]; exact mix_ok h.v hl.num64
  · simp only [e, if_false]; exact h.v
theorem St.eat_ok {s : St} (h : s.Ok) : ∀ (bs : List Int), Byts bs → (s.eat bs).Ok
  | [], _ => h
  | b :: r, hb => St.eat_ok (s := s.step b) (St.step_ok h (hb b (by simp))) r (fun x hx => hb x (by simp [hx]))
theorem St.eat_n (s : St) : ∀ bs : List Int, (s.eat bs).n = s.n + bs.length
  | [] => rfl
  | b :: r => by
    have := St.eat_n (s.step b) r
    show ((s.step b).eat r).n = _
    rw [this]
    simp only [St.step, List.length_cons]; omega
theorem St.eat_snoc (s : St) (bs : List Int) (b : Int) : s.eat (bs ++ [b]) = (s.eat bs).step b := by simp [St.eat, List.foldl_append]
theorem St.eat_append (s : St) (a b : List Int) : s.eat (a ++ b) = (s.eat a).eat b := by simp [St.eat, List.foldl_append]
def st0 (k0 k1 : Int) : St := ⟨beg k0 k1, oct0, 0⟩
theorem st0_ok {k0 k1 : Int} (h0 : 0 ≤ k0 ∧ k0 < 18446744073709551616) (h1 : 0 ≤ k1 ∧ k1 < 18446744073709551616) : (st0 k0 k1).Ok := ⟨beg_ok h0 h1, oct0_ok⟩

/-- The last block. -/
def St.last (s : St) : List Int := s.l.take (s.n % 8) ++ List.replicate (7 - s.n % 8) 0 ++ [((s.n % 256 : Nat) : Int)]
def St.fin (s : St) : List Int :=
  let u := mix s.v (num s.last)
  rd (rd (rd (rd (u.set 2 (bits .xor .u64 (u.getD 2 0) 255)))))
def xors (v : List Int) : Int := bits .xor .u64 (bits .xor .u64 (bits .xor .u64 (v.getD 0 0) (v.getD 1 0)) (v.getD 2 0)) (v.getD 3 0)
def St.sum (s : St) : Int := xors s.fin

/-! ### where the parts lie -/
theorem hcells_n {v l : List Int} {n : Nat} (hv : Ok v) (hl : Oct l) : (hcells v l n)[13]? = some (.int .i64 n) := by
  unfold hcells lay
  simp only [List.getElem?_toArray, List.append_assoc]
  rw [List.getElem?_append_right (by simp), List.getElem?_append_right (by simp [hv.len]), List.getElem?_append_right (by simp [hv.len, hl.len])]
  simp [hv.len, hl.len]
theorem hcells_keyed {v l : List Int} {n : Nat} : (hcells v l n)[0]? = some (.bool true) := by
  unfold hcells lay
  simp
theorem hcells_l {v l : List Int} {n : Nat} (hv : Ok v) (hl : Oct l) {i : Nat} (hi : i < 8) : (hcells v l n)[5 + i]? = some (.int .u8 (l.getD i 0)) := by
  have hi' : i < l.length := by rw [hl.len]; exact hi
  unfold hcells lay
  simp only [List.getElem?_toArray, List.append_assoc]
  rw [List.getElem?_append_right (by simp; omega), List.getElem?_append_right (by simp only [List.length_cons, List.length_nil, List.length_map, hv.len]; omega)]
  have e : 5 + i - [Value.bool true].length - (v.map (Value.int .u64)).length = i := by simp only [List.length_cons, List.length_nil, List.length_map, hv.len]; omega
  rw [e, List.getElem?_append_left (by simpa using hi'), List.getElem?_map, List.getElem?_eq_getElem hi', List.getD_eq_getElem?_getD, List.getElem?_eq_getElem hi']
  rfl
theorem hcells_set_l {v l : List Int} {n : Nat} (hv : Ok v) (hl : Oct l) {i : Nat} (hi : i < 8) (b : Int) : (hcells v l n).setIfInBounds (5 + i) (.int .u8 b) = hcells v (l.set i b) n := by
  have hi' : i < l.length := by rw [hl.len]; exact hi
  unfold hcells lay
  simp only [List.setIfInBounds_toArray, List.append_assoc]
  rw [List.set_append_right _ _ (by simp; omega), List.set_append_right _ _ (by simp only [List.length_cons, List.length_nil, List.length_map, hv.len]; omega)]
  have e : 5 + i - [Value.bool true].length - (v.map (Value.int .u64)).length = i := by simp only [List.length_cons, List.length_nil, List.length_map, hv.len]; omega
  rw [e, List.set_append_left _ _ (by simpa using hi'), List.map_set]
theorem hcells_set_n {v l : List Int} {n : Nat} (hv : Ok v) (hl : Oct l) (m : Nat) : (hcells v l n).setIfInBounds 13 (.int .i64 m) = hcells v l m := by
  unfold hcells lay
  simp only [List.setIfInBounds_toArray, List.append_assoc]
  rw [List.set_append_right _ _ (by simp), List.set_append_right _ _ (by simp [hv.len]), List.set_append_right _ _ (by simp [hv.len, hl.len])]
  simp [hv.len, hl.len]
end Go.Proofs.Ytpgebejnpncemaa
