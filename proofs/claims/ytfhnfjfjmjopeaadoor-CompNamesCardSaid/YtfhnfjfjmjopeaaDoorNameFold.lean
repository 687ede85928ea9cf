/-
  Package name: bytes and strings; Fold.
-/
import Derived.Test.YtfhnfjfjmjopeaaDoorNameMath
import Derived.Laws.IdiomStrings
import Derived.Handy
namespace Go.Proofs.YtfhnfjfjmjopeaaDoor
open Go.RowKit
set_option linter.unusedVariables false
set_option linter.unusedSimpArgs false

theorem Still.drewN_ {w w' : World} (h : Still w w') (q : Nat) : Still w (w'.drewN q) := h.drewN q
theorem Still.quiet (w : World) (q : Nat) : Still w (w.drewN q) := (Only.refl _ _).drewN q
/-- Bytes as cells. -/
def bv (l : List UInt8) : List Value := l.map fun b => Value.int .u8 b.toNat
theorem bv_length (l : List UInt8) : (bv l).length = l.length := by simp [bv]
theorem bv_append (l m : List UInt8) : bv (l ++ m) = bv l ++ bv m := by simp [bv]
theorem bv_one (l : List UInt8) : ∀ v ∈ bv l, v.oneCell' = true := by
  intro v hv
  obtain ⟨b, _, rfl⟩ := List.mem_map.1 hv
  rfl
/-- Texts as cells. -/
def sv (L : List Lab) : List Value := L.map fun x => Value.string (mk x)
theorem sv_length (l : List Lab) : (sv l).length = l.length := by simp [sv]
theorem sv_append (l m : List Lab) : sv (l ++ m) = sv l ++ sv m := by simp [sv]
theorem sv_one (l : List Lab) : ∀ v ∈ sv l, v.oneCell' = true := by
  intro v hv
  obtain ⟨b, _, rfl⟩ := List.mem_map.1 hv
  rfl
theorem info_u8 : (Tryd.prog.info? 5).map (fun i => (i.zero, i.size, i.bytes)) = some (some (.int .u8 0), 1, 1) := by kernel_rfl
theorem info_str : (Tryd.prog.info? 9).map (fun i => (i.zero, i.size, i.bytes)) = some (some (.string ⟨#[]⟩), 1, 16) := by kernel_rfl
theorem Reads.at_still {w w' : World} {n : Nat} {A : Option Addr} {xs : List Value} (h : Reads w w.heap.size 1 A n xs) (hs : Still w w') : Reads w' w'.heap.size 1 A n xs :=
  (h.only hs (Nat.le_refl _) (fun _ _ h => h)).more hs.size
/-- '[]byte(s)'. -/
theorem to_bytes (w : World) (s : ByteArray) : ∃ c w', (convert 9 33 (.string s)).run Tryd.prog w = .ok (.slice (some ⟨w.heap.size, 0, none⟩) s.size c) w' ∧ s.size ≤ c ∧ Still w w' ∧ w'.heap.size = w.heap.size + 1 ∧
    ∀ j (hj : j < s.size), w'.cell? ⟨w.heap.size, j, none⟩ = some (.int .u8 (s[j].toNat : Int)) ∧ w'.frozen? ⟨w.heap.size, j, none⟩ = false := by
  refine ⟨_, _, run_bytes_of_string w 9 33 5 s Tryd.underlying9 Tryd.underlying33 Tryd.underlying5, grownCap_ge _ _ _ _, ((Only.refl _ w).drew).alloc _, by simp, ?_⟩
  intro j hj
  have hd : w.drew.heap.size = w.heap.size := rfl
  refine ⟨?_, ?_⟩
  · have := World.cell?_alloc_mark w.drew (bytesRow s (grownCap w s.size 0 5)) 5 ((bytesRow s (grownCap w s.size 0 5)).size, (bytesRow s (grownCap w s.size 0 5)).size + 1) j
    rw [hd] at this
    rw [this, bytesRow_at s _ j hj]
    rfl
  · have := World.frozen?_alloc_mark w.drew (bytesRow s (grownCap w s.size 0 5)) 5 (bytesRow s (grownCap w s.size 0 5)).size ((bytesRow s (grownCap w s.size 0 5)).size + 1) j
    rw [hd] at this
    rw [this]
    have h2 : s.size ≤ (bytesRow s (grownCap w s.size 0 5)).size := by
      unfold bytesRow
      rw [Array.size_append, Array.size_map]
      show s.size ≤ s.size + _
      omega
    rw [decide_eq_false (by omega)]; simp
/-- 'string(b)'. -/
theorem of_bytes (w : World) (g c : Nat) (l : List UInt8) (h : ∀ j (hj : j < l.length), w.cell? ⟨g, j, none⟩ = some (.int .u8 (l[j].toNat : Int))) :
    (convert 33 9 (.slice (some ⟨g, 0, none⟩) l.length c)).run Tryd.prog w = .ok (.string (mk l)) w :=
  run_convert_bytes_back w 33 9 5 ⟨g, 0, none⟩ c l Tryd.underlying33 Tryd.underlying5 Tryd.underlying9 (fun j hj => by
    rw [show (⟨g, 0, none⟩ : Addr).add j = ⟨g, j, none⟩ by unfold Addr.add; split <;> simp_all]
    exact h j hj)

/-- A name, folded; nothing, if it is none. -/
def foldS (s : ByteArray) : ByteArray := if mayN s.data.toList then mk (s.data.toList.map low) else mk []
/-- The bytes when i of them are folded. -/
def part (l : List UInt8) (i j : Nat) (hj : j < l.length) : UInt8 := if j < i then low l[j] else l[j]
/-- A byte that is no capital goes on. -/
theorem part_skip {l : List UInt8} {w : World} {g k : Nat} (hk : k < l.length) (hn : low l[k] = l[k]) (h : ∀ j (hj : j < l.length), w.cell? ⟨g, j, none⟩ = some (.int .u8 ((part l k j hj).toNat : Int)) ∧ w.frozen? ⟨g, j, none⟩ = false) :
    ∀ j (hj : j < l.length), w.cell? ⟨g, j, none⟩ = some (.int .u8 ((part l (k + 1) j hj).toNat : Int)) ∧ w.frozen? ⟨g, j, none⟩ = false := by
  intro j hj
  have e : part l (k + 1) j hj = part l k j hj := by
    unfold part
    by_cases h1 : j < k
    · rw [if_pos (by omega), if_pos h1]
    · by_cases h2 : j = k
      · subst h2; rw [if_pos (by omega), if_neg (by omega)]; exact hn
      · rw [if_neg (by omega), if_neg h1]
  rw [e]; exact h j hj
theorem part_put {l : List UInt8} {w : World} {g k : Nat} (hk : k < l.length) (x : Int) (hx : x = ((low l[k]).toNat : Int)) (h : ∀ j (hj : j < l.length), w.cell? ⟨g, j, none⟩ = some (.int .u8 ((part l k j hj).toNat : Int)) ∧ w.frozen? ⟨g, j, none⟩ = false) :
    ∀ j (hj : j < l.length), (w.setCell ⟨g, k, none⟩ (.int .u8 x)).cell? ⟨g, j, none⟩ = some (.int .u8 ((part l (k + 1) j hj).toNat : Int)) ∧ (w.setCell ⟨g, k, none⟩ (.int .u8 x)).frozen? ⟨g, j, none⟩ = false := by
  intro j hj
  refine ⟨?_, by rw [World.frozen?_setCell]; exact (h j hj).2⟩
  by_cases h2 : j = k
  · subst h2
    rw [World.cell?_setCell_same _ _ _ (h j hj).1]
    unfold part; rw [if_pos (by omega), hx]
  · rw [World.cell?_setCell_other _ _ _ _ (fun e => h2 (by injection e with _ e _; exact e.symm)), (h j hj).1]
    have e : part l (k + 1) j hj = part l k j hj := by
      unfold part
      by_cases h1 : j < k
      · rw [if_pos (by omega), if_pos h1]
      · rw [if_neg (by omega), if_neg h1]
    rw [e]
theorem low_cap {b : UInt8} (h : 65 ≤ b.toNat ∧ b.toNat ≤ 90) : (low b).toNat = b.toNat + 32 := by
  unfold low; rw [if_pos h]; simp [UInt8.toNat_ofNat']; omega
theorem low_not {b : UInt8} (h : ¬ (65 ≤ b.toNat ∧ b.toNat ≤ 90)) : low b = b := by
  unfold low; rw [if_neg h]

end Go.Proofs.YtfhnfjfjmjopeaaDoor
