/-
  New tapes stay as they are while older blocks are written.
-/
import Derived.Test.YtpgebejnpncemaaDrawRefB
namespace Go.Proofs.Ytpgebejnpncemaa
open Go.RowKit
set_option linter.unusedVariables false

theorem clone_fresh (A : Option Addr) (n c : Nat) (xs : List Int) (w : World) (hr : Reads w w.heap.size 1 A n (xs.map (.int .u64))) (hA : A = none → n = 0 ∧ c = 0) (hn : n ≤ 1000000) :
    Calls Try.prog 38 #[.slice A n c] w fun e w' => ∃ A' c', e = .returned (.slice A' n c') ∧ w'.ownsRow w.heap.size 22 1 (.slice A' n c') n (xs.map (.int .u64)) ∧ Still w w' := by
  have hnil := fun W a l cc => Lib.run_eql_slice_nil (P := Try.prog) W 23 22 a l cc 0 0 Try.underlying23
  rcases A with _ | a
  · obtain ⟨rfl, rfl⟩ := hA rfl
    have h0 : xs = [] := List.eq_nil_of_length_eq_zero (by simpa using hr.1)
    subst h0
    go_enter Try.func38, Try.ntmps38
    go_wp2
    go_ret
    exact ⟨_, _, rfl, World.ownsRow_nil _ _ _ _, Only.refl _ _⟩
  · obtain ⟨i0, hi, hz0, hz1, hz2⟩ := info_parts info_u64
    have hown0 := World.ownsRow_made (base := w.heap.size) (e := 22) (size := 1) w #[] 0 (Nat.le_refl _) (by unfold maxLen; omega) rfl
    have hra := hr.alloc (Nat.le_refl _) (.cells #[] 22)
    have H0 := Lib.hid hr.1
    go_enter Try.func38, Try.ntmps38
    go_wp2_with (at_builtin; refine wpList_append_any _ rfl (.tmp 5) (.tmp 6) 23 rfl w.heap.size 22 i0 (.int .u64 0) 1 8 Try.underlying23 hi hz0 hz1 hz2 rfl (by decide) _ 0 [] rfl hown0 w.heap.size (some a) n c _ rfl hra ?c1 ?c2 ?c3 ?c4 ?_)
    case c1 => intro u hu; simp at hu; obtain ⟨x, _, rfl⟩ := hu; rfl
    case c2 => unfold maxLen; omega
    case c3 => omega
    case c4 => simp
    intro v' w' hown hgrow hblk
    go_wp2
    go_ret
    have hown' : w'.ownsRow w.heap.size 22 1 v' n (xs.map (.int .u64)) := by simpa using hown
    obtain ⟨A', c', rfl⟩ := own_shape hown'
    exact ⟨A', c', rfl, hown', (Still.new w _).grown hgrow (fun k hk => .inr (by simp [Value.ownBlock] at hk; omega))⟩

theorem own_nil {w : World} {base : Nat} {e : TypeId} {size n c : Nat} {A : Option Addr} {xs : List Value} (h : w.ownsRow base e size (.slice A n c) n xs) (hA : A = none) : n = 0 ∧ c = 0 := by
  rcases h.2 with ⟨h', h0⟩ | ⟨g', cap', cur, h', _⟩
  · injection h' with _ h2 h3
    exact ⟨h2, h3⟩
  · injection h' with h1
    rw [hA] at h1; cases h1

theorem only_lt {w w' : World} {S : Nat → Prop} {B g : Nat} {t : TypeId} {cs : Array Value} (h : Blk w g t cs) (ho : Only S w w') (hS : ∀ k, S k → k < B) (hg : B ≤ g) : Blk w' g t cs :=
  h.only ho (fun hs => by have := hS _ hs; omega)

set_option maxRecDepth 100000 in
theorem new_fresh (seed : Int) (A : Option Addr) (n c : Nat) (xs : List Int) (w : World) (hr : Reads w w.heap.size 1 A n (xs.map (.int .u64))) (hA : A = none → n = 0 ∧ c = 0) (hn : n ≤ 1000000)
    (hs : 0 ≤ seed) (hs2 : seed < 18446744073709551616) (hx : ∀ x ∈ xs, 0 ≤ x ∧ x < 18446744073709551616) :
    Calls Try.prog 16 #[.int .u64 seed, .slice A n c] w fun e w' => ∃ g, e = .returned (.pointer (some ⟨g, 0, none⟩)) ∧ w.heap.size ≤ g ∧ g < w'.heap.size ∧ Hid (∀ w'' S, Only S w' w'' → (∀ k, S k → k < w.heap.size) → Tape w'' g seed xs 0) ∧ Still w w' := by
  have H0 := Lib.hid hr.1
  have hmf : ∀ (fn : Fn) (first cap : Array Value) (w : World), (Instr.makeFunc fn first cap).run Try.prog w = .ok (.func fn first cap) w := fun _ _ _ _ => rfl
  go_enter Try.func16, Try.ntmps16
  go_wp2_with (first | (go_at_call 38; refine (clone_fresh A n c xs w hr hA hn).mono ?_; rintro e w1 ⟨A', c', rfl, hown, hstill⟩) | go_in)
  go_ret
  have hsz := hstill.size
  have hlen : xs.length = n := by have := H0.out; simpa using this
  subst hlen
  refine ⟨_, rfl, by omega, by simp, fun w'' S ho hS => ?_, ((hstill.alloc _).alloc _).alloc _⟩
  have hrow := ((hown.alloc (.cells #[Value.int .u64 seed] 22)).alloc (.cells #[Value.slice A' xs.length c'] 23)).alloc
    (.cells #[.func (.func 47) #[] #[.pointer (some ⟨w1.heap.size + 1, 0, none⟩), .pointer (some ⟨w1.heap.size, 0, none⟩)], .int .i64 0] 45)
  refine ⟨hs, hs2, hn, hx, _, only_lt (Blk.at_ _ _ _ (by simp)) ho hS (by omega), w1.heap.size + 1, w1.heap.size, _, rfl, only_lt ((Blk.at_ _ _ _ (by simp)).alloc _) ho hS (by omega), only_lt (((Blk.new _ _ _).alloc _).alloc _) ho hS (by omega), own_base (own_only hrow ho (fun k hk hs => by have := (hown.lt k hk).1; have := hS _ hs; omega)) (Nat.zero_le _)⟩

set_option maxRecDepth 100000 in
theorem ref_new_fresh (seed : Int) (A : Option Addr) (n c : Nat) (xs : List Int) (w : World) (B : Nat) (hB : B ≤ w.heap.size) (hr : Reads w w.heap.size 1 A n (xs.map (.int .u64))) (hn : n ≤ 1000000)
    (hs : 0 ≤ seed) (hs2 : seed < 18446744073709551616) (hx : ∀ x ∈ xs, 0 ≤ x ∧ x < 18446744073709551616) :
    Calls Try.prog 17 #[.int .u64 seed, .slice A n c] w fun e w' => ∃ g, e = .returned (.pointer (some ⟨g, 0, none⟩)) ∧ w.heap.size ≤ g ∧ Hid (∀ w'' S, Only S w' w'' → (∀ k, S k → k < B) → Ref w'' g seed xs 0) ∧ Still w w' := by
  obtain ⟨i0, hi, hz0, hz1, hz2⟩ := info_parts info_u64
  have hown0 := World.ownsRow_made (base := w.heap.size) (e := 22) (size := 1) w #[] 0 (Nat.le_refl _) (by unfold maxLen; omega) rfl
  have hra := hr.alloc (Nat.le_refl _) (.cells #[] 22)
  have hlen : xs.length = n := by have := hr.1; simpa using this
  subst hlen
  have H0 := Lib.hid hr.1
  go_enter Try.func17, Try.ntmps17
  go_wp2_with (at_builtin; refine wpList_append_any _ rfl (.tmp 6) (.tmp 7) 23 rfl w.heap.size 22 i0 (.int .u64 0) 1 8 Try.underlying23 hi hz0 hz1 hz2 rfl (by decide) _ 0 [] rfl hown0 w.heap.size A xs.length c _ rfl hra ?c1 ?c2 ?c3 ?c4 ?_)
  case c1 => intro u hu; simp at hu; obtain ⟨x, _, rfl⟩ := hu; rfl
  case c2 => unfold maxLen; omega
  case c3 => omega
  case c4 => simp
  intro v' w' hown hgrow hblk
  have hown' : w'.ownsRow w.heap.size 22 1 v' xs.length (xs.map (.int .u64)) := by simpa using hown
  obtain ⟨A', c', rfl⟩ := own_shape hown'
  have hst : Still w w' := (Still.new w (.cells #[] 22)).grown hgrow (fun k hk => .inr (by simp [Value.ownBlock] at hk; omega))
  clear hown hgrow hblk
  go_wp2
  go_ret
  have hsz := hst.size
  refine ⟨w'.heap.size, rfl, hsz, fun w'' S ho hS => ⟨hs, hs2, hn, hx, A', c', ?_, ?_⟩, hst.alloc _⟩
  · have : IntKind.u64.wrap (seed + 11400714819323198485 * ((0 - xs.length : Nat) : Int)) = seed := by
      rw [Nat.zero_sub, IntKind.wrap_u64]; omega
    rw [this]
    exact only_lt (Blk.new _ _ _) ho hS (by omega)
  · exact own_base (own_only (hown'.alloc _) ho (fun k hk hs => by have := (hown'.lt k hk).1; have := hS _ hs; omega)) (Nat.zero_le _)
end Go.Proofs.Ytpgebejnpncemaa
