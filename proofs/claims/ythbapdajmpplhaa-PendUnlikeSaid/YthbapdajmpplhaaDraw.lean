/-
  Package draw: what its functions come to, as contracts.
-/
import Derived.Test.YthbapdajmpplhaaRows
import Derived.Test.YthbapdajmpplhaaBase
import Derived.StillTailTactics
namespace Go.Proofs.Ythbapdajmpplhaa
open Go.RowKit
set_option linter.unusedVariables false

/-- The draw behind the numbers. -/
def mixA (n : Int) : Int := IntKind.u64.wrap (bits BinOp.xor IntKind.u64 n (n / 1073741824) * 13787848793156543929)
def mixB (n : Int) : Int := IntKind.u64.wrap (bits BinOp.xor IntKind.u64 n (n / 134217728) * 10723151780598845931)
def mixed (n : Int) : Int := bits BinOp.xor IntKind.u64 (mixB (mixA n)) (mixB (mixA n) / 2147483648)

theorem mixed_any (n : Int) (w : World) (h0 : 0 ≤ n) (h1 : n < 18446744073709551616) :
    Calls Try.prog 40 #[.int .u64 n] w fun e w' => e = .returned (.int .u64 (mixed n)) ∧ w = w' := by
  go_enter Try.func40, Try.ntmps40
  go_wp2
  go_ret
  exact ⟨rfl, rfl⟩

def nth (seed : Int) (k : Int) : Int := mixed (IntKind.u64.wrap (seed + IntKind.u64.wrap (11400714819323198485 * IntKind.u64.wrap k)))

theorem src_first (b1 b2 : Nat) (a : Addr) (len cap : Nat) (x : Int) (n : Nat) (w : World) (hn : n < len) (hlen : len ≤ 1000000000000)
    (h1 : w.cell? ⟨b1, 0, none⟩ = some (.slice (some a) len cap)) (hx : w.cell? (a.add n) = some (.int .u64 x)) :
    Calls Try.prog 39 #[.int .i64 n, .pointer (some ⟨b1, 0, none⟩), .pointer (some ⟨b2, 0, none⟩)] w fun e w' => e = .returned (.int .u64 x) ∧ w = w' := by
  go_enter Try.func39, Try.ntmps39
  go_wp2
  go_ret
  exact ⟨rfl, rfl⟩

theorem src_next (b1 b2 : Nat) (A : Option Addr) (len cap : Nat) (seed : Int) (n : Nat) (w : World) (hn : len ≤ n) (hlen : n ≤ 1000000000000) (hs : 0 ≤ seed) (hs2 : seed < 18446744073709551616)
    (h1 : w.cell? ⟨b1, 0, none⟩ = some (.slice A len cap)) (hx : w.cell? ⟨b2, 0, none⟩ = some (.int .u64 seed)) :
    Calls Try.prog 39 #[.int .i64 n, .pointer (some ⟨b1, 0, none⟩), .pointer (some ⟨b2, 0, none⟩)] w fun e w' => e = .returned (.int .u64 (nth seed (n - len + 1))) ∧ w = w' := by
  go_enter Try.func39, Try.ntmps39
  go_wp2_with fail
  refine (mixed_any _ _ ?_ ?_).mono ?_
  · simp only [IntKind.wrap_u64]; omega
  · simp only [IntKind.wrap_u64]; omega
  rintro e w' ⟨rfl, rfl⟩
  go_wp2
  go_ret
  exact ⟨ret_int (by simp only [nth]; rw [IntWalk.u64_in ((n : Int) - len + 1) (by omega)]), rfl⟩

/-- A tape's source, as it stands in memory: the closure, its two boxes, the row of the numbers. -/
def Src (w : World) (f : Value) (seed : Int) (xs : List Int) : Prop :=
  ∃ b1 b2 v, f = .func (.func 39) #[] #[.pointer (some ⟨b1, 0, none⟩), .pointer (some ⟨b2, 0, none⟩)] ∧ Blk w b1 36 #[v] ∧ Blk w b2 29 #[.int .u64 seed] ∧ w.ownsRow 0 29 1 v xs.length (xs.map (.int .u64))

def draw (seed : Int) (xs : List Int) (n : Nat) : Int := if n < xs.length then xs.getD n 0 else nth seed (n - xs.length + 1)

structure Tape (w : World) (g : Nat) (seed : Int) (xs : List Int) (n : Nat) : Prop where
  lo : 0 ≤ seed
  hi : seed < 18446744073709551616
  len : xs.length ≤ 1000000
  els : ∀ x ∈ xs, 0 ≤ x ∧ x < 18446744073709551616
  src : ∃ f, Blk w g 74 #[f, .int .i64 n] ∧ Src w f seed xs

theorem Src.only {w w' : World} {f : Value} {seed : Int} {xs : List Int} {S : Nat → Prop} (h : Src w f seed xs) (ho : Only S w w')
    (hS : ∀ k t cs, S k → w.heap[k]? = some (.cells cs t (0, 0)) → t ≠ 36 ∧ t ≠ 29) : Src w' f seed xs := by
  obtain ⟨b1, b2, v, rfl, h1, h2, h3⟩ := h
  refine ⟨b1, b2, v, rfl, h1.only ho (fun hs => (hS _ _ _ hs h1).1 rfl), h2.only ho (fun hs => (hS _ _ _ hs h2).2 rfl), own_only h3 ho ?_⟩
  rcases h3.2 with ⟨rfl, _⟩ | ⟨g', cap, cur, rfl, _, hh, _⟩
  · intro k hk; simp [Value.ownBlock] at hk
  · intro k hk hs
    simp [Value.ownBlock] at hk
    subst hk
    exact (hS _ _ _ hs hh).2 rfl

theorem Src.still {w w' : World} {f : Value} {seed : Int} {xs : List Int} (h : Src w f seed xs) (ho : Still w w') : Src w' f seed xs := h.only ho (fun _ _ _ h => h.elim)

theorem func_not_nil (a b : Value) (w : World) : (binOp .eql 70 (.func (.func 39) #[] #[a, b]) .nilFunc).run Try.prog w = .ok (.bool false) w := by kernel_rfl

set_option maxRecDepth 100000 in
theorem next_first (g b1 b2 : Nat) (a : Addr) (len cap : Nat) (x : Int) (n : Nat) (w : World) (hn : n < len) (hlen : len ≤ 1000000000000)
    (hb : Blk w g 74 #[.func (.func 39) #[] #[.pointer (some ⟨b1, 0, none⟩), .pointer (some ⟨b2, 0, none⟩)], .int .i64 n])
    (h1 : w.cell? ⟨b1, 0, none⟩ = some (.slice (some a) len cap)) (hx : w.cell? (a.add n) = some (.int .u64 x)) :
    Calls Try.prog 29 #[.pointer (some ⟨g, 0, none⟩)] w fun e w' => e = .returned (.int .u64 x) ∧ ∃ k, w' = (w.drewN k).setCell ⟨g, 1, none⟩ (.int .i64 (n + 1)) := by
  have c0 := hb.cell 0
  have c1 := hb.cell 1
  have f1 := hb.frozen 1
  simp at c0 c1
  have hnn := func_not_nil
  go_enter Try.func29, Try.ntmps29
  go_wp2
  go_quiet ((go_at_call 39; exact quiet_left (src_first b1 b2 a len cap x n _ hn hlen h1 hx)))
  go_wp2
  go_ret
  exact ⟨rfl, _, rfl⟩

set_option maxRecDepth 100000 in
theorem next_next (g b1 b2 : Nat) (A : Option Addr) (len cap : Nat) (seed : Int) (n : Nat) (w : World) (hn : len ≤ n) (hlen : n ≤ 1000000000000) (hs : 0 ≤ seed) (hs2 : seed < 18446744073709551616)
    (hb : Blk w g 74 #[.func (.func 39) #[] #[.pointer (some ⟨b1, 0, none⟩), .pointer (some ⟨b2, 0, none⟩)], .int .i64 n])
    (h1 : w.cell? ⟨b1, 0, none⟩ = some (.slice A len cap)) (hx : w.cell? ⟨b2, 0, none⟩ = some (.int .u64 seed)) :
    Calls Try.prog 29 #[.pointer (some ⟨g, 0, none⟩)] w fun e w' => e = .returned (.int .u64 (nth seed (n - len + 1))) ∧ ∃ k, w' = (w.drewN k).setCell ⟨g, 1, none⟩ (.int .i64 (n + 1)) := by
  have c0 := hb.cell 0
  have c1 := hb.cell 1
  have f1 := hb.frozen 1
  simp at c0 c1
  have hnn := func_not_nil
  go_enter Try.func29, Try.ntmps29
  go_wp2
  go_quiet ((go_at_call 39; exact quiet_left (src_next b1 b2 A len cap seed n _ hn hlen hs hs2 h1 hx)))
  go_wp2
  go_ret
  exact ⟨rfl, _, rfl⟩

theorem Tape.only {w w' : World} {g : Nat} {seed : Int} {xs : List Int} {n : Nat} {S : Nat → Prop} (h : Tape w g seed xs n) (ho : Only S w w') (hg : ¬ S g)
    (hS : ∀ k t cs, S k → w.heap[k]? = some (.cells cs t (0, 0)) → t ≠ 36 ∧ t ≠ 29) : Tape w' g seed xs n := by
  obtain ⟨f, h1, h2⟩ := h.src
  exact ⟨h.lo, h.hi, h.len, h.els, f, h1.only ho hg, h2.only ho hS⟩
theorem Tape.lt {w : World} {g : Nat} {seed : Int} {xs : List Int} {n : Nat} (h : Tape w g seed xs n) : g < w.heap.size := by
  obtain ⟨f, h1, _⟩ := h.src
  exact h1.lt
/-- Another tape's own turn leaves this one. -/
theorem Tape.other {w w' : World} {g g' : Nat} {seed seed' : Int} {xs xs' : List Int} {n n' : Nat} (h : Tape w g seed xs n) (h' : Tape w g' seed' xs' n') (ho : Only (· = g') w w') (hg : g ≠ g') : Tape w' g seed xs n := by
  refine h.only ho hg ?_
  obtain ⟨f, h1, _⟩ := h'.src
  rintro k t cs rfl hk
  have : t = 74 := by
    have := h1.symm.trans hk
    injection this with this
    injection this with _ ht
    exact ht.symm
  subst this
  exact ⟨by decide, by decide⟩
theorem Tape.still {w w' : World} {g : Nat} {seed : Int} {xs : List Int} {n : Nat} (h : Tape w g seed xs n) (ho : Still w w') : Tape w' g seed xs n :=
  h.only ho (fun h => h) (fun _ _ _ h => h.elim)

theorem next_any {w : World} {g : Nat} {seed : Int} {xs : List Int} {n : Nat} (h : Tape w g seed xs n) (hn : n ≤ 1000000) :
    Calls Try.prog 29 #[.pointer (some ⟨g, 0, none⟩)] w fun e w' => e = .returned (.int .u64 (draw seed xs n)) ∧ Tape w' g seed xs (n + 1) ∧ Only (· = g) w w' := by
  obtain ⟨f, h1, h2⟩ := h.src
  have h2' := h2
  obtain ⟨b1, b2, v, rfl, hb1, hb2, ho⟩ := h2
  have fin : ∀ k, Tape ((w.drewN k).setCell ⟨g, 1, none⟩ (.int .i64 (n + 1))) g seed xs (n + 1) ∧ Only (· = g) w ((w.drewN k).setCell ⟨g, 1, none⟩ (.int .i64 (n + 1))) := fun k => by
    have ho : Only (· = g) w ((w.drewN k).setCell ⟨g, 1, none⟩ (.int .i64 (n + 1))) := ((Only.refl (· = g) _).drewN k).setCell (p := ⟨g, 1, none⟩) (.inl rfl) _
    refine ⟨⟨h.lo, h.hi, h.len, h.els, _, (h1.drewN k).set_ 1 _, h2'.only ho ?_⟩, ho⟩
    rintro k t cs rfl hk
    have : t = 74 := by
      have := h1.symm.trans hk
      injection this with this
      injection this with _ ht
      exact ht.symm
    subst this
    exact ⟨by decide, by decide⟩
  have hlen := h.len
  by_cases hlt : n < xs.length
  · have hc1 := hb1.cell 0
    rcases ho.2 with ⟨_, h0⟩ | ⟨g', cap, cur, rfl, _, hh, _⟩
    · omega
    · have hx : w.cell? ((⟨g', 0, none⟩ : Addr).add n) = some (.int .u64 (xs.getD n 0)) :=
        ho.cells (g := g') rfl n _ (by simp [List.getElem?_eq_getElem hlt])
      refine (next_first g b1 b2 _ _ _ _ n w hlt (by omega) h1 (by simpa using hc1) hx).mono ?_
      rintro e w' ⟨rfl, k, rfl⟩
      exact ⟨by simp [draw, hlt], fin k⟩
  · have hc1 := hb1.cell 0
    have hc2 := hb2.cell 0
    obtain ⟨A, c, rfl⟩ : ∃ A c, v = .slice A xs.length c := by
      rcases ho.2 with ⟨rfl, h0⟩ | ⟨g', cap, cur, rfl, _, hh, _⟩
      · exact ⟨none, 0, by rw [h0]⟩
      · exact ⟨_, _, rfl⟩
    refine (next_next g b1 b2 A xs.length c seed n w (by omega) (by omega) h.lo h.hi h1 (by simpa using hc1) (by simpa using hc2)).mono ?_
    rintro e w' ⟨rfl, k, rfl⟩
    exact ⟨by simp [draw, hlt], fin k⟩

/-! ### New -/
theorem info_u64 : (Try.prog.info? 29).map (fun i => (i.zero, i.size, i.bytes)) = some (some (.int .u64 0), 1, 8) := by kernel_rfl
theorem clone_any (A : Option Addr) (n c : Nat) (xs : List Int) (w : World) (hr : Reads w w.heap.size 1 A n (xs.map (.int .u64))) (hA : A = none → n = 0 ∧ c = 0) (hn : n ≤ 1000000) :
    Calls Try.prog 31 #[.slice A n c] w fun e w' => ∃ A' c', e = .returned (.slice A' n c') ∧ w'.ownsRow 0 29 1 (.slice A' n c') n (xs.map (.int .u64)) ∧ Still w w' := by
  have hnil := fun W a l cc => Lib.run_eql_slice_nil (P := Try.prog) W 36 29 a l cc 0 0 Try.underlying36
  rcases A with _ | a
  · obtain ⟨rfl, rfl⟩ := hA rfl
    have h0 : xs = [] := List.eq_nil_of_length_eq_zero (by simpa using hr.1)
    subst h0
    go_enter Try.func31, Try.ntmps31
    go_wp2
    go_ret
    exact ⟨_, _, rfl, World.ownsRow_nil _ _ _ _, Only.refl _ _⟩
  · obtain ⟨i0, hi, hz0, hz1, hz2⟩ := info_parts info_u64
    have hown0 := World.ownsRow_made (base := w.heap.size) (e := 29) (size := 1) w #[] 0 (Nat.le_refl _) (by unfold maxLen; omega) rfl
    have hra := hr.alloc (Nat.le_refl _) (.cells #[] 29)
    have H0 := Lib.hid hr.1
    go_enter Try.func31, Try.ntmps31
    go_wp2_with (at_builtin; refine wpList_append_any _ rfl (.tmp 5) (.tmp 6) 36 rfl w.heap.size 29 i0 (.int .u64 0) 1 8 Try.underlying36 hi hz0 hz1 hz2 rfl (by decide) _ 0 [] rfl hown0 w.heap.size (some a) n c _ rfl hra ?c1 ?c2 ?c3 ?c4 ?_)
    case c1 => intro u hu; simp at hu; obtain ⟨x, _, rfl⟩ := hu; rfl
    case c2 => unfold maxLen; omega
    case c3 => omega
    case c4 => simp
    intro v' w' hown hgrow hblk
    go_wp2
    go_ret
    have hown' : w'.ownsRow 0 29 1 v' n (xs.map (.int .u64)) := by simpa using own_base hown (Nat.zero_le _)
    obtain ⟨A', c', rfl⟩ := own_shape hown'
    exact ⟨A', c', rfl, hown', (Still.new w _).grown hgrow (fun k hk => .inr (by simp [Value.ownBlock] at hk; omega))⟩

set_option maxRecDepth 100000 in
theorem new_any (seed : Int) (A : Option Addr) (n c : Nat) (xs : List Int) (w : World) (hr : Reads w w.heap.size 1 A n (xs.map (.int .u64))) (hA : A = none → n = 0 ∧ c = 0) (hn : n ≤ 1000000)
    (hs : 0 ≤ seed) (hs2 : seed < 18446744073709551616) (hx : ∀ x ∈ xs, 0 ≤ x ∧ x < 18446744073709551616) :
    Calls Try.prog 11 #[.int .u64 seed, .slice A n c] w fun e w' => ∃ g, e = .returned (.pointer (some ⟨g, 0, none⟩)) ∧ w.heap.size ≤ g ∧ Tape w' g seed xs 0 ∧ Still w w' := by
  have H0 := Lib.hid hr.1
  have hmf : ∀ (fn : Fn) (first cap : Array Value) (w : World), (Instr.makeFunc fn first cap).run Try.prog w = .ok (.func fn first cap) w := fun _ _ _ _ => rfl
  go_enter Try.func11, Try.ntmps11
  go_wp2_with (first | (go_at_call 31; refine (clone_any A n c xs w hr hA hn).mono ?_; rintro e w1 ⟨A', c', rfl, hown, hstill⟩) | go_in)
  go_ret
  have hsz := hstill.size
  have hlen : xs.length = n := by have := H0.out; simpa using this
  subst hlen
  exact ⟨_, rfl, by omega, ⟨hs, hs2, hn, hx, _, Blk.at_ _ _ _ (by simp), w1.heap.size + 1, w1.heap.size, _, rfl, (Blk.at_ _ _ _ (by simp)).alloc _, ((Blk.new _ _ _).alloc _).alloc _, ((hown.alloc _).alloc _).alloc _⟩, ((hstill.alloc _).alloc _).alloc _⟩

theorem used_any {w : World} {g : Nat} {seed : Int} {xs : List Int} {n : Nat} (h : Tape w g seed xs n) :
    Calls Try.prog 13 #[.pointer (some ⟨g, 0, none⟩)] w fun e w' => e = .returned (.int .i64 n) ∧ w = w' := by
  obtain ⟨f, h1, h2⟩ := h.src
  have c1 := h1.cell 1
  simp at c1
  go_enter Try.func13, Try.ntmps13
  go_wp2
  go_ret
  exact ⟨rfl, rfl⟩

set_option maxRecDepth 100000 in
theorem copy_any {w : World} {g : Nat} {seed : Int} {xs : List Int} {n : Nat} (h : Tape w g seed xs n) :
    Calls Try.prog 28 #[.pointer (some ⟨g, 0, none⟩)] w fun e w' => ∃ g', e = .returned (.pointer (some ⟨g', 0, none⟩)) ∧ w.heap.size ≤ g' ∧ Tape w' g' seed xs n ∧ Still w w' := by
  obtain ⟨f, h1, h2⟩ := h.src
  have h2' := h2
  obtain ⟨b1, b2, v, rfl, hb1, hb2, ho⟩ := h2
  have c0 := h1.cell 0
  have c1 := h1.cell 1
  simp at c0 c1
  go_enter Try.func28, Try.ntmps28
  go_wp2
  go_still_tail 8, (by kernel_rfl)
  go_wp2
  go_ret
  exact ⟨_, rfl, Nat.le_refl _, ⟨h.lo, h.hi, h.len, h.els, _, Blk.new _ _ _, h2'.still (((Only.refl _ _).drew).alloc _)⟩, ((Only.refl _ _).drew).alloc _⟩

theorem xor_range (a b : Int) (ha : 0 ≤ a) (ha2 : a < 18446744073709551616) (hb : 0 ≤ b) (hb2 : b < 18446744073709551616) : 0 ≤ bits .xor .u64 a b ∧ bits .xor .u64 a b < 18446744073709551616 := by
  rw [u64_xor a b ha ha2 hb hb2]
  have := Nat.xor_lt_two_pow (n := 64) (x := a.toNat) (y := b.toNat) (by omega) (by omega)
  omega

theorem mixed_range (n : Int) : 0 ≤ mixed n ∧ mixed n < 18446744073709551616 := by
  have h : 0 ≤ mixB (mixA n) ∧ mixB (mixA n) < 18446744073709551616 := by
    simp only [mixB, IntKind.wrap_u64]; omega
  exact xor_range _ _ h.1 h.2 (by omega) (by omega)

theorem Tape.range {w : World} {g : Nat} {seed : Int} {xs : List Int} {n : Nat} (h : Tape w g seed xs n) (k : Nat) : 0 ≤ draw seed xs k ∧ draw seed xs k < 18446744073709551616 := by
  unfold draw
  split
  · rename_i hk
    rw [List.getD_eq_getElem?_getD, List.getElem?_eq_getElem hk]
    exact h.els _ (List.getElem_mem hk)
  · exact mixed_range _

end Go.Proofs.Ythbapdajmpplhaa
