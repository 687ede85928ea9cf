/-
  Package name: the text of a name: a builder that is written byte by byte.
-/
import Derived.Test.YtjenabcjikdnaaaNameCmp
namespace Go.Proofs.Ytjenabcjikdnaaa
open Go.RowKit
set_option linter.unusedVariables false
set_option linter.unusedSimpArgs false

/-- The builder b holds these bytes; its row lies at base or behind it. -/
structure Bld (w : World) (b base : Nat) (bs : List UInt8) : Prop where
  lt : b < base
  le : base ≤ w.heap.size
  row : ∃ p v, (p = .pointer none ∨ p = .pointer (some ⟨b, 0, none⟩)) ∧ Blk w b 51 #[p, v] ∧ w.ownsRow base 5 1 v bs.length (bv bs)
theorem blk2 {w : World} {g : Nat} {t : TypeId} {v0 v1 : Value} (h : Blk w g t #[v0, v1]) : w.cell? ⟨g, 0, none⟩ = some v0 ∧ w.cell? ⟨g, 1, none⟩ = some v1 ∧ w.frozen? ⟨g, 0, none⟩ = false ∧ w.frozen? ⟨g, 1, none⟩ = false := by
  have c0 := h.cell 0
  have c1 := h.cell 1
  simp at c0 c1
  exact ⟨c0, c1, h.frozen 0, h.frozen 1⟩

theorem Blk.shape_ {w : World} {g : Nat} {t : TypeId} {cs : Array Value} (h : Blk w g t cs) : w.shape? g = some (t, cs.size) := by
  unfold Blk at h
  unfold World.shape?
  rw [h]
theorem info_bld : (Try.prog.info? 51).map (·.size) = some 2 := by kernel_rfl

set_option maxRecDepth 1000000 in
set_option maxHeartbeats 1600000 in
theorem check_any (b : Nat) (p v : Value) (hp : p = .pointer none ∨ p = .pointer (some ⟨b, 0, none⟩)) (w : World) (hB : Blk w b 51 #[p, v]) :
    Calls Try.prog 51 #[.pointer (some ⟨b, 0, none⟩)] w fun e w' => e = .returned (.tuple #[]) ∧ Blk w' b 51 #[.pointer (some ⟨b, 0, none⟩), v] ∧ Only (· = b) w w' := by
  obtain ⟨c0, c1, f0, f1⟩ := blk2 hB
  obtain ⟨j, hj, hjs⟩ := Option.map_eq_some_iff.1 info_bld
  rcases hp with rfl | rfl
  · have hB' := hB.set_ 0 (.pointer (some ⟨b, 0, none⟩))
    have ho := (Only.refl (· = b) w).setCell (p := ⟨b, 0, none⟩) (.inl rfl) (.pointer (some ⟨b, 0, none⟩))
    have hsh := hB.shape_
    have x1 := Lib.run_to_unsafe w ⟨b, 0, none⟩ Try.underlying49 Try.underlying66 hj (by rw [hjs]; decide) hsh (Nat.zero_lt_succ 1)
    have x2 := Lib.run_from_unsafe w ⟨b, 0, none⟩ Try.underlying66 Try.underlying49 hj hsh (by kernel_rfl)
    have x3 := @run_callFunc_extern Try.prog 55 _ Extern.AbiNoEscape.same Try.func55 (by kernel_rfl) (by kernel_rfl) (by kernel_rfl) (by kernel_rfl)
    have x4 := fun x => Lib.run_noEscape (P := Try.prog) (w := w) x
    clear hB hsh
    go_enter Try.func51, Try.ntmps51
    go_wp2
    go_end0
    exact ⟨rfl, by simpa using hB', ho⟩
  · have y := Lib.run_neq_ptr_same w ⟨b, 0, none⟩ Try.underlying49 hj
    go_enter Try.func51, Try.ntmps51
    go_wp2
    go_end0
    exact ⟨rfl, hB, Only.refl _ _⟩

/-- One byte more. -/
theorem Bld.more {w w' : World} {b base : Nat} {bs : List UInt8} {v' : Value} {c : UInt8} {x : Int} (hx : x = (c.toNat : Int)) (h : Bld w b base bs) (hs : w.heap.size ≤ w'.heap.size) (hB : Blk w' b 51 #[.pointer (some ⟨b, 0, none⟩), v'])
    (ho : w'.ownsRow base 5 1 v' (bs.length + 1) (bv bs ++ [.int .u8 x])) : Bld w' b base (bs ++ [c]) := by
  refine ⟨h.lt, Nat.le_trans h.le hs, _, v', .inr rfl, hB, ?_⟩
  subst hx
  rw [List.length_append, bv_append]
  exact ho

set_option maxRecDepth 1000000 in
set_option maxHeartbeats 1600000 in
theorem put_any (b base : Nat) (bs : List UInt8) (c : UInt8) (x : Int) (hx : x = (c.toNat : Int)) (hl : bs.length ≤ 1000000) (w : World) (h : Bld w b base bs) :
    Calls Try.prog 40 #[.pointer (some ⟨b, 0, none⟩), .int .u8 x] w fun e w' => e = .returned .nilIface ∧ Bld w' b base (bs ++ [c]) ∧ Only (fun k => k = b ∨ base ≤ k) w w' := by
  obtain ⟨i0, hi, hz0, hz1, hz2⟩ := info_parts info_u8
  have H := Lib.hid h
  have HX := Lib.hid hx
  clear hx
  obtain ⟨hlt, hle, p, v, hp, hB, hown⟩ := h
  go_enter Try.func40, Try.ntmps40
  go_wp2_with fail
  refine (check_any b p v hp w hB).mono ?_
  rintro e w1 ⟨rfl, hB1, ho1⟩
  have hown1 := own_only hown ho1 (fun k hk => by
    intro e
    have e' : k = b := e
    subst e'
    exact own_blk_ne hown hB (by decide) hk)
  obtain ⟨c0, c1, f0, f1⟩ := blk2 hB1
  have hsz1 := ho1.size
  have hBa := hB1.alloc (.cells #[.int .u8 x] 5)
  have hoa := ho1.alloc (.cells #[.int .u8 x] 5)
  have hp1 := hown1.alloc (.cells #[.int .u8 x] 5)
  have hrd := Reads.of_own (World.ownsRow_lit (e := 5) (size := 1) (base := 0) w1 #[.int .u8 x] 1 (Nat.zero_le _) (by unfold maxLen; omega) rfl)
  obtain ⟨A, cv, hv⟩ := own_shape hown1
  subst hv
  clear hB hown hp hown1
  go_wp2_with (at_builtin; refine wpList_append_any _ rfl (.tmp 11) (.tmp 13) 42 rfl base 5 i0 (.int .u8 0) 1 1 Try.underlying42 hi hz0 hz1 hz2 rfl (by decide) _ _ _ rfl hp1 _ (some _) 1 1 _ rfl hrd ?q1 ?q2 ?q3 ?q4 ?_)
  case q1 => first | rfl | (intro u hu; simp at hu; subst hu; rfl)
  case q2 => unfold maxLen; omega
  case q3 => omega
  case q4 => first | (simp; omega) | omega
  intro v' wg hown' hgrow hblk
  obtain ⟨A', c', hv⟩ := own_shape hown'
  subst hv
  have hog : Only (fun k => base ≤ k) (w1.alloc (.cells #[.int .u8 x] 5)) wg := (Only.refl _ _).grown hgrow (fun k hk => .inl (hp1.lt k hk).1)
  have hBg := hBa.only hog (by omega)
  obtain ⟨d0, d1, e0, e1⟩ := blk2 hBg
  have hBf := hBg.set_ 1 (.slice A' (bs.length + 1) c')
  have hos := (Only.refl (· = b) wg).setCell (p := ⟨b, 1, none⟩) (.inl rfl) (.slice A' (bs.length + 1) c')
  have hof : Only (fun k => k = b ∨ base ≤ k) w (wg.setCell ⟨b, 1, none⟩ (.slice A' (bs.length + 1) c')) := ((hoa.mono (fun i _ h => .inl h)).trans hog (fun i _ h => .inr h)).trans hos (fun i _ h => .inl h)
  have howf := own_only hown' hos (fun k hk e => by
    have := (hown'.lt k hk).1
    have e' : k = b := e
    omega)
  have hfin := H.out.more HX.out hof.size (by simpa using hBf) howf
  have Hfin := Lib.hid hfin
  clear c0 c1 f0 f1 hB1 hBa hp1 hrd hown' hgrow hblk hog hBg hBf hos howf hfin
  go_wp2_with fail
  go_ret
  exact ⟨rfl, Hfin.out, hof⟩
end Go.Proofs.Ytjenabcjikdnaaa
