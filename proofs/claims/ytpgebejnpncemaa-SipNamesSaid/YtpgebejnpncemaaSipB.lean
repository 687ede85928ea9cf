/-
  Package sip: a round, and the mixing of a block.
-/
import Derived.Test.YtpgebejnpncemaaSip
namespace Go.Proofs.Ytpgebejnpncemaa
open Go.RowKit
set_option linter.unusedVariables false

theorem laid_rot {w1 : World} {g o i : Nat} {t : TypeId} {pre post : List Value} {u : List Int} {x : Int} (hb1 : Blk w1 g t (lay pre u post)) (ho : pre.length = o) (hu : Ok u) (hi : i < 4) (x : Int) :
    Blk (w1.setCell ⟨g, o + i, none⟩ (.int .u64 x)) g t (lay pre (u.set i x) post) := by
  have h1 := hb1.set_ (o + i) (.int .u64 x)
  rw [lay_set ho hu hi] at h1
  exact h1

set_option maxRecDepth 1000000 in
set_option maxHeartbeats 1600000 in
theorem round_blk {w : World} {g o : Nat} {t : TypeId} {pre post : List Value} {v : List Int} (hbk : Blk w g t (lay pre v post)) (ho : pre.length = o) (hv : Ok v) :
    Calls Try.prog 46 #[.pointer (some ⟨g, o, none⟩)] w fun e w' => e = .returned (.tuple #[]) ∧ Blk w' g t (lay pre (rd v) post) ∧ Only (· = g) w w' := by
  go_enter Try.func46, Try.ntmps46
  go_wp2_with fail
  refine (half_blk (a := 0) (b := 1) 13 _ _ (fun y w h0 h1 => rot13 y w h0 h1) hbk ho hv (by omega) (by omega) (by omega)).mono ?_
  rintro e w1 ⟨rfl, hb1, ho1⟩
  have hv1 := hf_ok hv 0 1 (by omega) 8192 2251799813685248 (by omega)
  have c1 : w1.cell? ⟨g, o, none⟩ = some (.int .u64 ((hf v 0 1 8192 2251799813685248).getD 0 0)) := by
    have := (hb1.cell (o + 0)).trans (lay_get ho hv1 (by omega)); simpa using this
  have f1 : w1.frozen? ⟨g, o, none⟩ = false := hb1.frozen o
  have r1 := hv1.rg 0 (by omega)
  obtain ⟨x, hx⟩ : ∃ x, x = (hf v 0 1 8192 2251799813685248).getD 0 0 := ⟨_, rfl⟩
  rw [← hx] at c1 r1
  have Hx := Lib.hid hx
  clear hx
  obtain ⟨r1a, r1b⟩ := r1
  go_wp2_with fail
  go_region_with (go_at_call 51; refine (rot32 x _ r1a r1b).mono ?_; rintro e w5 ⟨rfl, rfl⟩)
  have hb2 : Blk (w1.setCell ⟨g, o, none⟩ (.int .u64 (rot x 4294967296 4294967296))) g t (lay pre (rd1 v) post) := by
    rw [Hx.out]; exact laid_rot (i := 0) (x := x) hb1 ho hv1 (by omega) _
  have ho2 : Only (· = g) w1 (w1.setCell ⟨g, o, none⟩ (.int .u64 (rot x 4294967296 4294967296))) := (Only.refl (· = g) _).setCell (p := ⟨g, o, none⟩) (.inl rfl) _
  have hv2 := rd1_ok hv
  generalize w1.setCell ⟨g, o, none⟩ (.int .u64 (rot x 4294967296 4294967296)) = w2 at *
  have hb2' := hb2.drew
  have ho2' := (ho1.trans ho2 (fun _ _ h => h)).drew
  clear hb1 hb2 ho1 ho2 c1 f1 r1a r1b hv1 Hx
  generalize w2.drew = w2 at *
  go_wp2_with fail
  refine (half_blk (a := 2) (b := 3) 16 65536 281474976710656 (fun y w h0 h1 => rot16 y w h0 h1) hb2' ho hv2 (by omega) (by omega) (by omega)).mono ?_
  rintro e w3 ⟨rfl, hb3, ho3⟩
  have hv3 := hf_ok hv2 2 3 (by omega) 65536 281474976710656 (by omega)
  have ho3' := ho2'.trans ho3 (fun _ _ h => h)
  clear hb2' ho2' ho3
  go_wp2_with fail
  refine (half_blk (a := 0) (b := 3) 21 2097152 8796093022208 (fun y w h0 h1 => rot21 y w h0 h1) hb3 ho hv3 (by omega) (by omega) (by omega)).mono ?_
  rintro e w4 ⟨rfl, hb4, ho4⟩
  have hv4 := hf_ok hv3 0 3 (by omega) 2097152 8796093022208 (by omega)
  have ho4' := ho3'.trans ho4 (fun _ _ h => h)
  clear hb3 ho3' ho4
  go_wp2_with fail
  refine (half_blk (a := 2) (b := 1) 17 131072 140737488355328 (fun y w h0 h1 => rot17 y w h0 h1) hb4 ho hv4 (by omega) (by omega) (by omega)).mono ?_
  rintro e w5 ⟨rfl, hb5, ho5⟩
  have hv5 := hf_ok hv4 2 1 (by omega) 131072 140737488355328 (by omega)
  have ho5' := ho4'.trans ho5 (fun _ _ h => h)
  clear hb4 ho4' ho5
  have c5 := (hb5.cell (o + 2)).trans (lay_get ho hv5 (by omega))
  have f5 := hb5.frozen (o + 2)
  have r5 := hv5.rg 2 (by omega)
  obtain ⟨u, hu⟩ : ∃ u, u = hf (hf (hf (rd1 v) 2 3 65536 281474976710656) 0 3 2097152 8796093022208) 2 1 131072 140737488355328 := ⟨_, rfl⟩
  rw [← hu] at c5 r5 hb5 hv5
  obtain ⟨y, hy⟩ : ∃ y, y = u.getD 2 0 := ⟨_, rfl⟩
  rw [← hy] at c5 r5
  have Hy := Lib.hid hy
  have Hu := Lib.hid hu
  clear hy hu
  obtain ⟨r5a, r5b⟩ := r5
  go_wp2_with fail
  go_region_with (go_at_call 51; refine (rot32 y _ r5a r5b).mono ?_; rintro e w7 ⟨rfl, rfl⟩)
  all_goals
    go_wp2
    go_end0
    refine ⟨rfl, ?_, (ho5'.setCell (p := ⟨g, o + 2, none⟩) (.inl rfl) _).drew⟩
    have h6 := laid_rot (i := 2) (x := y) hb5 ho hv5 (by omega) (rot y 4294967296 4294967296)
    rw [Hy.out, Hu.out] at h6
    rw [Hy.out, Hu.out]
    exact h6
end Go.Proofs.Ytpgebejnpncemaa
