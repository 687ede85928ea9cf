/-
  HeadWrites: the bytes of any header with any counts, its flags, and the header of any flags, are the reference's; for every header, any four counts, all flags.
-/
import Derived.Test.YtccdccclklidaaaDoorHeadL
import Derived.Test.YtccdccclklidaaaDoorHeadOpen
import Derived.Deep.Cut
namespace Go.Proofs.YtccdccclklidaaaDoor
open Go.RowKit
set_option linter.unusedVariables false
set_option linter.unusedSimpArgs false

set_option maxRecDepth 1000000 in
set_option maxHeartbeats 3200000 in
theorem writes_walk (id : Nat) (qr : Bool) (op : Nat) (aa tc rd ra z ad cd : Bool) (code : Nat) (c0 c1 c2 c3 : Int) (f : Nat) (hf : f < 65536) (w : World) (hb : BitsT w) (h0 : op < 256) (h : code < 256) (hid : id < 65536) :
    Calls Tryd.prog 12 #[.agg #[.int .u16 id, .bool qr, .int .u8 op, .bool aa, .bool tc, .bool rd, .bool ra, .bool z, .bool ad, .bool cd, .int .u8 code], .agg #[.int .i64 c0, .int .i64 c1, .int .i64 c2, .int .i64 c3], .int .u16 f] w fun e w' => e = .returned (.bool true) ∧ Still w w' := by
  have k1 := fun w hb => write_any id qr op aa tc rd ra z ad cd code c0 c1 c2 c3 w hb h0 h hid
  have k2 := fun w => rwrite_any id qr op aa tc rd ra z ad cd code c0 c1 c2 c3 w h0 h hid
  have k3 := fun w hb => flags_all (id : Int) qr op aa tc rd ra z ad cd code w hb h0 h
  have k4 := fun w => rflags_all (id : Int) qr op aa tc rd ra z ad cd code w h0 h
  generalize writeV id qr op aa tc rd ra z ad cd code [c0, c1, c2, c3] = V at *
  generalize flagsV qr op aa tc rd ra z ad cd code = F at *
  obtain ⟨t, er⟩ := V
  obtain ⟨n, fe⟩ := F
  have k1 : ∀ w, BitsT w → Calls Tryd.prog 32 #[.agg #[.int .u16 id, .bool qr, .int .u8 op, .bool aa, .bool tc, .bool rd, .bool ra, .bool z, .bool ad, .bool cd, .int .u8 code], .agg #[.int .i64 c0, .int .i64 c1, .int .i64 c2, .int .i64 c3]] w fun e w' => e = .returned (.tuple #[.string t, .int .i64 er]) ∧ Still w w' := k1
  have k2 : ∀ w, Calls Tryd.prog 36 #[.agg #[.int .u16 id, .bool qr, .int .u8 op, .bool aa, .bool tc, .bool rd, .bool ra, .bool z, .bool ad, .bool cd, .int .u8 code], .agg #[.int .i64 c0, .int .i64 c1, .int .i64 c2, .int .i64 c3]] w fun e w' => e = .returned (.tuple #[.string t, .int .i64 er]) ∧ Still w w' := k2
  have k3 : ∀ w, BitsT w → Calls Tryd.prog 31 #[.agg #[.int .u16 id, .bool qr, .int .u8 op, .bool aa, .bool tc, .bool rd, .bool ra, .bool z, .bool ad, .bool cd, .int .u8 code]] w fun e w' => e = .returned (.tuple #[.int .u16 n, .int .i64 fe]) ∧ Still w w' := k3
  have k4 : ∀ w, Calls Tryd.prog 37 #[.agg #[.int .u16 id, .bool qr, .int .u8 op, .bool aa, .bool tc, .bool rd, .bool ra, .bool z, .bool ad, .bool cd, .int .u8 code]] w fun e w' => e = .returned (.tuple #[.int .u16 n, .int .i64 fe]) ∧ Still w w' := k4
  have K1 := Lib.hid k1
  have K2 := Lib.hid k2
  have K3 := Lib.hid k3
  have K4 := Lib.hid k4
  clear k1 k2 k3 k4
  have hst := (Still.new w (.cells #[.int .u16 id, .bool qr, .int .u8 op, .bool aa, .bool tc, .bool rd, .bool ra, .bool z, .bool ad, .bool cd, .int .u8 code] 61)).alloc (.cells #[.int .i64 c0, .int .i64 c1, .int .i64 c2, .int .i64 c3] 66)
  have hB := (Blk.new w 61 #[.int .u16 id, .bool qr, .int .u8 op, .bool aa, .bool tc, .bool rd, .bool ra, .bool z, .bool ad, .bool cd, .int .u8 code]).alloc (.cells #[.int .i64 c0, .int .i64 c1, .int .i64 c2, .int .i64 c3] 66)
  have hC := Blk.at_ (w.alloc (.cells #[.int .u16 id, .bool qr, .int .u8 op, .bool aa, .bool tc, .bool rd, .bool ra, .bool z, .bool ad, .bool cd, .int .u8 code] 61)) 66 #[.int .i64 c0, .int .i64 c1, .int .i64 c2, .int .i64 c3] (g := w.heap.size + 1) (by simp)
  go_enter Tryd.func12, Tryd.ntmps12
  go_upto_region 1 with fail
  generalize (w.alloc (.cells #[.int .u16 id, .bool qr, .int .u8 op, .bool aa, .bool tc, .bool rd, .bool ra, .bool z, .bool ad, .bool cd, .int .u8 code] 61)).alloc (.cells #[.int .i64 c0, .int .i64 c1, .int .i64 c2, .int .i64 c3] 66) = w1 at *
  obtain ⟨g, hg⟩ : ∃ g, w.heap.size = g := ⟨_, rfl⟩
  rw [hg] at hB hC
  rw [hg]
  clear hg
  go_wp2_with (first | (refine wpList_load_row rfl 61 (.tmp 3) rfl g rfl 61 _ (0, 0) _ hB Tryd.underlying61 rfl (by kernel_rfl) ?_) | (refine wpList_load_row rfl 66 (.tmp 4) rfl (g + 1) rfl 66 _ (0, 0) _ hC Tryd.underlying66 rfl (by kernel_rfl) ?_))
  refine (K1.out _ (hb.still hst)).mono ?_
  rintro e w2 ⟨rfl, hs⟩
  have hst := hst.still hs
  have hB := hB.only hs (fun h => h)
  have hC := hC.only hs (fun h => h)
  clear hs
  go_wp2_with (first | (refine wpList_load_row rfl 61 (.tmp 3) rfl g rfl 61 _ (0, 0) _ hB Tryd.underlying61 rfl (by kernel_rfl) ?_) | (refine wpList_load_row rfl 66 (.tmp 4) rfl (g + 1) rfl 66 _ (0, 0) _ hC Tryd.underlying66 rfl (by kernel_rfl) ?_))
  refine (K2.out _).mono ?_
  rintro e w3 ⟨rfl, hs⟩
  have hst := hst.still hs
  have hB := hB.only hs (fun h => h)
  have hC := hC.only hs (fun h => h)
  clear hs
  go_wp2_with (first | (refine wpList_load_row rfl 61 (.tmp 3) rfl g rfl 61 _ (0, 0) _ hB Tryd.underlying61 rfl (by kernel_rfl) ?_) | (refine wpList_load_row rfl 66 (.tmp 4) rfl (g + 1) rfl 66 _ (0, 0) _ hC Tryd.underlying66 rfl (by kernel_rfl) ?_))
  refine (K3.out _ (hb.still hst)).mono ?_
  rintro e w4 ⟨rfl, hs⟩
  have hst := hst.still hs
  have hB := hB.only hs (fun h => h)
  have hC := hC.only hs (fun h => h)
  clear hs
  go_wp2_with (first | (refine wpList_load_row rfl 61 (.tmp 3) rfl g rfl 61 _ (0, 0) _ hB Tryd.underlying61 rfl (by kernel_rfl) ?_) | (refine wpList_load_row rfl 66 (.tmp 4) rfl (g + 1) rfl 66 _ (0, 0) _ hC Tryd.underlying66 rfl (by kernel_rfl) ?_))
  refine (K4.out _).mono ?_
  rintro e w5 ⟨rfl, hs⟩
  have hst := hst.still hs
  have hB := hB.only hs (fun h => h)
  have hC := hC.only hs (fun h => h)
  clear hs
  go_wp2_with fail
  refine (from_any f hf _ (hb.still hst)).mono ?_
  rintro e w6 ⟨rfl, hs⟩
  have hst := hst.still hs
  have hB := hB.only hs (fun h => h)
  have hC := hC.only hs (fun h => h)
  clear hs
  go_wp2_with fail
  refine (rfrom_any f hf _).mono ?_
  rintro e w7 ⟨rfl, hs⟩
  have hst := hst.still hs
  have hB := hB.only hs (fun h => h)
  have hC := hC.only hs (fun h => h)
  clear hs
  go_wp2_with fail
  refine (head_awake _ (hb.still hst)).mono ?_
  rintro e w8 ⟨rfl, hs⟩
  go_wp2_with fail
  go_ret
  exact ⟨rfl, hst.still hs⟩
theorem writes_all (w : World) (a0 : Int) (a1 : Bool) (a2 : Int) (a3 a4 a5 a6 a7 a8 a9 : Bool) (a10 : Int) (w0 : (Lit.int .u16 a0).wf = true) (w2 : (Lit.int .u8 a2).wf = true) (w10 : (Lit.int .u8 a10).wf = true) (c0 c1 c2 c3 : Int) (v0 : (Lit.int .i64 c0).wf = true) (v1 : (Lit.int .i64 c1).wf = true) (v2 : (Lit.int .i64 c2).wf = true) (v3 : (Lit.int .i64 c3).wf = true) (f : Int) (wf : (Lit.int .u16 f).wf = true) (hb : BitsT w) :
    Calls Tryd.prog 12 #[.agg #[.int .u16 a0, .bool a1, .int .u8 a2, .bool a3, .bool a4, .bool a5, .bool a6, .bool a7, .bool a8, .bool a9, .int .u8 a10], .agg #[.int .i64 c0, .int .i64 c1, .int .i64 c2, .int .i64 c3], .int .u16 f] w fun e w' => e = .returned (.bool true) ∧ Still w w' := by
  have b0 := wf_u16 w0
  have b2 := wf_u8 w2
  have b10 := wf_u8 w10
  have bf := wf_u16 wf
  obtain ⟨i, rfl⟩ : ∃ n : Nat, a0 = (n : Int) := ⟨a0.toNat, by omega⟩
  obtain ⟨o, rfl⟩ : ∃ n : Nat, a2 = (n : Int) := ⟨a2.toNat, by omega⟩
  obtain ⟨c, rfl⟩ : ∃ n : Nat, a10 = (n : Int) := ⟨a10.toNat, by omega⟩
  obtain ⟨f, rfl⟩ : ∃ n : Nat, f = (n : Int) := ⟨f.toNat, by omega⟩
  exact writes_walk i a1 o a3 a4 a5 a6 a7 a8 a9 c c0 c1 c2 c3 f (by omega) w hb (by omega) (by omega) (by omega)
end Go.Proofs.YtccdccclklidaaaDoor
