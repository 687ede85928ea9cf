/-
  HeadNames: the examples; each part alone; counts at their ends; what is refused.
-/
import Derived.Test.YtkoejogmcoigoaaDoorHeadBackM
import Derived.Test.YtkoejogmcoigoaaDoorHeadL
import Derived.Test.YtkoejogmcoigoaaDoorTake
import Derived.Laws.BytesArg
import Derived.Laws.BitsAllLaws
import Derived.Test.YtkoejogmcoigoaaDoorCurStr
namespace Go.Proofs.YtkoejogmcoigoaaDoor
open Go.RowKit
set_option linter.unusedVariables false
set_option linter.unusedSimpArgs false

theorem cvN (w : World) (N : Nat) (sv : ByteArray) (hs : sv = str (beB 2 0 ++ beB 2 N ++ [0, 0, 255, 255, 1, 0, 0, 1])) : (convert 37 9 (.slice (some ⟨w.heap.size, 0, none⟩) 12 12)).run Tryd.prog (w.alloc (.cells #[.int .u8 0, .int .u8 0, .int .u8 (IntKind.u8.wrap ((N : Int) / 256)), .int .u8 (IntKind.u8.wrap (N : Int)), .int .u8 0, .int .u8 0, .int .u8 255, .int .u8 255, .int .u8 1, .int .u8 0, .int .u8 0, .int .u8 1] 5)) = .ok (.string sv) (w.alloc (.cells #[.int .u8 0, .int .u8 0, .int .u8 (IntKind.u8.wrap ((N : Int) / 256)), .int .u8 (IntKind.u8.wrap (N : Int)), .int .u8 0, .int .u8 0, .int .u8 255, .int .u8 255, .int .u8 1, .int .u8 0, .int .u8 0, .int .u8 1] 5)) := by
  have h := run_convert_bytes_arg (P := Tryd.prog) (w.alloc (.cells #[.int .u8 0, .int .u8 0, .int .u8 (IntKind.u8.wrap ((N : Int) / 256)), .int .u8 (IntKind.u8.wrap (N : Int)), .int .u8 0, .int .u8 0, .int .u8 255, .int .u8 255, .int .u8 1, .int .u8 0, .int .u8 0, .int .u8 1] 5)) 37 5 Tryd.underlying37 Tryd.underlying5 w.heap.size 0 12 12 [0, 0, IntKind.u8.wrap ((N : Int) / 256), IntKind.u8.wrap (N : Int), 0, 0, 255, 255, 1, 0, 0, 1] rfl (fun i hi => by
    rw [Nat.zero_add, (Blk.new w 5 #[.int .u8 0, .int .u8 0, .int .u8 (IntKind.u8.wrap ((N : Int) / 256)), .int .u8 (IntKind.u8.wrap (N : Int)), .int .u8 0, .int .u8 0, .int .u8 255, .int .u8 255, .int .u8 1, .int .u8 0, .int .u8 0, .int .u8 1]).cell i]
    match i, hi with
    | 0, _ => rfl
    | 1, _ => rfl
    | 2, _ => rfl
    | 3, _ => rfl
    | 4, _ => rfl
    | 5, _ => rfl
    | 6, _ => rfl
    | 7, _ => rfl
    | 8, _ => rfl
    | 9, _ => rfl
    | 10, _ => rfl
    | 11, _ => rfl
    | n + 12, h => omega) 9 Tryd.underlying9
  have e : ([0, 0, IntKind.u8.wrap ((N : Int) / 256), IntKind.u8.wrap (N : Int), 0, 0, 255, 255, 1, 0, 0, 1] : List Int) = (beB 2 0 ++ beB 2 N ++ [0, 0, 255, 255, 1, 0, 0, 1]).map (fun (b : UInt8) => (b.toNat : Int)) := by
    have e1 : IntKind.u8.wrap ((N : Int) / 256) = ((UInt8.ofNat (N / 256)).toNat : Int) := by
      rw [IntKind.wrap_u8', UInt8.toNat_ofNat']
      omega
    have e2 : IntKind.u8.wrap (N : Int) = ((UInt8.ofNat N).toNat : Int) := by
      rw [IntKind.wrap_u8', UInt8.toNat_ofNat']
      omega
    rw [e1, e2]
    simp [beB]
  rw [e, strOfNums_bytes, ← hs] at h
  exact h
theorem xf_op (w : World) (hb : BitsT w) : Calls Tryd.prog 10 #[.agg #[.int .u16 0, .bool false, .int .u8 16, .bool false, .bool false, .bool false, .bool false, .bool false, .bool false, .bool false, .int .u8 0]] w fun e w' => e = .returned (.tuple #[.int .u16 0, .int .i64 1]) ∧ Still w w' := by
  have h := flags_all 0 false 16 false false false false false false false 0 w hb (by decide) (by decide)
  rw [show flagsV false 16 false false false false false false false 0 = (0, 1) by kernel_rfl] at h
  exact h
theorem xf_code (w : World) (hb : BitsT w) : Calls Tryd.prog 10 #[.agg #[.int .u16 0, .bool false, .int .u8 0, .bool false, .bool false, .bool false, .bool false, .bool false, .bool false, .bool false, .int .u8 16]] w fun e w' => e = .returned (.tuple #[.int .u16 0, .int .i64 1]) ∧ Still w w' := by
  have h := flags_all 0 false 0 false false false false false false false 16 w hb (by decide) (by decide)
  rw [show flagsV false 0 false false false false false false false 16 = (0, 1) by kernel_rfl] at h
  exact h
theorem xw_code (w : World) (hb : BitsT w) : Calls Tryd.prog 11 #[.agg #[.int .u16 0, .bool false, .int .u8 0, .bool false, .bool false, .bool false, .bool false, .bool false, .bool false, .bool false, .int .u8 255], .agg #[.int .i64 0, .int .i64 0, .int .i64 0, .int .i64 0]] w fun e w' => e = .returned (.tuple #[.string ⟨#[]⟩, .int .i64 1]) ∧ Still w w' := by
  have h := write_any 0 false 0 false false false false false false false 255 0 0 0 0 w hb (by decide) (by decide) (by decide)
  rw [show writeV 0 false 0 false false false false false false false 255 [0, 0, 0, 0] = (⟨#[]⟩, 1) by kernel_rfl] at h
  exact h
theorem xw_big (w : World) (hb : BitsT w) : Calls Tryd.prog 11 #[.agg #[.int .u16 0, .bool false, .int .u8 0, .bool false, .bool false, .bool false, .bool false, .bool false, .bool false, .bool false, .int .u8 0], .agg #[.int .i64 0, .int .i64 0, .int .i64 0, .int .i64 65536]] w fun e w' => e = .returned (.tuple #[.string ⟨#[]⟩, .int .i64 1]) ∧ Still w w' := by
  have h := write_any 0 false 0 false false false false false false false 0 0 0 0 65536 w hb (by decide) (by decide) (by decide)
  rw [show writeV 0 false 0 false false false false false false false 0 [0, 0, 0, 65536] = (⟨#[]⟩, 1) by kernel_rfl] at h
  exact h
theorem xw_neg (w : World) (hb : BitsT w) : Calls Tryd.prog 11 #[.agg #[.int .u16 0, .bool false, .int .u8 0, .bool false, .bool false, .bool false, .bool false, .bool false, .bool false, .bool false, .int .u8 0], .agg #[.int .i64 (-1), .int .i64 0, .int .i64 0, .int .i64 0]] w fun e w' => e = .returned (.tuple #[.string ⟨#[]⟩, .int .i64 1]) ∧ Still w w' := by
  have h := write_any 0 false 0 false false false false false false false 0 (-1) 0 0 0 w hb (by decide) (by decide) (by decide)
  rw [show writeV 0 false 0 false false false false false false false 0 [(-1), 0, 0, 0] = (⟨#[]⟩, 1) by kernel_rfl] at h
  exact h
def tab : Array Value := #[.int .u16 0, .bool true, .int .u8 0, .bool false, .bool false, .bool false, .bool false, .bool false, .bool false, .bool false, .int .u8 0, .int .u16 32768, .int .u16 0, .bool false, .int .u8 15, .bool false, .bool false, .bool false, .bool false, .bool false, .bool false, .bool false, .int .u8 0, .int .u16 30720, .int .u16 0, .bool false, .int .u8 1, .bool false, .bool false, .bool false, .bool false, .bool false, .bool false, .bool false, .int .u8 0, .int .u16 2048, .int .u16 0, .bool false, .int .u8 0, .bool true, .bool false, .bool false, .bool false, .bool false, .bool false, .bool false, .int .u8 0, .int .u16 1024, .int .u16 0, .bool false, .int .u8 0, .bool false, .bool true, .bool false, .bool false, .bool false, .bool false, .bool false, .int .u8 0, .int .u16 512, .int .u16 0, .bool false, .int .u8 0, .bool false, .bool false, .bool true, .bool false, .bool false, .bool false, .bool false, .int .u8 0, .int .u16 256, .int .u16 0, .bool false, .int .u8 0, .bool false, .bool false, .bool false, .bool true, .bool false, .bool false, .bool false, .int .u8 0, .int .u16 128, .int .u16 0, .bool false, .int .u8 0, .bool false, .bool false, .bool false, .bool false, .bool true, .bool false, .bool false, .int .u8 0, .int .u16 64, .int .u16 0, .bool false, .int .u8 0, .bool false, .bool false, .bool false, .bool false, .bool false, .bool true, .bool false, .int .u8 0, .int .u16 32, .int .u16 0, .bool false, .int .u8 0, .bool false, .bool false, .bool false, .bool false, .bool false, .bool false, .bool true, .int .u8 0, .int .u16 16, .int .u16 0, .bool false, .int .u8 0, .bool false, .bool false, .bool false, .bool false, .bool false, .bool false, .bool false, .int .u8 15, .int .u16 15, .int .u16 0, .bool false, .int .u8 0, .bool false, .bool false, .bool false, .bool false, .bool false, .bool false, .bool false, .int .u8 0, .int .u16 0]
set_option maxRecDepth 1000000 in
theorem row_at : ∀ k, k < 12 → ∃ (qr : Bool) (op : Nat) (aa tc rd ra z ad cd : Bool) (code N : Nat), op ≤ 15 ∧ code ≤ 15 ∧ flagsN qr op aa tc rd ra z ad cd code = N ∧ tab[k * 12]? = some (.int .u16 0) ∧ tab[k * 12 + 1]? = some (.bool qr) ∧ tab[k * 12 + 2]? = some (.int .u8 op) ∧ tab[k * 12 + 3]? = some (.bool aa) ∧ tab[k * 12 + 4]? = some (.bool tc) ∧ tab[k * 12 + 5]? = some (.bool rd) ∧ tab[k * 12 + 6]? = some (.bool ra) ∧ tab[k * 12 + 7]? = some (.bool z) ∧ tab[k * 12 + 8]? = some (.bool ad) ∧ tab[k * 12 + 9]? = some (.bool cd) ∧ tab[k * 12 + 10]? = some (.int .u8 code) ∧ tab[k * 12 + 11]? = some (.int .u16 N)
  | 0, _ => ⟨true, 0, false, false, false, false, false, false, false, 0, 32768, by decide, by decide, by kernel_rfl, rfl, rfl, rfl, rfl, rfl, rfl, rfl, rfl, rfl, rfl, rfl, rfl⟩
  | 1, _ => ⟨false, 15, false, false, false, false, false, false, false, 0, 30720, by decide, by decide, by kernel_rfl, rfl, rfl, rfl, rfl, rfl, rfl, rfl, rfl, rfl, rfl, rfl, rfl⟩
  | 2, _ => ⟨false, 1, false, false, false, false, false, false, false, 0, 2048, by decide, by decide, by kernel_rfl, rfl, rfl, rfl, rfl, rfl, rfl, rfl, rfl, rfl, rfl, rfl, rfl⟩
  | 3, _ => ⟨false, 0, true, false, false, false, false, false, false, 0, 1024, by decide, by decide, by kernel_rfl, rfl, rfl, rfl, rfl, rfl, rfl, rfl, rfl, rfl, rfl, rfl, rfl⟩
  | 4, _ => ⟨false, 0, false, true, false, false, false, false, false, 0, 512, by decide, by decide, by kernel_rfl, rfl, rfl, rfl, rfl, rfl, rfl, rfl, rfl, rfl, rfl, rfl, rfl⟩
  | 5, _ => ⟨false, 0, false, false, true, false, false, false, false, 0, 256, by decide, by decide, by kernel_rfl, rfl, rfl, rfl, rfl, rfl, rfl, rfl, rfl, rfl, rfl, rfl, rfl⟩
  | 6, _ => ⟨false, 0, false, false, false, true, false, false, false, 0, 128, by decide, by decide, by kernel_rfl, rfl, rfl, rfl, rfl, rfl, rfl, rfl, rfl, rfl, rfl, rfl, rfl⟩
  | 7, _ => ⟨false, 0, false, false, false, false, true, false, false, 0, 64, by decide, by decide, by kernel_rfl, rfl, rfl, rfl, rfl, rfl, rfl, rfl, rfl, rfl, rfl, rfl, rfl⟩
  | 8, _ => ⟨false, 0, false, false, false, false, false, true, false, 0, 32, by decide, by decide, by kernel_rfl, rfl, rfl, rfl, rfl, rfl, rfl, rfl, rfl, rfl, rfl, rfl, rfl⟩
  | 9, _ => ⟨false, 0, false, false, false, false, false, false, true, 0, 16, by decide, by decide, by kernel_rfl, rfl, rfl, rfl, rfl, rfl, rfl, rfl, rfl, rfl, rfl, rfl, rfl⟩
  | 10, _ => ⟨false, 0, false, false, false, false, false, false, false, 15, 15, by decide, by decide, by kernel_rfl, rfl, rfl, rfl, rfl, rfl, rfl, rfl, rfl, rfl, rfl, rfl, rfl⟩
  | 11, _ => ⟨false, 0, false, false, false, false, false, false, false, 0, 0, by decide, by decide, by kernel_rfl, rfl, rfl, rfl, rfl, rfl, rfl, rfl, rfl, rfl, rfl, rfl, rfl⟩
  | n + 12, h => by omega

set_option maxRecDepth 1000000 in
set_option maxHeartbeats 200000000 in
theorem headnames_walk (w : World) (hb : BitsT w) : Calls Tryd.prog 3 #[] w fun e w' => e = .returned (.bool true) ∧ Still w w' := by
  go_enter Tryd.func3, Tryd.ntmps3
  go_wp2_with fail
  refine (head_awake w hb).mono ?_
  rintro e w1 ⟨rfl, hs1⟩
  go_wp2_with fail
  have hT : Blk _ _ 26 tab := Blk.new w1 26 #[.int .u16 0, .bool true, .int .u8 0, .bool false, .bool false, .bool false, .bool false, .bool false, .bool false, .bool false, .int .u8 0, .int .u16 32768, .int .u16 0, .bool false, .int .u8 15, .bool false, .bool false, .bool false, .bool false, .bool false, .bool false, .bool false, .int .u8 0, .int .u16 30720, .int .u16 0, .bool false, .int .u8 1, .bool false, .bool false, .bool false, .bool false, .bool false, .bool false, .bool false, .int .u8 0, .int .u16 2048, .int .u16 0, .bool false, .int .u8 0, .bool true, .bool false, .bool false, .bool false, .bool false, .bool false, .bool false, .int .u8 0, .int .u16 1024, .int .u16 0, .bool false, .int .u8 0, .bool false, .bool true, .bool false, .bool false, .bool false, .bool false, .bool false, .int .u8 0, .int .u16 512, .int .u16 0, .bool false, .int .u8 0, .bool false, .bool false, .bool true, .bool false, .bool false, .bool false, .bool false, .int .u8 0, .int .u16 256, .int .u16 0, .bool false, .int .u8 0, .bool false, .bool false, .bool false, .bool true, .bool false, .bool false, .bool false, .int .u8 0, .int .u16 128, .int .u16 0, .bool false, .int .u8 0, .bool false, .bool false, .bool false, .bool false, .bool true, .bool false, .bool false, .int .u8 0, .int .u16 64, .int .u16 0, .bool false, .int .u8 0, .bool false, .bool false, .bool false, .bool false, .bool false, .bool true, .bool false, .int .u8 0, .int .u16 32, .int .u16 0, .bool false, .int .u8 0, .bool false, .bool false, .bool false, .bool false, .bool false, .bool false, .bool true, .int .u8 0, .int .u16 16, .int .u16 0, .bool false, .int .u8 0, .bool false, .bool false, .bool false, .bool false, .bool false, .bool false, .bool false, .int .u8 15, .int .u16 15, .int .u16 0, .bool false, .int .u8 0, .bool false, .bool false, .bool false, .bool false, .bool false, .bool false, .bool false, .int .u8 0, .int .u16 0]
  have hs2 := hs1.alloc (.cells #[.int .u16 0, .bool true, .int .u8 0, .bool false, .bool false, .bool false, .bool false, .bool false, .bool false, .bool false, .int .u8 0, .int .u16 32768, .int .u16 0, .bool false, .int .u8 15, .bool false, .bool false, .bool false, .bool false, .bool false, .bool false, .bool false, .int .u8 0, .int .u16 30720, .int .u16 0, .bool false, .int .u8 1, .bool false, .bool false, .bool false, .bool false, .bool false, .bool false, .bool false, .int .u8 0, .int .u16 2048, .int .u16 0, .bool false, .int .u8 0, .bool true, .bool false, .bool false, .bool false, .bool false, .bool false, .bool false, .int .u8 0, .int .u16 1024, .int .u16 0, .bool false, .int .u8 0, .bool false, .bool true, .bool false, .bool false, .bool false, .bool false, .bool false, .int .u8 0, .int .u16 512, .int .u16 0, .bool false, .int .u8 0, .bool false, .bool false, .bool true, .bool false, .bool false, .bool false, .bool false, .int .u8 0, .int .u16 256, .int .u16 0, .bool false, .int .u8 0, .bool false, .bool false, .bool false, .bool true, .bool false, .bool false, .bool false, .int .u8 0, .int .u16 128, .int .u16 0, .bool false, .int .u8 0, .bool false, .bool false, .bool false, .bool false, .bool true, .bool false, .bool false, .int .u8 0, .int .u16 64, .int .u16 0, .bool false, .int .u8 0, .bool false, .bool false, .bool false, .bool false, .bool false, .bool true, .bool false, .int .u8 0, .int .u16 32, .int .u16 0, .bool false, .int .u8 0, .bool false, .bool false, .bool false, .bool false, .bool false, .bool false, .bool true, .int .u8 0, .int .u16 16, .int .u16 0, .bool false, .int .u8 0, .bool false, .bool false, .bool false, .bool false, .bool false, .bool false, .bool false, .int .u8 15, .int .u16 15, .int .u16 0, .bool false, .int .u8 0, .bool false, .bool false, .bool false, .bool false, .bool false, .bool false, .bool false, .int .u8 0, .int .u16 0] 26)
  generalize w1.alloc (.cells #[.int .u16 0, .bool true, .int .u8 0, .bool false, .bool false, .bool false, .bool false, .bool false, .bool false, .bool false, .int .u8 0, .int .u16 32768, .int .u16 0, .bool false, .int .u8 15, .bool false, .bool false, .bool false, .bool false, .bool false, .bool false, .bool false, .int .u8 0, .int .u16 30720, .int .u16 0, .bool false, .int .u8 1, .bool false, .bool false, .bool false, .bool false, .bool false, .bool false, .bool false, .int .u8 0, .int .u16 2048, .int .u16 0, .bool false, .int .u8 0, .bool true, .bool false, .bool false, .bool false, .bool false, .bool false, .bool false, .int .u8 0, .int .u16 1024, .int .u16 0, .bool false, .int .u8 0, .bool false, .bool true, .bool false, .bool false, .bool false, .bool false, .bool false, .int .u8 0, .int .u16 512, .int .u16 0, .bool false, .int .u8 0, .bool false, .bool false, .bool true, .bool false, .bool false, .bool false, .bool false, .int .u8 0, .int .u16 256, .int .u16 0, .bool false, .int .u8 0, .bool false, .bool false, .bool false, .bool true, .bool false, .bool false, .bool false, .int .u8 0, .int .u16 128, .int .u16 0, .bool false, .int .u8 0, .bool false, .bool false, .bool false, .bool false, .bool true, .bool false, .bool false, .int .u8 0, .int .u16 64, .int .u16 0, .bool false, .int .u8 0, .bool false, .bool false, .bool false, .bool false, .bool false, .bool true, .bool false, .int .u8 0, .int .u16 32, .int .u16 0, .bool false, .int .u8 0, .bool false, .bool false, .bool false, .bool false, .bool false, .bool false, .bool true, .int .u8 0, .int .u16 16, .int .u16 0, .bool false, .int .u8 0, .bool false, .bool false, .bool false, .bool false, .bool false, .bool false, .bool false, .int .u8 15, .int .u16 15, .int .u16 0, .bool false, .int .u8 0, .bool false, .bool false, .bool false, .bool false, .bool false, .bool false, .bool false, .int .u8 0, .int .u16 0] 26) = w2 at *
  generalize w1.heap.size = τ at *
  have hb2 := hb.still hs2
  go_loopw [48] (fun i wr => ∃ k : Nat, k ≤ 12 ∧ i = .int .i64 k ∧ Hid (Still w2 wr)) (fun i _ => 12 - (intOf i).toNat)
  case atStart => exact ⟨0, by omega, rfl, Lib.hid (Only.refl _ _)⟩
  case round =>
    rename_i wr
    obtain ⟨k, hk, rfl, hst⟩ := hrel
    by_cases hlt : k < 12
    · have hB := hT.only hst.out (fun h => h)
      obtain ⟨qr, op, aa, tc, rd, ra, z, ad, cd, code, N, hop, hcode, hN, t0, t1, t2, t3, t4, t5, t6, t7, t8, t9, t10, t11⟩ := row_at k hlt
      have x0 := (hB.cell (k * 12)).trans t0
      have x1 := (hB.cell (k * 12 + 1)).trans t1
      have x2 := (hB.cell (k * 12 + 2)).trans t2
      have x3 := (hB.cell (k * 12 + 3)).trans t3
      have x4 := (hB.cell (k * 12 + 4)).trans t4
      have x5 := (hB.cell (k * 12 + 5)).trans t5
      have x6 := (hB.cell (k * 12 + 6)).trans t6
      have x7 := (hB.cell (k * 12 + 7)).trans t7
      have x8 := (hB.cell (k * 12 + 8)).trans t8
      have x9 := (hB.cell (k * 12 + 9)).trans t9
      have x10 := (hB.cell (k * 12 + 10)).trans t10
      have x11 := (hB.cell (k * 12 + 11)).trans t11
      clear t0 t1 t2 t3 t4 t5 t6 t7 t8 t9 t10 t11
      have hN6 := (back_bits qr op aa tc rd ra z ad cd code N hop hcode hN).1
      have hfl := fun w hb => flags_ok 0 qr op aa tc rd ra z ad cd code w hb hop hcode
      have hwr := fun w hb => write_any 0 qr op aa tc rd ra z ad cd code 0 65535 256 1 w hb (by omega) (by omega) (by decide)
      have hfr := fun w hb => from_back 0 qr op aa tc rd ra z ad cd code N hop hcode hN w hb
      have hwv := writeV_ok 0 qr op aa tc rd ra z ad cd code [0, 65535, 256, 1] hop hcode (by decide)
      rw [hN] at hfl hwv
      rw [hwv] at hwr
      have hcb : cntB [0, 65535, 256, 1] 4 = [0, 0, 255, 255, 1, 0, 0, 1] := by kernel_rfl
      rw [hcb] at hwr
      obtain ⟨sv, hsv⟩ : ∃ sv, sv = str (beB 2 0 ++ beB 2 N ++ [0, 0, 255, 255, 1, 0, 0, 1]) := ⟨_, rfl⟩
      rw [← hsv] at hwr
      have Hfl := Lib.hid hfl
      have Hwr := Lib.hid hwr
      have Hfr := Lib.hid hfr
      have Hsv := Lib.hid hsv
      clear hfl hwr hfr hwv hcb hsv
      have hD0 := Blk.new wr 26 #[.int .u16 0, .bool qr, .int .u8 op, .bool aa, .bool tc, .bool rd, .bool ra, .bool z, .bool ad, .bool cd, .int .u8 code, .int .u16 N]
      have hs0 := Still.new wr (.cells #[.int .u16 0, .bool qr, .int .u8 op, .bool aa, .bool tc, .bool rd, .bool ra, .bool z, .bool ad, .bool cd, .int .u8 code, .int .u16 N] 26)
      have hb0 := (hb2.still hst.out).still hs0
      go_wp2_with fail
      refine (Hfl.out _ hb0).mono ?_
      rintro e w5 ⟨rfl, hs5⟩
      have hD5 := hD0.only hs5 (fun h => h)
      have hb5 := hb0.still hs5
      have hs5 := (hst.out.still hs0).still hs5
      clear hD0 hs0 hb0 x0 x1 x2 x3 x4 x5 x6 x7 x8 x9 x10 x11 hB
      have y0 := hD5.cell 0
      have y1 := hD5.cell 1
      have y2 := hD5.cell 2
      have y3 := hD5.cell 3
      have y4 := hD5.cell 4
      have y5 := hD5.cell 5
      have y6 := hD5.cell 6
      have y7 := hD5.cell 7
      have y8 := hD5.cell 8
      have y9 := hD5.cell 9
      have y10 := hD5.cell 10
      simp at y0 y1 y2 y3 y4 y5 y6 y7 y8 y9 y10
      go_wp2_with fail
      refine (Hwr.out _ hb5).mono ?_
      rintro e w6 ⟨rfl, hs6⟩
      have hD6 := hD5.only hs6 (fun h => h)
      have hb6 := hb5.still hs6
      have hs6 := hs5.still hs6
      clear hD5 hs5 hb5 y0 y1 y2 y3 y4 y5 y6 y7 y8 y9 y10 hst
      have f0 := hD6.cell 0
      have f1 := hD6.cell 1
      have f2 := hD6.cell 2
      have f3 := hD6.cell 3
      have f4 := hD6.cell 4
      have f5 := hD6.cell 5
      have f6 := hD6.cell 6
      have f7 := hD6.cell 7
      have f8 := hD6.cell 8
      have f9 := hD6.cell 9
      have f10 := hD6.cell 10
      have f11 := hD6.cell 11
      simp at f0 f1 f2 f3 f4 f5 f6 f7 f8 f9 f10 f11
      go_wp2_with fail
      refine wp_region_held_drew (S := fun w' => Still w6 w') (by kernel_rfl) (Only.refl (fun _ => False) w6).drew (fun hS => ?_)
      (refine take_p (i := 0) (v := ?_) rfl (by kernel_rfl) (by kernel_rfl) (by kernel_rfl) (fun _ _ _ h => h) (Or.inl ⟨by rfl, ?_⟩) hS ?_; rotate_left; (focus (intro w0 hSw; go_simp; try with_reducible rfl)); try simp only [Act.put, List.setIfInBounds_toArray, List.set_cons_zero, List.set_cons_succ])
      (refine take_p (i := 1) (v := ?_) rfl (by kernel_rfl) (by kernel_rfl) (by kernel_rfl) (fun _ _ _ h => h) (Or.inl ⟨by rfl, ?_⟩) hS ?_; rotate_left; (focus (intro w0 hSw; go_simp; try with_reducible rfl)); try simp only [Act.put, List.setIfInBounds_toArray, List.set_cons_zero, List.set_cons_succ])
      (refine take_p (i := 2) (v := ?_) rfl (by kernel_rfl) (by kernel_rfl) (by kernel_rfl) (fun _ _ _ h => h) (Or.inl ⟨by rfl, ?_⟩) hS ?_; rotate_left; (focus (intro w0 hSw; have s11_ := hSw.cell_some (fun h => h) f11; go_simp; try with_reducible rfl)); try simp only [Act.put, List.setIfInBounds_toArray, List.set_cons_zero, List.set_cons_succ])
      (refine take_p (i := 3) (v := ?_) rfl (by kernel_rfl) (by kernel_rfl) (by kernel_rfl) (fun _ _ _ h => h) (Or.inl ⟨by rfl, ?_⟩) hS ?_; rotate_left; (focus (intro w0 hSw; go_simp; try with_reducible rfl)); try simp only [Act.put, List.setIfInBounds_toArray, List.set_cons_zero, List.set_cons_succ])
      (refine take_p (i := 4) (v := ?_) rfl (by kernel_rfl) (by kernel_rfl) (by kernel_rfl) (fun _ _ _ h => h) (Or.inl ⟨by rfl, ?_⟩) hS ?_; rotate_left; (focus (intro w0 hSw; go_simp; try with_reducible rfl)); try simp only [Act.put, List.setIfInBounds_toArray, List.set_cons_zero, List.set_cons_succ])
      (refine take_p (i := 5) (v := ?_) rfl (by kernel_rfl) (by kernel_rfl) (by kernel_rfl) (fun _ _ _ h => h) (Or.inl ⟨by rfl, ?_⟩) hS ?_; rotate_left; (focus (intro w0 hSw; go_simp; try with_reducible rfl)); try simp only [Act.put, List.setIfInBounds_toArray, List.set_cons_zero, List.set_cons_succ])
      (refine take_p (i := 6) (v := ?_) rfl (by kernel_rfl) (by kernel_rfl) (by kernel_rfl) (fun _ _ _ h => h) (Or.inl ⟨by rfl, ?_⟩) hS ?_; rotate_left; (focus (intro w0 hSw; go_simp; try with_reducible rfl)); try simp only [Act.put, List.setIfInBounds_toArray, List.set_cons_zero, List.set_cons_succ])
      (refine take_p (i := 7) (v := ?_) rfl (by kernel_rfl) (by kernel_rfl) (by kernel_rfl) (fun _ _ _ h => h) (Or.inl ⟨by rfl, ?_⟩) hS ?_; rotate_left; (focus (intro w0 hSw; go_simp; try with_reducible rfl)); try simp only [Act.put, List.setIfInBounds_toArray, List.set_cons_zero, List.set_cons_succ])
      (refine take_p (i := 8) (v := ?_) rfl (by kernel_rfl) (by kernel_rfl) (by kernel_rfl) (fun _ _ _ h => h) (Or.inl ⟨by rfl, ?_⟩) hS ?_; rotate_left; (focus (intro w0 hSw; go_simp; try with_reducible rfl)); try simp only [Act.put, List.setIfInBounds_toArray, List.set_cons_zero, List.set_cons_succ])
      (refine take_p (i := 9) (v := ?_) rfl (by kernel_rfl) (by kernel_rfl) (by kernel_rfl) (fun _ _ _ h => h) (Or.inl ⟨by rfl, ?_⟩) hS ?_; rotate_left; (focus (intro w0 hSw; go_simp; try with_reducible rfl)); try simp only [Act.put, List.setIfInBounds_toArray, List.set_cons_zero, List.set_cons_succ])
      (refine take_p (i := 10) (v := ?_) rfl (by kernel_rfl) (by kernel_rfl) (by kernel_rfl) (fun _ _ _ h => h) (Or.inl ⟨by rfl, ?_⟩) hS ?_; rotate_left; (focus (intro w0 hSw; have s11_ := hSw.cell_some (fun h => h) f11; go_simp; try with_reducible rfl)); try simp only [Act.put, List.setIfInBounds_toArray, List.set_cons_zero, List.set_cons_succ])
      (refine take_p (i := 12) (v := ?_) rfl (by kernel_rfl) (by kernel_rfl) (by kernel_rfl) (fun _ _ _ h => h) (Or.inl ⟨by rfl, ?_⟩) hS ?_; rotate_left; (focus (intro w0 hSw; go_simp; try with_reducible rfl)); try simp only [Act.put, List.setIfInBounds_toArray, List.set_cons_zero, List.set_cons_succ])
      (refine take_p (i := 13) (v := ?_) rfl (by kernel_rfl) (by kernel_rfl) (by kernel_rfl) (fun _ _ _ h => h) (Or.inl ⟨by rfl, ?_⟩) hS ?_; rotate_left; (focus (intro w0 hSw; have s0_ := hSw.cell_some (fun h => h) f0; have s1_ := hSw.cell_some (fun h => h) f1; have s2_ := hSw.cell_some (fun h => h) f2; have s3_ := hSw.cell_some (fun h => h) f3; have s4_ := hSw.cell_some (fun h => h) f4; have s5_ := hSw.cell_some (fun h => h) f5; have s6_ := hSw.cell_some (fun h => h) f6; have s7_ := hSw.cell_some (fun h => h) f7; have s8_ := hSw.cell_some (fun h => h) f8; have s9_ := hSw.cell_some (fun h => h) f9; have s10_ := hSw.cell_some (fun h => h) f10; go_simp; try with_reducible rfl)); try simp only [Act.put, List.setIfInBounds_toArray, List.set_cons_zero, List.set_cons_succ])
      refine wpAnyH_ready (rs := [11]) (by kernel_rfl) (by simp) ?_
      refine cons_p rfl (fun K hK => ?_) AllReadyH.nil
      go_simp
      refine (Hfr.out _ (hb6.still hS)).mono ?_
      rintro e w7 ⟨rfl, hs7⟩
      have hS : Still w6 w7 := hS.still hs7
      refine hK.out _ _ hS (fun hHeld => ?_)
      clear hK K hHeld
      try simp only [Act.put, List.setIfInBounds_toArray, List.set_cons_zero, List.set_cons_succ]
      (refine take_p (i := 14) (v := ?_) rfl (by kernel_rfl) (by kernel_rfl) (by kernel_rfl) (fun _ _ _ h => h) (Or.inl ⟨by rfl, ?_⟩) hS ?_; rotate_left; (focus (intro w0 hSw; go_simp; try with_reducible rfl)); try simp only [Act.put, List.setIfInBounds_toArray, List.set_cons_zero, List.set_cons_succ])
      (refine take_p (i := 15) (v := ?_) rfl (by kernel_rfl) (by kernel_rfl) (by kernel_rfl) (fun _ _ _ h => h) (Or.inl ⟨by rfl, ?_⟩) hS ?_; rotate_left; (focus (intro w0 hSw; go_simp; try with_reducible rfl)); try simp only [Act.put, List.setIfInBounds_toArray, List.set_cons_zero, List.set_cons_succ])
      (refine take_p (i := 16) (v := ?_) rfl (by kernel_rfl) (by kernel_rfl) (by kernel_rfl) (fun _ _ _ h => h) (Or.inl ⟨by rfl, ?_⟩) hS ?_; rotate_left; (focus (intro w0 hSw; go_simp; try with_reducible rfl)); try simp only [Act.put, List.setIfInBounds_toArray, List.set_cons_zero, List.set_cons_succ])
      (refine take_p (i := 17) (v := ?_) rfl (by kernel_rfl) (by kernel_rfl) (by kernel_rfl) (fun _ _ _ h => h) (Or.inl ⟨by rfl, ?_⟩) hS ?_; rotate_left; (focus (intro w0 hSw; go_simp; try with_reducible rfl)); try simp only [Act.put, List.setIfInBounds_toArray, List.set_cons_zero, List.set_cons_succ])
      (refine take_p (i := 18) (v := ?_) rfl (by kernel_rfl) (by kernel_rfl) (by kernel_rfl) (fun _ _ _ h => h) (Or.inl ⟨by rfl, ?_⟩) hS ?_; rotate_left; (focus (intro w0 hSw; go_simp; try with_reducible rfl)); try simp only [Act.put, List.setIfInBounds_toArray, List.set_cons_zero, List.set_cons_succ])
      (refine take_p (i := 19) (v := ?_) rfl (by kernel_rfl) (by kernel_rfl) (by kernel_rfl) (fun _ _ _ h => h) (Or.inl ⟨by rfl, ?_⟩) hS ?_; rotate_left; (focus (intro w0 hSw; go_simp; try with_reducible rfl)); try simp only [Act.put, List.setIfInBounds_toArray, List.set_cons_zero, List.set_cons_succ])
      (refine take_p (i := 20) (v := ?_) rfl (by kernel_rfl) (by kernel_rfl) (by kernel_rfl) (fun _ _ _ h => h) (Or.inl ⟨by rfl, ?_⟩) hS ?_; rotate_left; (focus (intro w0 hSw; go_simp; try with_reducible rfl)); try simp only [Act.put, List.setIfInBounds_toArray, List.set_cons_zero, List.set_cons_succ])
      (refine take_p (i := 21) (v := ?_) rfl (by kernel_rfl) (by kernel_rfl) (by kernel_rfl) (fun _ _ _ h => h) (Or.inl ⟨by rfl, ?_⟩) hS ?_; rotate_left; (focus (intro w0 hSw; go_simp; try with_reducible rfl)); try simp only [Act.put, List.setIfInBounds_toArray, List.set_cons_zero, List.set_cons_succ])
      (refine take_p (i := 22) (v := ?_) rfl (by kernel_rfl) (by kernel_rfl) (by kernel_rfl) (fun _ _ _ h => h) (Or.inl ⟨by rfl, ?_⟩) hS ?_; rotate_left; (focus (intro w0 hSw; go_simp; try with_reducible rfl)); try simp only [Act.put, List.setIfInBounds_toArray, List.set_cons_zero, List.set_cons_succ])
      (refine take_p (i := 23) (v := ?_) rfl (by kernel_rfl) (by kernel_rfl) (by kernel_rfl) (fun _ _ _ h => h) (Or.inl ⟨by rfl, ?_⟩) hS ?_; rotate_left; (focus (intro w0 hSw; have s11_ := hSw.cell_some (fun h => h) f11; go_simp; try with_reducible rfl)); try simp only [Act.put, List.setIfInBounds_toArray, List.set_cons_zero, List.set_cons_succ])
      (refine take_p (i := 24) (v := ?_) rfl (by kernel_rfl) (by kernel_rfl) (by kernel_rfl) (fun _ _ _ h => h) (Or.inl ⟨by rfl, ?_⟩) hS ?_; rotate_left; (focus (intro w0 hSw; go_simp; try with_reducible rfl)); try simp only [Act.put, List.setIfInBounds_toArray, List.set_cons_zero, List.set_cons_succ])
      (refine take_p (i := 25) (v := ?_) rfl (by kernel_rfl) (by kernel_rfl) (by kernel_rfl) (fun _ _ _ h => h) (Or.inl ⟨by rfl, ?_⟩) hS ?_; rotate_left; (focus (intro w0 hSw; go_simp; try with_reducible rfl)); try simp only [Act.put, List.setIfInBounds_toArray, List.set_cons_zero, List.set_cons_succ])
      (refine take_p (i := 26) (v := ?_) rfl (by kernel_rfl) (by kernel_rfl) (by kernel_rfl) (fun _ _ _ h => h) (Or.inl ⟨by rfl, ?_⟩) hS ?_; rotate_left; (focus (intro w0 hSw; go_simp; try with_reducible rfl)); try simp only [Act.put, List.setIfInBounds_toArray, List.set_cons_zero, List.set_cons_succ])
      (refine take_p (i := 27) (v := ?_) rfl (by kernel_rfl) (by kernel_rfl) (by kernel_rfl) (fun _ _ _ h => h) (Or.inl ⟨by rfl, ?_⟩) hS ?_; rotate_left; (focus (intro w0 hSw; have s11_ := hSw.cell_some (fun h => h) f11; go_simp; try with_reducible rfl)); try simp only [Act.put, List.setIfInBounds_toArray, List.set_cons_zero, List.set_cons_succ])
      (refine take_p (i := 28) (v := ?_) rfl (by kernel_rfl) (by kernel_rfl) (by kernel_rfl) (fun _ _ _ h => h) (Or.inl ⟨by rfl, ?_⟩) hS ?_; rotate_left; (focus (intro w0 hSw; go_simp; try with_reducible rfl)); try simp only [Act.put, List.setIfInBounds_toArray, List.set_cons_zero, List.set_cons_succ])
      refine wpAnyH_ready (rs := [29]) (by kernel_rfl) (by simp) ?_
      refine cons_p rfl (fun K hK => ?_) AllReadyH.nil
      go_simp
      have hS7 := hS
      have hS := hS.alloc (.cells (#[.int .u8 0, .int .u8 0, .int .u8 (IntKind.u8.wrap ((N : Int) / 256)), .int .u8 (IntKind.u8.wrap (N : Int)), .int .u8 0, .int .u8 0, .int .u8 255, .int .u8 255, .int .u8 1, .int .u8 0, .int .u8 0, .int .u8 1] : Array Value) 5)
      refine hK.out _ _ hS (fun hHeld => ?_)
      clear hK K hHeld
      try simp only [Act.put, List.setIfInBounds_toArray, List.set_cons_zero, List.set_cons_succ]
      have hcv := cvN w7 N sv Hsv.out
      refine wpAnyH_ready (rs := [30]) (by kernel_rfl) (by simp) ?_
      refine cons_p rfl (fun K hK => ?_) AllReadyH.nil
      go_simp
      refine hK.out _ _ hS (fun hHeld => ?_)
      clear hK K hHeld
      try simp only [Act.put, List.setIfInBounds_toArray, List.set_cons_zero, List.set_cons_succ]
      (refine take_p (i := 31) (v := ?_) rfl (by kernel_rfl) (by kernel_rfl) (by kernel_rfl) (fun _ _ _ h => h) (Or.inl ⟨by rfl, ?_⟩) hS ?_; rotate_left; (focus (intro w0 hSw; go_simp; try with_reducible rfl)); try simp only [Act.put, List.setIfInBounds_toArray, List.set_cons_zero, List.set_cons_succ])
      (refine take_p (i := 32) (v := ?_) rfl (by kernel_rfl) (by kernel_rfl) (by kernel_rfl) (fun _ _ _ h => h) (Or.inl ⟨by rfl, ?_⟩) hS ?_; rotate_left; (focus (intro w0 hSw; go_simp; try with_reducible rfl)); try simp only [Act.put, List.setIfInBounds_toArray, List.set_cons_zero, List.set_cons_succ])
      refine wpAnyH_done (by kernel_rfl) ?_ _
      go_wp2_with fail
      go_roundw
      case rel => exact ⟨k + 1, by omega, by go_num, Lib.hid (hs6.still (hS7.alloc _))⟩
      case measure => simp [intOf] <;> omega
    · obtain rfl : k = 12 := by omega
      have hs3 := hs2.still hst.out
      have hb3 := hb.still hs3
      clear hs2 hT hst hb2
      go_wp2_with fail
      refine (xf_op _ hb3).mono ?_
      rintro e wx ⟨rfl, hsx⟩
      have hb4 := hb3.still hsx
      have hs4 := hs3.still hsx
      clear hb3 hs3 hsx
      have hb3 := hb4
      have hs3 := hs4
      clear hb4 hs4
      go_wp2_with fail
      refine (xf_code _ hb3).mono ?_
      rintro e wx ⟨rfl, hsx⟩
      have hb4 := hb3.still hsx
      have hs4 := hs3.still hsx
      clear hb3 hs3 hsx
      have hb3 := hb4
      have hs3 := hs4
      clear hb4 hs4
      go_wp2_with fail
      refine (xw_code _ hb3).mono ?_
      rintro e wx ⟨rfl, hsx⟩
      have hb4 := hb3.still hsx
      have hs4 := hs3.still hsx
      clear hb3 hs3 hsx
      have hb3 := hb4
      have hs3 := hs4
      clear hb4 hs4
      go_wp2_with fail
      refine (xw_big _ hb3).mono ?_
      rintro e wx ⟨rfl, hsx⟩
      have hb4 := hb3.still hsx
      have hs4 := hs3.still hsx
      clear hb3 hs3 hsx
      have hb3 := hb4
      have hs3 := hs4
      clear hb4 hs4
      go_wp2_with fail
      refine (xw_neg _ hb3).mono ?_
      rintro e wx ⟨rfl, hsx⟩
      have hb4 := hb3.still hsx
      have hs4 := hs3.still hsx
      clear hb3 hs3 hsx
      have hb3 := hb4
      have hs3 := hs4
      clear hb4 hs4
      go_wp2_with fail
      refine (read_short ⟨#[]⟩ (by decide) _).mono ?_
      rintro e wx ⟨rfl, hsx⟩
      have hs4 := hs3.still hsx
      have e4 := eq4c 0 0 0 0 0 0 0 0
      go_wp2_with fail
      go_ret
      exact ⟨rfl, (hs4.alloc _).alloc _⟩
end Go.Proofs.YtkoejogmcoigoaaDoor
