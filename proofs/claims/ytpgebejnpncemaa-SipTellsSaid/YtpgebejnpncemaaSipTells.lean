/-
  SipTells: the hash of any bytes, by any key, is the document's.
-/
import Derived.Test.YtpgebejnpncemaaSipRefD
import Derived.Test.YtpgebejnpncemaaOpen
namespace Go.Proofs.Ytpgebejnpncemaa
open Go.RowKit
set_option linter.unusedVariables false

set_option maxRecDepth 1000000 in
set_option maxHeartbeats 6400000 in
theorem sipTells_walk (w : World) (k0 : Int) (h0 : (Lit.int .u64 k0).wf = true) (k1 : Int) (h1 : (Lit.int .u64 k1).wf = true) (s : ByteArray) (hs : s.size ≤ maxLen) :
    Calls Try.prog 11 #[.int .u64 k0, .int .u64 k1, .string s] w fun e w' => e = .returned (.bool true) ∧ Still w w' := by
  have h0 := wf_u64 h0
  have h1 := wf_u64 h1
  clear hs
  go_enter Try.func11, Try.ntmps11
  by_cases hs : (5000 : Int) < (s.size : Int)
  · go_wp2_with fail
    refine (sip_awake _).mono ?_
    rintro e w1 ⟨rfl, hs1⟩
    go_wp2_with fail
    go_ret
    exact ⟨rfl, hs1⟩
  · go_wp2_with fail
    refine (SumTop_any h0 h1 s (by omega)).mono ?_
    rintro e w1 ⟨rfl, hs1⟩
    go_wp2_with fail
    refine (refSum_any h0 h1 s (by omega)).mono ?_
    rintro e w2 ⟨rfl, hs2⟩
    have hs2 := hs1.still hs2
    go_wp2_with fail
    refine (sip_awake _).mono ?_
    rintro e w3 ⟨rfl, hs3⟩
    have hs3 := hs2.still hs3
    go_wp2_with fail
    go_ret
    exact ⟨rfl, hs3⟩
end Go.Proofs.Ytpgebejnpncemaa
