/-
  OrderAlike: for every input the call returns true, and each argument reads behind it as it read before. From the walk in YtdcogjlcbdkdcaaDoorOrdAlike.
-/
import Derived.Test.YtdcogjlcbdkdcaaDoorRows
import Derived.Test.YtdcogjlcbdkdcaaDoorOrderAlikeFact
import Derived.Test.YtdcogjlcbdkdcaaDoorOpen
import Derived.Test.YtdcogjlcbdkdcaaDoorOrdAlike
import Derived.Test.YtdcogjlcbdkdcaaDoorCards
import Derived.Test.YtdcogjlcbdkdcaaDoorTie
import Derived.Test.YtdcogjlcbdkdcaaDoorLaidRep
import Derived.ProofKit
import Derived.LaidMore
import Derived.OpenShut
import Derived.Stop.Joined
import Derived.SevenTiedAt
import Derived.SizedLaws
namespace Go.Proofs.YtdcogjlcbdkdcaaDoor.orderAlike
open Go.RowKit Go.ChangeShapes Go.WideShapes Go.ChangeAt
open Go.ChangeMaps (open_string shut_string)
set_option linter.unusedVariables false

theorem own : ownKnob Tryd.prog.godebug = none := by kernel_rfl
theorem laidOut : laidOutB Tryd.prog = true := by kernel_rfl
theorem readable : ∀ t ∈ Tryd.f6.params.toList, Tryd.prog.readableRec t = true ∧ t < Tryd.prog.types.size := by
  rw [Tryd.params6]
  intro t ht
  simp only [List.mem_cons, List.not_mem_nil, or_false] at ht
  rcases ht with rfl | rfl
  all_goals exact ⟨by kernel_rfl, of_decide_eq_true (by kernel_rfl)⟩

set_option maxRecDepth 100000 in
theorem contract (H : Type) (enc : TypeId × Value → H) (W : World) (base : Nat) (args : Array Value) (ds gs : List (DataW H)) (before : List MemPlace)
    (hval : ∀ (j : Nat) t v, Tryd.f6.params[j]? = some t → args[j]? = some v → Value.okWide Tryd.prog W .any base t v)
    (hW : DataW.Whole enc Tryd.prog Tryd.f6.params.toList Rows.orderAlikeSpec.vars false W args.toList ds gs before) (hL : laidMetH Tryd.prog Rows.orderAlikeRow.laid W) :
    Calls Tryd.prog 6 args W fun e W' => ∃ v, e = .returned v ∧ Rows.orderAlikeSpec.post enc Tryd.prog Tryd.f6 false true false false W args v W' := by
  have hW' := hW
  obtain ⟨p, q, hA0, hV, rfl, hfz, hnd⟩ := hW
  have hlt : ∀ x ∈ p, x.block < W.heap.size := fun x hx => hW'.lt x (by simp [hx])
  have hA : DataW.TrodAll enc Tryd.prog W 0 (fun _ => true) true Tryd.f6.params.toList args.toList ds p := hA0
  have hA1 := hA
  have hread := readable
  rw [Tryd.params6] at hA hval
  obtain ⟨v0, vs0, d0, ds0, p0, q0, hargs, rfl, rfl, h0, r0⟩ := trodAll_cons hA
  obtain ⟨v1, vs1, d1, ds1, p1, q1, rfl, rfl, rfl, h1, r1⟩ := trodAll_cons r0
  obtain ⟨rfl, rfl, rfl⟩ := trodAll_nil r1
  obtain rfl : args = #[v0, v1] := by cases args; simp_all
  obtain ⟨rfl, rfl⟩ := trodVars_none hV
  obtain ⟨u_0, lim_0, rst_0, A_0, m_0, cc_0, l_0, seed_0, F_0, kf_0, fc_0, xs_0, rfl, w0_0, hm_0, hl_0, hrd_0, ws_0, hkm_0, hF_0, hx_0, hrx_0, hz_0⟩ := open_case (hval 0 26 v0 rfl rfl) h0
  obtain ⟨a1, rfl, rfl, rfl, w1⟩ := open_int Tryd.underlying23 (hval 1 23 v1 rfl rfl) h1
  clear hA0
  refine ((fun W u lim rst A m cc l seed F kf fc xs w0 hm hl hrd ws hkm hF hx hrx hz a1 w1 hg => alike_walk W hg u lim rst seed A F m cc kf fc l xs (case_in w0 hl hrd ws hF hx hrx hz) a1 (wf_u64 w1).1 (wf_u64 w1).2) W u_0 lim_0 rst_0 A_0 m_0 cc_0 l_0 seed_0 F_0 kf_0 fc_0 xs_0 w0_0 hm_0 hl_0 hrd_0 ws_0 hkm_0 hF_0 hx_0 hrx_0 hz_0 a1 w1 (gains_of_one hL)).mono fun e W' ⟨he, hst⟩ => ?_
  subst he
  have bel : Below W.heap.size W W' := hst.to_below (Nat.le_refl _) (fun _ h => h.elim)
  exact ⟨_, rfl, _, _, _, [], _, [], hW', trodAll_mk1 (shut_bool Tryd.underlying4 _), all_below laidOut bel _ _ _ _ hread hA1 hlt, rfl, bel.frame _, fun h => by cases h⟩

set_option maxRecDepth 100000 in
theorem lifted (os : Os) (started : os.Started) (H : Type) (enc : TypeId × Value → H) :
    ReturnsInHanded {} Tryd.checked os 6 .any (fun w args => (Rows.orderAlikeSpec.pre enc Tryd.prog Tryd.f6 [] false w args ∧ laidMetH Tryd.prog Rows.orderAlikeRow.laid w) ∧ sizedMet enc Tryd.prog Tryd.f6 (OpenSpec.ofChange Rows.orderAlikeSpec) false w args)
      (Rows.orderAlikeSpec.post enc Tryd.prog Tryd.f6 false true false false) := by
  refine returnsInHanded_of_change_and (C := Tryd.checked) (X := fun w _ => laidMetH Tryd.prog Rows.orderAlikeRow.laid w) (fun _ _ _ hh h => h.of_heap hh) own started (by kernel_rfl) Tryd.func6
    (ChangeSpec.witness_shaped (enc := enc) (C := Tryd.checked) (os := os) (X := fun w _ => laidMetH Tryd.prog Rows.orderAlikeRow.laid w) false (World.doorLaid Tryd.prog 400 os) #[.agg #[.int .i64 0, .int .i64 0, .int .i64 0, .slice none 0 0, .int .u64 0, .slice none 0 0], .int .u64 0] 8 rfl (door_shaped os _) (by kernel_rfl) (by kernel_rfl) (by kernel_rfl) (met_gains os _)) ?_
  intro W base args ds gs before hval hW _ _ hL _
  exact contract H enc W base args ds gs before hval hW hL

theorem row_holds : Rows.OrderAlikeSaid :=
  OpenClaim.holds_of_wide 6 Tryd.f6 rfl rfl rfl rfl rfl rfl rfl ⟨rfl, rfl, rfl, rfl, rfl⟩ rfl rfl rfl rfl rfl fact_name Tryd.func6 fact_closed fact_instance fact_wrapper
    (fun os started H enc _ => lifted os started H enc)

theorem proved : Rows.OrderAlikeCardSaid :=
  Claim7.holds_tied_plain_at .later [] [.data] true (true, "f23732c7b4625d020ebc43f6c6eca1e4b54dad047af9e6014e3833ab7cedc5f1") false
    row_holds (fun _ h => by cases h) (by kernel_rfl) (fun _ h => by cases h) orderAlike_row_tie rfl ⟨rfl, rfl⟩ (by kernel_rfl) rfl
    (fun f fn hf hfn => by
      obtain rfl : f = 6 := Option.some.inj ((show Tryd.prog.funcNamed "hustings/hustingslaw20.OrderAlike" = some 6 by kernel_rfl).symm.trans hf) |>.symm
      obtain rfl : fn = Tryd.f6 := (Option.some.inj (Tryd.func6.symm.trans hfn)).symm
      exact ⟨by kernel_rfl, fun j t ht => by
        rw [Tryd.params6] at ht
        have hm : t ∈ [26, 23] := by
          have h0 := Array.mem_of_getElem? ht
          simp at h0 ⊢ <;> first | exact h0 | (rcases h0 with h0 | h0 | h0 | h0 | h0 | h0 | h0 | h0 <;> simp [h0]) | (rcases h0 with h0 | h0 | h0 | h0 | h0 | h0 | h0 <;> simp [h0]) | (rcases h0 with h0 | h0 | h0 | h0 | h0 | h0 <;> simp [h0]) | (rcases h0 with h0 | h0 | h0 | h0 | h0 <;> simp [h0]) | (rcases h0 with h0 | h0 | h0 | h0 <;> simp [h0]) | (rcases h0 with h0 | h0 | h0 <;> simp [h0]) | (rcases h0 with h0 | h0 <;> simp [h0])
        have hall : ([26, 23].all fun u => !Tryd.prog.wantsStandIn u) = true := by kernel_rfl
        exact (show Tryd.prog.wantsStandIn t = false by simpa using List.all_eq_true.1 hall t hm)⟩)
    (by kernel_rfl)
#print axioms proved
end Go.Proofs.YtdcogjlcbdkdcaaDoor.orderAlike
