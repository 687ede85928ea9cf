/-
  EdnsBehind: for every input the call returns true, and each argument reads behind it as it read before. From the walk in YtbapnlgddekakaaDoorEdnsBehind.
-/
import Derived.Test.YtbapnlgddekakaaDoorRows
import Derived.Test.YtbapnlgddekakaaDoorEdnsBehindFact
import Derived.Test.YtbapnlgddekakaaDoorOpen
import Derived.Test.YtbapnlgddekakaaDoorEdnsBehind
import Derived.Test.YtbapnlgddekakaaDoorCards
import Derived.Test.YtbapnlgddekakaaDoorTie
import Derived.Test.YtbapnlgddekakaaDoorLaidErr
import Derived.ProofKit
import Derived.LaidMore
import Derived.OpenShut
import Derived.Stop.Joined
import Derived.SevenTiedAt
import Derived.SizedLaws
namespace Go.Proofs.YtbapnlgddekakaaDoor.ednsBehind
open Go.RowKit Go.ChangeShapes Go.WideShapes Go.ChangeAt
open Go.ChangeMaps (open_string shut_string)
set_option linter.unusedVariables false

theorem own : ownKnob Tryd.prog.godebug = none := by kernel_rfl
theorem laidOut : laidOutB Tryd.prog = true := by kernel_rfl
theorem readable : ∀ t ∈ Tryd.f6.params.toList, Tryd.prog.readableRec t = true ∧ t < Tryd.prog.types.size := by
  rw [Tryd.params6]
  intro t ht
  simp only [List.mem_cons, List.not_mem_nil, or_false] at ht
  rcases ht with rfl | rfl | rfl
  all_goals exact ⟨by kernel_rfl, of_decide_eq_true (by kernel_rfl)⟩

set_option maxRecDepth 100000 in
theorem contract (H : Type) (enc : TypeId × Value → H) (W : World) (base : Nat) (args : Array Value) (ds gs : List (DataW H)) (before : List MemPlace)
    (hval : ∀ (j : Nat) t v, Tryd.f6.params[j]? = some t → args[j]? = some v → Value.okWide Tryd.prog W .any base t v)
    (hW : DataW.Whole enc Tryd.prog Tryd.f6.params.toList Rows.ednsBehindSpec.vars false W args.toList ds gs before) (hL : laidMetH Tryd.prog Rows.ednsBehindRow.laid W) :
    Calls Tryd.prog 6 args W fun e W' => ∃ v, e = .returned v ∧ Rows.ednsBehindSpec.post enc Tryd.prog Tryd.f6 false true false false W args v W' := by
  have hW' := hW
  obtain ⟨p, q, hA0, hV, rfl, hfz, hnd⟩ := hW
  have hlt : ∀ x ∈ p, x.block < W.heap.size := fun x hx => hW'.lt x (by simp [hx])
  have hA : DataW.TrodAll enc Tryd.prog W 0 (fun _ => true) true Tryd.f6.params.toList args.toList ds p := hA0
  have hA1 := hA
  have hread := readable
  rw [Tryd.params6] at hA hval
  obtain ⟨v0, vs0, d0, ds0, p0, q0, hargs, rfl, rfl, h0, r0⟩ := trodAll_cons hA
  obtain ⟨v1, vs1, d1, ds1, p1, q1, rfl, rfl, rfl, h1, r1⟩ := trodAll_cons r0
  obtain ⟨v2, vs2, d2, ds2, p2, q2, rfl, rfl, rfl, h2, r2⟩ := trodAll_cons r1
  obtain ⟨rfl, rfl, rfl⟩ := trodAll_nil r2
  obtain rfl : args = #[v0, v1, v2] := by cases args; simp_all
  obtain ⟨rfl, rfl⟩ := trodVars_none hV
  obtain ⟨cl_0, x_0, v_0, f_0, A_0, n_0, c_0, l_0, rfl, hcl_0, hx_0, hv_0, hf_0, hn_0, hl_0, hrd_0, hw_0⟩ := open_edns (hval 0 25 v0 rfl rfl) h0
  obtain ⟨cl_1, x_1, v_1, f_1, A_1, n_1, c_1, l_1, rfl, hcl_1, hx_1, hv_1, hf_1, hn_1, hl_1, hrd_1, hw_1⟩ := open_edns (hval 1 25 v1 rfl rfl) h1
  obtain ⟨a2, rfl, rfl, rfl, w2⟩ := open_int Tryd.underlying3 (hval 2 3 v2 rfl rfl) h2
  clear hA0
  refine ((fun W cl x v f A n c l hcl hx hv hf hn hl hrd hw cl2 x2 v2 f2 A2 n2 c2 l2 hcl2 hx2 hv2 hf2 hn2 hl2 hrd2 hw2 a2 w2 he => behind_walk W cl x v f A n c l hcl hx hv hf hn hl hrd hw cl2 x2 v2 f2 A2 n2 c2 l2 hcl2 hx2 hv2 hf2 hn2 hl2 hrd2 hw2 he a2) W cl_0 x_0 v_0 f_0 A_0 n_0 c_0 l_0 hcl_0 hx_0 hv_0 hf_0 hn_0 hl_0 hrd_0 hw_0 cl_1 x_1 v_1 f_1 A_1 n_1 c_1 l_1 hcl_1 hx_1 hv_1 hf_1 hn_1 hl_1 hrd_1 hw_1 a2 w2 (errT_of_one hL)).mono fun e W' ⟨he, hst⟩ => ?_
  subst he
  have bel : Below W.heap.size W W' := hst.to_below (Nat.le_refl _) (fun _ h => h.elim)
  exact ⟨_, rfl, _, _, _, [], _, [], hW', trodAll_mk1 (shut_bool Tryd.underlying4 _), all_below laidOut bel _ _ _ _ hread hA1 hlt, rfl, bel.frame _, fun h => by cases h⟩

set_option maxRecDepth 100000 in
theorem lifted (os : Os) (started : os.Started) (H : Type) (enc : TypeId × Value → H) :
    ReturnsInHanded {} Tryd.checked os 6 .any (fun w args => (Rows.ednsBehindSpec.pre enc Tryd.prog Tryd.f6 [] false w args ∧ laidMetH Tryd.prog Rows.ednsBehindRow.laid w) ∧ sizedMet enc Tryd.prog Tryd.f6 (OpenSpec.ofChange Rows.ednsBehindSpec) false w args)
      (Rows.ednsBehindSpec.post enc Tryd.prog Tryd.f6 false true false false) := by
  refine returnsInHanded_of_change_and (C := Tryd.checked) (X := fun w _ => laidMetH Tryd.prog Rows.ednsBehindRow.laid w) (fun _ _ _ hh h => h.of_heap hh) own started (by kernel_rfl) Tryd.func6
    (ChangeSpec.witness_shaped (enc := enc) (C := Tryd.checked) (os := os) (X := fun w _ => laidMetH Tryd.prog Rows.ednsBehindRow.laid w) false (World.doorLaid Tryd.prog 400 os) #[.agg #[.int .u16 0, .int .u8 0, .int .u8 0, .int .u16 0, .slice none 0 0], .agg #[.int .u16 0, .int .u8 0, .int .u8 0, .int .u16 0, .slice none 0 0], .int .i64 0] 8 rfl (door_shaped os _) (by kernel_rfl) (by kernel_rfl) (by kernel_rfl) (met_one os _)) ?_
  intro W base args ds gs before hval hW _ _ hL _
  exact contract H enc W base args ds gs before hval hW hL

theorem row_holds : Rows.EdnsBehindSaid :=
  OpenClaim.holds_of_wide 6 Tryd.f6 rfl rfl rfl rfl rfl rfl rfl ⟨rfl, rfl, rfl, rfl, rfl⟩ rfl rfl rfl rfl rfl fact_name Tryd.func6 fact_closed fact_instance fact_wrapper
    (fun os started H enc _ => lifted os started H enc)

theorem proved : Rows.EdnsBehindCardSaid :=
  Claim7.holds_tied_plain_at .later [] [.handle] true (true, "b5493bc4f6ad993852d86f27574624ca1f3bbe7e79586d99698f952b813d4e54") true
    row_holds (fun _ h => by cases h) (by kernel_rfl) (fun _ h => by cases h) ednsBehind_row_tie rfl ⟨rfl, rfl⟩ (by kernel_rfl) rfl
    (fun f fn hf hfn => by
      obtain rfl : f = 6 := Option.some.inj ((show Tryd.prog.funcNamed "hustings/hustingslaw06.EdnsBehind" = some 6 by kernel_rfl).symm.trans hf) |>.symm
      obtain rfl : fn = Tryd.f6 := (Option.some.inj (Tryd.func6.symm.trans hfn)).symm
      exact ⟨by kernel_rfl, fun j t ht => by
        rw [Tryd.params6] at ht
        have hm : t ∈ [25, 3] := by
          have h0 := Array.mem_of_getElem? ht
          simp at h0 ⊢ <;> first | exact h0 | (rcases h0 with h0 | h0 | h0 | h0 | h0 | h0 | h0 | h0 <;> simp [h0]) | (rcases h0 with h0 | h0 | h0 | h0 | h0 | h0 | h0 <;> simp [h0]) | (rcases h0 with h0 | h0 | h0 | h0 | h0 | h0 <;> simp [h0]) | (rcases h0 with h0 | h0 | h0 | h0 | h0 <;> simp [h0]) | (rcases h0 with h0 | h0 | h0 | h0 <;> simp [h0]) | (rcases h0 with h0 | h0 | h0 <;> simp [h0]) | (rcases h0 with h0 | h0 <;> simp [h0])
        have hall : ([25, 3].all fun u => !Tryd.prog.wantsStandIn u) = true := by kernel_rfl
        exact (show Tryd.prog.wantsStandIn t = false by simpa using List.all_eq_true.1 hall t hm)⟩)
    (by kernel_rfl)
#print axioms proved
end Go.Proofs.YtbapnlgddekakaaDoor.ednsBehind
