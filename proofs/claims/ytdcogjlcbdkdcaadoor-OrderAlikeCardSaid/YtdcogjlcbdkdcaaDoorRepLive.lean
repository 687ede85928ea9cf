/-
  Package repute: a book that lives above a world, and what is asked of it.
-/
import Derived.Test.YtdcogjlcbdkdcaaDoorRepNew
namespace Go.Proofs.YtdcogjlcbdkdcaaDoor
open Go.RowKit
set_option linter.unusedVariables false
set_option linter.unusedSimpArgs false

theorem cl_in (x : Int) : 0 ≤ cl x ∧ cl x ≤ 100 := by unfold cl; split <;> split <;> omega
theorem mn_in {x : Int} (h : 0 ≤ x) : 0 ≤ mn x ∧ mn x ≤ 65535 := by unfold mn; split <;> omega
theorem endTrial_ok {lim : Int} {u : Up} (h : UOK u) : UOK (endTrial lim u) := ⟨h.s0, h.s1, h.a0, h.a1, h.d0, h.d1, h.i0, h.i1, h.t0, h.t1⟩
theorem agree_ok {lim : Int} {u : Up} (h : UOK u) : UOK (agreeUp lim u) :=
  endTrial_ok ⟨(cl_in _).1, (cl_in _).2, (mn_in h.a0).1, (mn_in h.a0).2, h.d0, h.d1, h.i0, h.i1, h.t0, h.t1⟩
theorem silent_ok {lim : Int} {u : Up} (h : UOK u) : UOK (silentUp lim u) :=
  endTrial_ok ⟨(cl_in _).1, (cl_in _).2, h.a0, h.a1, h.d0, h.d1, (mn_in h.i0).1, (mn_in h.i0).2, h.t0, h.t1⟩
theorem hit_ok {u : Up} (h : UOK u) : UOK (hitUp u) := ⟨(cl_in _).1, (cl_in _).2, h.a0, h.a1, (mn_in h.d0).1, (mn_in h.d0).2, h.i0, h.i1, h.t0, h.t1⟩
theorem dissent_ok {lim rst may n now : Int} {u : Up} (hn : nowOk now) (r1 : 1 ≤ rst) (r2 : rst ≤ 100000) (h : UOK u) : UOK (dissentUp lim rst may n now u) := by
  unfold dissentUp
  have h1 := hit_ok h
  split
  · exact ⟨h1.s0, h1.s1, h1.a0, h1.a1, h1.d0, h1.d1, h1.i0, h1.i1, by have := hn.1; show 0 ≤ now + rst; omega, by have := hn.2; show now + rst ≤ 2199023255552; omega⟩
  · exact endTrial_ok h1
theorem back_ok {lim : Int} {u : Up} (l1 : 1 ≤ lim) (l2 : lim ≤ 100) (h : UOK u) : UOK (backUp lim u) :=
  endTrial_ok ⟨by show 0 ≤ lim; omega, l2, h.a0, h.a1, h.d0, h.d1, h.i0, h.i1, by show (0:Int) ≤ 0; decide, by show (0:Int) ≤ 2199023255552; decide⟩
theorem backOne_ok {lim now : Int} {u : Up} (l1 : 1 ≤ lim) (l2 : lim ≤ 100) (h : UOK u) : UOK (backOne lim now u) := by
  unfold backOne
  split
  · exact back_ok l1 l2 h
  · exact h
theorem UsOK.upd {us : List Up} (h : UsOK us) (i : Int) {f : Up → Up} (hf : ∀ u, UOK u → UOK (f u)) : UsOK (upd us i f) := by
  intro k u hu
  rw [upd_get] at hu
  obtain ⟨v, hv, rfl⟩ := Option.map_eq_some_iff.1 hu
  split
  · exact hf _ (h k v hv)
  · exact h k v hv
theorem UsOK.map {us : List Up} (h : UsOK us) {f : Up → Up} (hf : ∀ u, UOK u → UOK (f u)) : UsOK (us.map f) := by
  intro k u hu
  rw [List.getElem?_map] at hu
  obtain ⟨v, hv, rfl⟩ := Option.map_eq_some_iff.1 hu
  exact hf _ (h k v hv)
theorem UsOK.new (n : Nat) : UsOK (List.replicate n up1) := by
  intro k u hu
  rw [List.getElem?_replicate] at hu
  split at hu
  · injection hu with hu; subst hu; exact ⟨by decide, by decide, by decide, by decide, by decide, by decide, by decide, by decide, by decide, by decide⟩
  · cases hu

/-- A book in w, made behind w0. -/
structure Live (w0 w : World) (g b n c : Nat) (lim rst : Int) (us : List Up) : Prop where
  bk : Bk w g b n c lim rst us
  ok : BOK n lim rst
  gains : Gains w0
  us : UsOK us
  g0 : w0.heap.size ≤ g
  b0 : w0.heap.size ≤ b
  st : Still w0 w

section
variable {w0 w w' : World} {g b n c : Nat} {lim rst : Int} {us : List Up}
theorem Live.gb (h : Live w0 w g b n c lim rst us) : 0 ≠ b := by have := h.gains.lt; have := h.b0; omega
theorem Live.only (h : Live w0 w g b n c lim rst us) (ho : Only (· = b) w w') {us' : List Up} (hb : Bk w' g b n c lim rst us') (hu : UsOK us') : Live w0 w' g b n c lim rst us' :=
  ⟨hb, h.ok, h.gains, hu, h.g0, h.b0, h.st.trans ho (fun i hi e => by have := h.b0; omega)⟩
theorem Live.still (h : Live w0 w g b n c lim rst us) (hs : Still w w') : Live w0 w' g b n c lim rst us := ⟨h.bk.still hs, h.ok, h.gains, h.us, h.g0, h.b0, h.st.still hs⟩
theorem Live.gw (h : Live w0 w g b n c lim rst us) : Gains w := h.gains.still h.st
theorem Live.gof {u : Up} {k : Nat} (h : Live w0 w g b n c lim rst us) (hu : us[k]? = some u) : k < n := by rw [← h.bk.len]; exact (List.getElem?_eq_some_iff.1 hu).1

theorem new_live (w : World) {n : Nat} {lim rst : Int} (hg : Gains w) (ho : BOK n lim rst) (hodd : n % 2 = 1) :
    Calls Tryd.prog 17 #[.int .i64 n, .int .i64 lim, .int .i64 rst] w fun e w' => ∃ g b, e = .returned (.tuple #[.pointer (some ⟨g, 0, none⟩), .int .i64 0]) ∧ Live w w' g b n n lim rst (List.replicate n up1) := by
  refine (New_in w ho hodd).mono ?_
  rintro e w' ⟨g, b, rfl, h1, h2, h3, h4⟩
  exact ⟨g, b, rfl, h3, ho, hg, UsOK.new n, h1, h2, h4⟩
theorem agree_live (h : Live w0 w g b n c lim rst us) (i : Int) :
    Calls Tryd.prog 31 #[.pointer (some ⟨g, 0, none⟩), .int .i64 i] w fun e w' => e = .returned (.int .i64 (if 0 ≤ i ∧ i < n then 0 else 1)) ∧ Live w0 w' g b n c lim rst (upd us i (agreeUp lim)) ∧ Only (· = b) w w' := by
  refine (Agree_any h.bk h.ok h.gw h.us i h.gb).mono ?_
  rintro e w' ⟨rfl, h1, h2⟩
  exact ⟨rfl, h.only h2 h1 (h.us.upd i (fun _ => agree_ok)), h2⟩
theorem silent_live (h : Live w0 w g b n c lim rst us) (i : Int) :
    Calls Tryd.prog 34 #[.pointer (some ⟨g, 0, none⟩), .int .i64 i] w fun e w' => e = .returned (.int .i64 (if 0 ≤ i ∧ i < n then 0 else 1)) ∧ Live w0 w' g b n c lim rst (upd us i (silentUp lim)) ∧ Only (· = b) w w' := by
  refine (Silent_any h.bk h.ok h.gw h.us i h.gb).mono ?_
  rintro e w' ⟨rfl, h1, h2⟩
  exact ⟨rfl, h.only h2 h1 (h.us.upd i (fun _ => silent_ok)), h2⟩
def dissentL (lim rst : Int) (n : Nat) (i now : Int) (us : List Up) : List Up := if nowOk now then upd us i (dissentUp lim rst (mayL us).length n now) else us
theorem dissent_live (h : Live w0 w g b n c lim rst us) (i now : Int) :
    Calls Tryd.prog 18 #[.pointer (some ⟨g, 0, none⟩), .int .i64 i, .int .i64 now] w fun e w' => e = .returned (.int .i64 (if nowOk now ∧ 0 ≤ i ∧ i < n then 0 else 1)) ∧ Live w0 w' g b n c lim rst (dissentL lim rst n i now us) ∧ Only (· = b) w w' := by
  refine (Dissent_any h.bk h.ok h.gw h.us i now h.gb).mono ?_
  rintro e w' ⟨rfl, h1, h2⟩
  refine ⟨rfl, h.only h2 h1 ?_, h2⟩
  unfold dissentL
  split
  · rename_i hn
    exact h.us.upd i (fun _ => dissent_ok hn h.ok.r1 h.ok.r2)
  · exact h.us
theorem back_live (h : Live w0 w g b n c lim rst us) (now : Int) :
    Calls Tryd.prog 20 #[.pointer (some ⟨g, 0, none⟩), .int .i64 now] w fun e w' => ∃ A cc, e = .returned (.slice A (backs now us n).length cc) ∧ w'.ownsRow w.heap.size 3 1 (.slice A (backs now us n).length cc) (backs now us n).length ((backs now us n).map (.int .i64)) ∧ Live w0 w' g b n c lim rst (us.map (backOne lim now)) ∧ Only (· = b) w w' := by
  refine (Back_any h.bk h.ok now).mono ?_
  rintro e w' ⟨A, cc, rfl, h0, h1, h2⟩
  exact ⟨A, cc, rfl, h0, h.only h2 h1 (h.us.map (fun _ => backOne_ok h.ok.l1 h.ok.l2)), h2⟩
end
end Go.Proofs.YtdcogjlcbdkdcaaDoor
