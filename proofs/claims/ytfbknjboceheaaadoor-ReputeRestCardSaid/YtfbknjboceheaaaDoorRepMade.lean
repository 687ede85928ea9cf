/-
  Package repute: a book behind acts (hustingslaw19.does, made).
-/
import Derived.Test.YtfbknjboceheaaaDoorRepAwake
import Derived.Test.YtfbknjboceheaaaDoorRepActs
namespace Go.Proofs.YtfbknjboceheaaaDoor
open Go.RowKit
set_option linter.unusedVariables false
set_option linter.unusedSimpArgs false

def act3 (lim rst : Int) (n : Nat) (us : List Up) (a : A3) : List Up :=
  if a.1 = 0 then upd us a.2.1 (agreeUp lim) else if a.1 = 1 then dissentL lim rst n a.2.1 a.2.2 us else if a.1 = 2 then upd us a.2.1 (silentUp lim)
  else if a.1 = 3 then us.map (backOne lim a.2.2) else us
def acts3 (lim rst : Int) (n : Nat) (us : List Up) (l : List A3) : List Up := l.foldl (act3 lim rst n) us
theorem acts3_snoc {lim rst : Int} {n : Nat} {us : List Up} {l : List A3} {k : Nat} {a : A3} (h : l[k]? = some a) : acts3 lim rst n us (l.take (k + 1)) = act3 lim rst n (acts3 lim rst n us (l.take k)) a := by
  unfold acts3
  rw [List.take_add_one, h, List.foldl_append]
  rfl

section
variable {w0 w w' : World} {g b n c : Nat} {lim rst : Int} {us : List Up}
set_option maxRecDepth 1000000 in
set_option maxHeartbeats 6400000 in
theorem does_live (h0 : Live w0 w g b n c lim rst us) (k u x : Int) :
    Calls Tryd.prog 26 #[.pointer (some ⟨g, 0, none⟩), .agg #[.int .u8 k, .int .i64 u, .int .i64 x]] w fun e w' => e = .returned (.tuple #[]) ∧ Live w0 w' g b n c lim rst (act3 lim rst n us (k, u, x)) ∧ Only (· = b) w w' := by
  have h := h0.still (Still.new w (.cells #[.int .u8 k, .int .i64 u, .int .i64 x] 54))
  have ho : Only (· = b) w (w.alloc (.cells #[.int .u8 k, .int .i64 u, .int .i64 x] 54)) := (Only.refl _ w).alloc _
  clear h0
  by_cases k0 : k = 0
  · have e0 : act3 lim rst n us (k, u, x) = upd us u (agreeUp lim) := by unfold act3; simp [k0]
    subst k0
    have E0 := Lib.hid e0
    clear e0
    go_enter Tryd.func26, Tryd.ntmps26
    go_wp2_with fail
    refine (agree_live h u).mono ?_
    rintro e w1 ⟨rfl, h1, o1⟩
    go_wp2_with fail
    all_goals go_end0
    all_goals (rw [E0.out]; exact ⟨rfl, h1, ho.trans o1 (fun _ _ h => h)⟩)
  · by_cases k1 : k = 1
    · have e0 : act3 lim rst n us (k, u, x) = dissentL lim rst n u x us := by unfold act3; simp [k1]
      subst k1
      have E0 := Lib.hid e0
      clear e0
      go_enter Tryd.func26, Tryd.ntmps26
      go_wp2_with fail
      refine (dissent_live h u x).mono ?_
      rintro e w1 ⟨rfl, h1, o1⟩
      go_wp2_with fail
      all_goals go_end0
      all_goals (rw [E0.out]; exact ⟨rfl, h1, ho.trans o1 (fun _ _ h => h)⟩)
    · by_cases k2 : k = 2
      · have e0 : act3 lim rst n us (k, u, x) = upd us u (silentUp lim) := by unfold act3; simp [k2]
        subst k2
        have E0 := Lib.hid e0
        clear e0
        go_enter Tryd.func26, Tryd.ntmps26
        go_wp2_with fail
        refine (silent_live h u).mono ?_
        rintro e w1 ⟨rfl, h1, o1⟩
        go_wp2_with fail
        all_goals go_end0
        all_goals (rw [E0.out]; exact ⟨rfl, h1, ho.trans o1 (fun _ _ h => h)⟩)
      · by_cases k3 : k = 3
        · have e0 : act3 lim rst n us (k, u, x) = us.map (backOne lim x) := by unfold act3; simp [k3]
          subst k3
          have E0 := Lib.hid e0
          clear e0
          go_enter Tryd.func26, Tryd.ntmps26
          go_wp2_with fail
          refine (back_live h x).mono ?_
          rintro e w1 ⟨A, cc, rfl, _, h1, o1⟩
          go_wp2_with fail
          all_goals go_end0
          all_goals (rw [E0.out]; exact ⟨rfl, h1, ho.trans o1 (fun _ _ h => h)⟩)
        · have e0 : act3 lim rst n us (k, u, x) = us := by unfold act3; simp [k0, k1, k2, k3]
          have E0 := Lib.hid e0
          clear e0
          go_enter Tryd.func26, Tryd.ntmps26
          go_wp2_with fail
          all_goals go_end0
          all_goals (rw [E0.out]; exact ⟨rfl, h, ho⟩)
end
end Go.Proofs.YtfbknjboceheaaaDoor
