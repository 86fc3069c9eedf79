/- Contracts: MovesByTurns, both sides. -/
import Derived.Test.YtcicjnpnhaddcaaDoorTnI
namespace Go.Proofs.YtcicjnpnhaddcaaDoor
open Go.RowKit
open Go.RowKit (wrap64)
set_option linter.unusedVariables false

theorem specMovesByTurns_ret (n : Int) (w : World) :
    Calls Tryd.prog 19 #[.int .i64 n] w (RetMvs w (mtnL n).length (mtnL n) (mtnE n)) := by
  by_cases hb : inB n 0 8 = true
  · have h0 := inB_of hb
    obtain ⟨m, rfl⟩ := Int.eq_ofNat_of_zero_le h0.1
    obtain ⟨q1, q2⟩ := mtn_yes hb
    rw [q1, q2]
    exact specMovesByTurns_good m w (by omega)
  · have hb' : inB n 0 8 = false := by simpa using hb
    obtain ⟨q1, q2⟩ := mtn_no hb'
    rw [q1, q2]
    clear hb q1 q2
    go_enter Tryd.func19, Tryd.ntmps19
    go_wp2_with fail
    refine (l01In_calls n 0 8 _).mono ?_
    rintro e w' ⟨rfl, rfl⟩
    go_wp2
    go_ret2
    exact retMvs_zero rfl (Below.refl _ _)

theorem implMovesByTurns_ret (n : Int) (w : World) :
    Calls Tryd.prog 18 #[.int .i64 n] w (RetMvs w (mtnL n).length (mtnL n) (mtnE n)) := by
  by_cases hb : inB n 0 8 = true
  · have h0 := inB_of hb
    obtain ⟨m, rfl⟩ := Int.eq_ofNat_of_zero_le h0.1
    obtain ⟨q1, q2⟩ := mtn_yes hb
    rw [q1, q2]
    exact implMovesByTurns_good m w (by omega)
  · have hb' : inB n 0 8 = false := by simpa using hb
    obtain ⟨q1, q2⟩ := mtn_no hb'
    rw [q1, q2]
    clear hb q1 q2
    go_enter Tryd.func18, Tryd.ntmps18
    go_wp2_with fail
    refine (isUpTo_calls n 8 _).mono ?_
    rintro e w' ⟨rfl, rfl⟩
    go_wp2
    go_ret2
    exact retMvs_zero rfl (Below.refl _ _)

end Go.Proofs.YtcicjnpnhaddcaaDoor
