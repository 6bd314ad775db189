/-
  The walks of the laws of layer 10: FigureBack, whole.
-/
import Derived.Test.YteoeicfbaffjcaaGreatDoorLaw10Walks4bM
import Derived.Test.YteoeicfbaffjcaaGreatDoorLaw10Walks4cM
import Derived.Test.YteoeicfbaffjcaaGreatDoorLaw10Walks4dM
import Derived.Deep.RegionHeld3
namespace Go.Proofs.YteoeicfbaffjcaaGreatDoor
open Go.RowKit

theorem law10_back (S : FigureSaid) (s0 : Bool) (a0 : Option Addr) (n0 c0 : Nat) (la0 : List Nat) (b0 : Option Addr) (m0 d0 : Nat) (lb0 : List Nat) (l : List UInt8) (w : World) (ha0 : Wd w a0 n0 c0 la0) (hb0 : Wd w b0 m0 d0 lb0) (hT : Hid (Dec10 w)) (hl : l.length ≤ 9223372036854775807) :
    Calls Tryz.prog 5 #[frV s0 a0 n0 c0 b0 m0 d0, .string (bs l)] w (Gives (.bool true) w) := by
  by_cases h : 6 < n0 ∨ 6 < m0
  · exact law10_back_long S s0 a0 n0 c0 b0 m0 d0 l w hT h
  · by_cases hm : 200 < l.length
    · exact law10_back_many S s0 a0 n0 c0 b0 m0 d0 l w hT (by omega) (by omega) hm hl
    · obtain ⟨p0, hp0⟩ : ∃ p, qval s0 (val la0) (val lb0) = p := ⟨_, rfl⟩
      by_cases hb1 : (txt p0.num.natAbs).length ≤ 60
      · by_cases hb2 : (txt p0.den).length ≤ 60
        · by_cases hk : figKind l = 0
          · by_cases hg1 : 60 < (txt (figVal l).num.natAbs).length
            · exact law10_back_long1_both S s0 a0 n0 c0 la0 b0 m0 d0 lb0 l w ha0 hb0 hT (by omega) (by omega) (by omega) p0 hp0 hb1 hb2 hk hg1
            · by_cases hg2 : 60 < (txt (figVal l).den).length
              · exact law10_back_long2_both S s0 a0 n0 c0 la0 b0 m0 d0 lb0 l w ha0 hb0 hT (by omega) (by omega) (by omega) p0 hp0 hb1 hb2 hk hg1 hg2
              · exact law10_back_good_both S s0 a0 n0 c0 la0 b0 m0 d0 lb0 l w ha0 hb0 hT (by omega) (by omega) (by omega) p0 hp0 hb1 hb2 hk hg1 hg2
          · exact law10_back_bad_both S s0 a0 n0 c0 la0 b0 m0 d0 lb0 l w ha0 hb0 hT (by omega) (by omega) (by omega) p0 hp0 hb1 hb2 hk
        · by_cases hk : figKind l = 0
          · by_cases hg1 : 60 < (txt (figVal l).num.natAbs).length
            · exact law10_back_long1_two S s0 a0 n0 c0 la0 b0 m0 d0 lb0 l w ha0 hb0 hT (by omega) (by omega) (by omega) p0 hp0 hb1 hb2 hk hg1
            · by_cases hg2 : 60 < (txt (figVal l).den).length
              · exact law10_back_long2_two S s0 a0 n0 c0 la0 b0 m0 d0 lb0 l w ha0 hb0 hT (by omega) (by omega) (by omega) p0 hp0 hb1 hb2 hk hg1 hg2
              · exact law10_back_good_two S s0 a0 n0 c0 la0 b0 m0 d0 lb0 l w ha0 hb0 hT (by omega) (by omega) (by omega) p0 hp0 hb1 hb2 hk hg1 hg2
          · exact law10_back_bad_two S s0 a0 n0 c0 la0 b0 m0 d0 lb0 l w ha0 hb0 hT (by omega) (by omega) (by omega) p0 hp0 hb1 hb2 hk
      · by_cases hk : figKind l = 0
        · by_cases hg1 : 60 < (txt (figVal l).num.natAbs).length
          · exact law10_back_long1_one S s0 a0 n0 c0 la0 b0 m0 d0 lb0 l w ha0 hb0 hT (by omega) (by omega) (by omega) p0 hp0 hb1 hk hg1
          · by_cases hg2 : 60 < (txt (figVal l).den).length
            · exact law10_back_long2_one S s0 a0 n0 c0 la0 b0 m0 d0 lb0 l w ha0 hb0 hT (by omega) (by omega) (by omega) p0 hp0 hb1 hk hg1 hg2
            · exact law10_back_good_one S s0 a0 n0 c0 la0 b0 m0 d0 lb0 l w ha0 hb0 hT (by omega) (by omega) (by omega) p0 hp0 hb1 hk hg1 hg2
        · exact law10_back_bad_one S s0 a0 n0 c0 la0 b0 m0 d0 lb0 l w ha0 hb0 hT (by omega) (by omega) (by omega) p0 hp0 hb1 hk
end Go.Proofs.YteoeicfbaffjcaaGreatDoor
