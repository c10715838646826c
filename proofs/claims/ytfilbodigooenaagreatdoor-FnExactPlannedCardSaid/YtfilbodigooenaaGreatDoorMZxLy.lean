/-
  What orders rest on (the exact law).
-/
import Derived.Test.YtfilbodigooenaaGreatDoorMZ14
import Derived.Test.YtfilbodigooenaaGreatDoorMZ5
import Derived.Test.YtfilbodigooenaaGreatDoorMZ15
import Derived.Test.YtfilbodigooenaaGreatDoorMZxId
import Derived.Test.YtfilbodigooenaaGreatDoorMZxOc
import Derived.Test.YtfilbodigooenaaGreatDoorMZ13
import Derived.Test.YtfilbodigooenaaGreatDoorMZ8
import Derived.Test.YtfilbodigooenaaGreatDoorMZ2
import Derived.Test.YtfilbodigooenaaGreatDoorMZ6
import Derived.Test.YtfilbodigooenaaGreatDoorMZ0
/- Ly -/
set_option linter.unusedVariables false
namespace Go.Proofs.YtfilbodigooenaaGreatDoor
/- named behind this: Blk BoxS C DrawnOrd Errs IsPlan IsSt Keeps Names OR Own OwnSt PlanD RecD RecsA Rows4 StD StFits TP Two agg_of_trod alloc apart appliedS argsN argsN_cases at_of_map base below block blocks bootD bootRecs_any boot_len1 box box2 cell cells cmd_len commandD commanded_any congr devCs_len drew empty eqPlan_same eqState_same errs_of_laid ext first fits_ok go goodR heap_size_alloc_ heldState_any implAll_any implBootRecs_any implCommanded_any implProbeRecs_any implStateOk_any implTickRecs_any inB is it keeps l13Draw_any l1Below_any l1From_any l1New_any l1Num_any l1Once_any l5DrawAny_any laidWorldE_met laidWorld_met laid_ likeRecs_same lkCs_len lt markS markState_any mkDevs_len mkLks_len mkMnts_len mkPods_len mntCs_len mono more names_of_laid new newStV no noR of one open_ open_bytes ordC orderOkB orderOk_any out own own_ ownsRow_keeps plan planC planD planV plannedD planned_any planned_good podCs_len probeD probe_len1 recOkB recOk_any refl ret_bool rows rt same specRecOk_any specStateOk_any stC stOkB stOkB_iff start step szP szPlan_any szS szState_any three tickD tickRecs_any tick_len1 tick_recs toPlan_any toState_any totS trans within_any zeroS -/
end Go.Proofs.YtfilbodigooenaaGreatDoor
