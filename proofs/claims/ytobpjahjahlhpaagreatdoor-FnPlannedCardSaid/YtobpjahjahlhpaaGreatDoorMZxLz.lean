/-
  What orders rest on.
-/
import Derived.Test.YtobpjahjahlhpaaGreatDoorMZ21
import Derived.Test.YtobpjahjahlhpaaGreatDoorMZ18
import Derived.Test.YtobpjahjahlhpaaGreatDoorMZ19
import Derived.Test.YtobpjahjahlhpaaGreatDoorMZxId
import Derived.Test.YtobpjahjahlhpaaGreatDoorMZxOc
import Derived.Test.YtobpjahjahlhpaaGreatDoorMZxJi
import Derived.Test.YtobpjahjahlhpaaGreatDoorMZ9
import Derived.Test.YtobpjahjahlhpaaGreatDoorMZ7
import Derived.Test.YtobpjahjahlhpaaGreatDoorMZ0
/- Lz -/
set_option linter.unusedVariables false
namespace Go.Proofs.YtobpjahjahlhpaaGreatDoor
/- named behind this: Blk BoxS Bytes C Cur DrawnOrd Errs GivesPS GivesPSN IsPlan IsSt Keeps Lists Names OR Own OwnSt PlSmall PlanD RecD RecsA Rows4 StD StFits StSmall TP Two aliveB alive_any all alloc apart appliedL appliedS applyR argsN argsN_cases base below belowRow_ big_any block blocks bootD bootRecs_any boot_len1 box box2 busyD but cancelD cell cells cmd_len commandD command_run commanded_any devCs_len draw drew eqPlan_same eqState_same errs_of_laid evictD far first fits_ok formR frozen getD go goodR heap_size_alloc_ heldState_any implAll_any implBootRecs_any implCommanded_any implProbeRecs_any implStateOk_any implTickRecs_any inB is isR it keeps keepsRow_ keepsT l13Draw_any l1Below_any l1From_any l1New_any l1Num_any l1Once_any l5DrawAny_any laidWorldE_met laidWorld_met laid_ len likeRecs_same lkCs_len lockD lt m3 markS markState_any mkDevs_len mkLks_len mkMnts_len mkPods_len mntCs_len mono more names_of_laid names_of_laidH ne_types new newStV nil no noR nums of one oneR open_ open_bytes ordC orderOkB orderOk_any out own own_ ownsRow_keeps phaseD plan planC planV planned_any planned_good podA podCs_at podCs_len probe_len1 put recOkB recOk_any refl results_cells_num results_two_cells ret_bool rows rowsOf rt runR same set setRow shapes shutD sl specRecOk_any specStateOk_any st stC stOkB stOkB_iff start step store_plan store_state szP szPlan_any szS szState_any three tickD tickRecs_any tickS tick_len1 tick_ok tick_recs tick_run toPlan_any toState_any toldD totS trans unlockD zeroS -/
end Go.Proofs.YtobpjahjahlhpaaGreatDoor
