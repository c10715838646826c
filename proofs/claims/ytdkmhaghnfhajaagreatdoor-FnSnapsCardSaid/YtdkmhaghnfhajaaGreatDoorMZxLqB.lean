/-
  What FnSnaps rests on (a stub).
-/
import Derived.Test.YtdkmhaghnfhajaaGreatDoorMZ14
import Derived.Test.YtdkmhaghnfhajaaGreatDoorMZ11
import Derived.Test.YtdkmhaghnfhajaaGreatDoorMZ5
import Derived.Test.YtdkmhaghnfhajaaGreatDoorMZ3
import Derived.Test.YtdkmhaghnfhajaaGreatDoorMZxVx
import Derived.Test.YtdkmhaghnfhajaaGreatDoorMZxVnA
import Derived.Test.YtdkmhaghnfhajaaGreatDoorMZ17
import Derived.Test.YtdkmhaghnfhajaaGreatDoorMZxXj
import Derived.Test.YtdkmhaghnfhajaaGreatDoorMZ31
import Derived.Test.YtdkmhaghnfhajaaGreatDoorMZxDk
import Derived.Test.YtdkmhaghnfhajaaGreatDoorMZ19
import Derived.Test.YtdkmhaghnfhajaaGreatDoorMZ0
import Derived.Test.YtdkmhaghnfhajaaGreatDoorMZ16
import Derived.Test.YtdkmhaghnfhajaaGreatDoorMZ7
import Derived.Test.YtdkmhaghnfhajaaGreatDoorMZxCb
/- LqB -/
set_option linter.unusedVariables false
namespace Go.Proofs.YtdkmhaghnfhajaaGreatDoor
/- named behind this: Bytes C Cur GivesPS IsPlan IsSt Keeps Names OR Own OwnSt PlanD RecD SlV StD StFits StOk Two alloc append_news append_rec append_recs appliedL base below belowRow_ big_any block blocks box box2 cell cells cntV countersOf_any devA devCs devCs_at drew drewN empty first fits_ok formR form_ framed_any frozen getD go heap_size_alloc_ implAll_any implNewState_any implStateOk_any info_i64 is isR it keeps keepsRow_ keepsT keeps_setRow l14Snap_any l1Below_any l1New_any l1Once_any l5Copy_any l5DrawAny_any laidWorld_met laid_ len likeRecs_same lkA lkCs lkCs_at low lt m3 mntA mntCs mntCs_at mntCs_len mntCs_set mntRow mono more names_of_laid ne_types new newS newS_ok nil nums of ok one_start open_bytes open_row out own own_ ownsRow_below ownsRow_keeps plan planC planOkB podA podCs podCs_at podCs_len podCs_set podRow put recs_start refl results_two_cells ret_bool rise_len row row_apart row_block rowsOf rt same set setRow shapes sizesB slv snapA snapA_le snapB snapB_le snapL snapM snapM_le snapP snapP_le snapV snapV_le snap_run snap_write specStateOk_any st stC stOkB stOkB_iff start step store_plan store_state take take_at trans two upTo upTo_le upTo_next upTo_zero writeB -/
end Go.Proofs.YtdkmhaghnfhajaaGreatDoor
