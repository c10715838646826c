/-
  What FnBoots and FnProbes ask, as data; the model's DownIn of a machine that is down.
-/
import Derived.Test.YtgaafcapjokecaaGreatMZ12
import Derived.Test.YtgaafcapjokecaaGreatMZ4
import Derived.Test.YtgaafcapjokecaaGreatMZxWl
import Derived.Test.YtgaafcapjokecaaGreatMZ11
import Derived.Test.YtgaafcapjokecaaGreatMZ7
import Derived.Test.YtgaafcapjokecaaGreatMZxWj
/- Tt -/
set_option linter.unusedVariables false
namespace Go.Proofs.YtgaafcapjokecaaGreat
open Go.RowKit

end Go.Proofs.YtgaafcapjokecaaGreat
/- Op -/
set_option linter.unusedVariables false
namespace Go.Proofs.YtgaafcapjokecaaGreat
open Go.RowKit

/-- A probe of one that is coming back: let in by the last of so many good ones, one after the other; failed by the last try; or it goes on. -/
theorem probe_good {d : PlanD} {x : StD} {n run : Int} {good : Bool} (h : StOk d x) (hp : x.ph = 6 ∨ x.ph = 7) (hpr : x.pr + 1 = n) (hgd : x.gd = run) (hrun : run < d.p) (hn : n ≤ d.t) :
    ∃ y l, (if stOkB d x then probeD d x good else noR 1) = (l, 0) ∧ appliedL d x l = (y, true) ∧ StOk d y ∧
      ((if good then run + 1 else 0) = d.p ∧ y.ph = 0 ∧ y.co = false ∨ (if good then run + 1 else 0) < d.p ∧ n = d.t ∧ y.ph = 8 ∧ y.co = true ∨
        (if good then run + 1 else 0) < d.p ∧ n < d.t ∧ y.ph = 7 ∧ y.co = true ∧ y.gd = (if good then run + 1 else 0) ∧ y.pr = n) := by
  obtain ⟨y, hy, hk, hc⟩ := probe_next (good := good) h hp (by omega)
  have hpp := planOk_tries h.plan
  have e : probeN x good = if good then run + 1 else 0 := by rw [probeN, hgd]
  rw [e] at hc
  refine ⟨y, probeL d x good, by rw [if_pos (stOkB_iff.2 h), probeD, if_pos hp], by rw [appliedL, if_pos (stOkB_iff.2 h), hy], hk, ?_⟩
  generalize hr : (if good then run + 1 else 0) = r at hc ⊢
  have hr1 : r ≤ d.p := by
    rw [← hr]
    split <;> omega
  rcases hc with ⟨c1, c2, c3⟩ | ⟨c1, c2, c3, c4⟩ | ⟨c1, c2, c3, c4, c5, c6⟩
  · exact .inl ⟨by omega, c2, c3⟩
  · exact .inr (.inl ⟨c1, by omega, c3, c4⟩)
  · exact .inr (.inr ⟨c1, by omega, c3, c4, c5, by omega⟩)
/-- A new machine that boots: applied, and it is coming back. -/
theorem boot_new {d : PlanD} (hok : planOkB d = true) : ∃ l x, (if stOkB d (newS d) then bootD d (newS d) 5 else noR 1) = (l, 0) ∧ appliedL d (newS d) l = (x, true) ∧ StOk d x ∧ x.ph = 6 ∧ x.gd = 0 ∧ x.pr = 0 := by
  have h := newS_ok hok
  refine ⟨bootL d (newS d) 5, bootS d (newS d) 5, ?_, by rw [appliedL, if_pos (stOkB_iff.2 h), boot_run h (by decide)], boot_ok h (by decide), ?_⟩
  · rw [if_pos (stOkB_iff.2 h), bootD, if_pos (by decide), if_neg (show ¬ (5 : Int) = (newS d).bo from by rw [newS, if_pos hok]; show ¬ (5 : Int) = 0; decide)]
  · have := boot_begin (d := d) (s := newS d) (id := 5) (by rw [newS, if_pos hok]; show ¬ (0 : Int) = 8; decide)
    exact ⟨this.1, this.2.2.1, this.2.2.2⟩

end Go.Proofs.YtgaafcapjokecaaGreat
