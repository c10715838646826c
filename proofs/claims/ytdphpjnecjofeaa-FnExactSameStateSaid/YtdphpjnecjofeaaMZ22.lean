/-
  What chapter 14 rests on (a stub).
-/
import Derived.Test.YtdphpjnecjofeaaMZ0
import Derived.Lib.Hide
import Derived.Test.YtdphpjnecjofeaaMZxWm
import Derived.Deep.RegionHeld3
import Derived.Test.YtdphpjnecjofeaaMZ4
import Derived.Test.YtdphpjnecjofeaaMZ3
import Derived.Test.YtdphpjnecjofeaaMZ14
import Derived.Test.YtdphpjnecjofeaaMZ1
import Derived.Test.YtdphpjnecjofeaaMZ2
import Derived.Test.YtdphpjnecjofeaaMZxVx
/- Lw -/
set_option linter.unusedVariables false
namespace Go.Proofs.Ytdphpjnecjofeaa
open Go.RowKit

end Go.Proofs.Ytdphpjnecjofeaa
/- Wn -/
set_option linter.unusedVariables false
namespace Go.Proofs.Ytdphpjnecjofeaa
open Go.RowKit

end Go.Proofs.Ytdphpjnecjofeaa
/- Wo -/
set_option linter.unusedVariables false
namespace Go.Proofs.Ytdphpjnecjofeaa
open Go.RowKit

/-- Some records, just built, appended. -/
theorem append_news {w : World} {ops : Array Oper} {rest : List Oper} {o : Oper} {a : Act} {Q : Exit → Act → World → Prop} {B g m : Nat} {v : Value} {l : List RecD} {cs : Array Value} (l2 : List RecD) (s x : Operand) (hgd : o.guard = none)
    (ho : o.op = .call { callee := .builtin .append, args := #[s, x], argTypes := #[35, 35] }) (hs : a.eval s = v) (O : OR w B v l) (hg : w.heap.size = g) (hx : a.eval x = .slice (some ⟨g, 0, none⟩) m m) (hm : l2.length = m) (hcs : cs.toList = recVs l2) (hlen : l.length + m ≤ 1000000) (hB : B ≤ w.heap.size)
    (h : ∀ v' w', OR w' B v' (l ++ l2) → Below B w w' → Keeps (fun b => v.ownBlock = some b) w w' → wpList Try.prog ops Q rest (a.put o.dst v') w') : wpList Try.prog ops Q (o :: rest) a (w.alloc (.cells cs 80)) := by
  subst hg hm
  have hb : Below B w (w.alloc (.cells cs 80)) := (Below.refl _ _).alloc hB _
  refine append_recs (l2 := l2) (B2 := w.heap.size + 1) s x hgd ho hs (O.below ((Below.refl _ _).alloc (Nat.le_refl _) _)) hx (fun e => by cases e) ⟨recVs_len _, fun hn => ⟨w.heap.size, 0, rfl, by omega, fun j hj => ?_⟩⟩ hlen (Nat.le_trans hB hb.size) ?_
  · rw [Nat.zero_add, cell_new, ← hcs, Array.getElem?_toList]
  · intro v' w' O' hb' hk'
    exact h v' w' O' (hb.trans hb') ((Keeps.of_below ((Below.refl _ _).alloc (Nat.le_refl _) _)).trans hk')
/-- At a step of a region that draws: some records, just built, appended. -/
theorem step_append_cells {w : World} {ops : Array Oper} {o : Oper} {a : Act} {K : Act → World → Prop} {Q : Exit → Act → World → Prop} {E : Prop} {B g m : Nat} {v : Value} {l : List RecD} (l2 : List RecD) (s x : Operand) (hgd : o.guard = none)
    (ho : o.op = .call { callee := .builtin .append, args := #[s, x], argTypes := #[35, 35] }) (hs : a.eval s = v) (O : OR w B v l) (hx : a.eval x = .slice (some ⟨g, 0, none⟩) m m) (hm : l2.length = m)
    (hN : ∀ j, w.cell? ⟨g, j, none⟩ = (recVs l2)[j]?) (hlen : l.length + m ≤ 1000000) (hB : B ≤ w.heap.size)
    (h : ∀ v' w', OR w' B v' (l ++ l2) → Below B w w' → K (a.put o.dst v') w') : if Region.wanted o (yielded ops a.tmps) = true then Oper.wp Try.prog o a w K Q else E := by
  have hw : Region.wanted o (yielded ops a.tmps) = true := by simp [Region.wanted, hgd]
  rw [if_pos hw]
  subst hm
  obtain ⟨i0, hi, hz0, hz1, hz2⟩ := info_parts info_rec
  refine wp_append_own w s x 35 ho B 80 i0 (.agg #[.int .i64 0, .int .i64 0, .int .i64 0]) 3 24 Try.underlying35 hi hz0 hz1 hz2 rfl (by decide) v l.length (recVs l) hs O ⟨g, 0, none⟩ l2.length l2.length (recVs l2) hx (recVs_len l2) ?_ (SlV.one_cell_recs l2) (by unfold maxLen; omega) (by omega) hB ?_
  · intro j u hu
    have ha : (⟨g, 0, none⟩ : Addr).add j = ⟨g, j, none⟩ := by unfold Addr.add; split <;> simp_all
    rw [ha, hN j, hu]
  · intro v' w' hown hg _
    refine h v' w' ?_ ((Below.refl _ _).grown hg hB fun r hr => (O.lt hr).1)
    unfold OR
    rw [List.length_append, recVs_append]
    exact hown
theorem world_from {P : Program} {ops : Array Oper} {o : Oper} {a : Act} {K : Act → World → Prop} {Q : Exit → Act → World → Prop} {W : World} (R : World → Prop) (h : R W)
    (k : ∀ W', R W' → if Region.wanted o (yielded ops a.tmps) = true then Oper.wp P o a W' K Q else K (a.put o.dst undef) W') : if Region.wanted o (yielded ops a.tmps) = true then Oper.wp P o a W K Q else K (a.put o.dst undef) W := k W h
def upTo (n : Nat) (f : Nat → List RecD) : List RecD := (List.range n).flatMap f
theorem upTo_zero (f : Nat → List RecD) : upTo 0 f = [] := rfl
theorem upTo_next (n : Nat) (f : Nat → List RecD) : upTo (n + 1) f = upTo n f ++ f n := by
  unfold upTo
  rw [List.range_succ, List.flatMap_append]
  simp
theorem upTo_le {n m : Nat} {f : Nat → List RecD} (h : ∀ i, (f i).length ≤ m) : (upTo n f).length ≤ n * m := by
  induction n with
  | zero => simp [upTo]
  | succ n ih =>
    rw [upTo_next, List.length_append, Nat.succ_mul]
    have := h n
    omega
def snapP (s : StD) (i : Nat) : List RecD := if (podA s.pods i).1 = 0 ∧ (podA s.pods i).2 = 0 then [] else [⟨8, (podA s.pods i).2, 0⟩, ⟨2, i, (podA s.pods i).1⟩]
def snapM (s : StD) (i : Nat) : List RecD := (if (mntA s.mnts i).1 then [] else [⟨4, i, 0⟩]) ++ (if (mntA s.mnts i).2 = 0 then [] else [⟨3, i, (mntA s.mnts i).2⟩])
def snapV (s : StD) (i : Nat) : List RecD := if devA s.devs i then [] else [⟨5, i, 0⟩]
def snapA (s : StD) : List RecD := if s.ph = 0 then [] else [⟨1, s.ph, 0⟩]
def snapB (s : StD) : List RecD := if s.bo = 0 then [] else [⟨10, s.bo, 0⟩]
theorem snapA_le (s : StD) : (snapA s).length ≤ 1 := by unfold snapA; split <;> simp
theorem snapB_le (s : StD) : (snapB s).length ≤ 1 := by unfold snapB; split <;> simp
/-- Chapter 14: the records that make a state. -/
def snapL (s : StD) : List RecD :=
  (snapA s ++ snapB s) ++ (upTo s.pods.length (snapP s) ++ ([⟨8, s.ck, 0⟩] ++ (upTo s.mnts.length (snapM s) ++ (upTo s.devs.length (snapV s) ++
    (s.lks.map (fun x => (⟨6, x, 0⟩ : RecD)) ++ [⟨9, s.ba, 0⟩, ⟨11, s.lb, 0⟩, ⟨12, s.gd, s.pr⟩])))))
theorem snapP_le (s : StD) (i : Nat) : (snapP s i).length ≤ 2 := by unfold snapP; split <;> simp
theorem snapM_le (s : StD) (i : Nat) : (snapM s i).length ≤ 2 := by
  unfold snapM
  rw [List.length_append]
  have h1 : (if (mntA s.mnts i).1 then ([] : List RecD) else [⟨4, i, 0⟩]).length ≤ 1 := by split <;> simp
  have h2 : (if (mntA s.mnts i).2 = 0 then ([] : List RecD) else [⟨3, i, (mntA s.mnts i).2⟩]).length ≤ 1 := by split <;> simp
  omega
theorem snapV_le (s : StD) (i : Nat) : (snapV s i).length ≤ 1 := by unfold snapV; split <;> simp
theorem one_start (w : World) (cs : Array Value) (t : TypeId) : Own w ((w.alloc (.cells cs t)).alloc (.cells #[] 80)) w.heap.size cs ∧ OR ((w.alloc (.cells cs t)).alloc (.cells #[] 80)) (w.heap.size + 1) (.slice (some ⟨w.heap.size + 1, 0, none⟩) 0 0) [] := by
  have X0 := Own.box w cs t
  have O1 : OR _ (w.heap.size + 1) _ [] := OR.empty (w := w.alloc (.cells cs t)) X0.z
  have e : (w.alloc (.cells cs t)).heap.size = w.heap.size + 1 := by simp
  rw [e] at O1
  exact ⟨X0.step ((Below.refl _ _).alloc (Nat.le_refl _) _), O1⟩

set_option maxRecDepth 4000 in
set_option maxHeartbeats 16000000 in
theorem l14Snap_any (sv : Value) (s : StD) (w : World) (hs : IsSt w w.heap.size sv s) (hsz : s.pods.length ≤ 12 ∧ s.mnts.length ≤ 12 ∧ s.devs.length ≤ 12 ∧ s.lks.length ≤ 12) :
    Calls Try.prog 48 #[sv] w fun e w' => ∃ v, e = .returned v ∧ OR w' w.heap.size v (snapL s) ∧ Below w.heap.size w w' := by
  obtain ⟨⟨A0, A1, A2, A3, c0, c1, c2, c3, rfl, t0, t1, t2, t3⟩, f0, f1, f2, f3⟩ := hs
  have R0 := Lib.hid t0
  have R1 := Lib.hid t1
  have R2 := Lib.hid t2
  have R3 := Lib.hid t3
  have HSZ := Lib.hid hsz
  unfold maxLen at f0 f1 f2 f3
  clear t0 t1 t2 t3 hsz
  obtain ⟨ans, hans⟩ : ∃ ans, snapL s = ans := ⟨_, rfl⟩
  rw [hans]
  have HANS := Lib.hid hans
  clear hans
  have HA : Hid (ans = (snapA s ++ snapB s) ++ (upTo s.pods.length (snapP s) ++ ([⟨8, s.ck, 0⟩] ++ (upTo s.mnts.length (snapM s) ++ (upTo s.devs.length (snapV s) ++ (s.lks.map (fun x => (⟨6, x, 0⟩ : RecD)) ++ [⟨9, s.ba, 0⟩, ⟨11, s.lb, 0⟩, ⟨12, s.gd, s.pr⟩])))))) := Lib.hid HANS.out.symm
  obtain ⟨X0, O0⟩ := one_start w (stC A0 A1 A2 A3 s.pods.length c0 s.mnts.length c1 s.devs.length c2 s.lks.length c3 s.ph s.co s.ck s.bo s.ba s.lb s.gd s.pr) 46
  go_enter Try.func48, Try.ntmps48
  go_upto_region 2 with fail
  generalize (w.alloc (.cells (stC A0 A1 A2 A3 s.pods.length c0 s.mnts.length c1 s.devs.length c2 s.lks.length c3 s.ph s.co s.ck s.bo s.ba s.lb s.gd s.pr) 46)).alloc (.cells #[] 80) = w1 at X0 O0 ⊢
  have HO0 := Lib.hid O0
  have hC := X0.C
  clear O0 HANS
  go_upto_if 11 with fail
  go_cut [3] from 11 to 17 (fun v3 wx => Hid (OR wx (w.heap.size + 1) v3 (snapA s)) ∧ Own w wx w.heap.size (stC A0 A1 A2 A3 s.pods.length c0 s.mnts.length c1 s.devs.length c2 s.lks.length c3 s.ph s.co s.ck s.bo s.ba s.lb s.gd s.pr))
  case first =>
    have hO := HO0.out.len
    by_cases hp : s.ph = 0
    · have hb0 : (s.ph != 0) = false := by simp [hp]
      have HPH : Hid (snapA s = []) := Lib.hid (if_pos hp)
      clear hp
      go_wp2_with fail
      go_meet
      exact ⟨Lib.hid (by rw [HPH.out]; exact HO0.out), X0⟩
    · have hb0 : (s.ph != 0) = true := by simp [hp]
      have HPH : Hid (snapA s = [⟨1, s.ph, 0⟩]) := Lib.hid (if_neg hp)
      clear hp
      go_wp2_with (at_builtin; refine append_rec 1 s.ph 0 _ _ rfl rfl rfl HO0.out rfl rfl (by simp) X0.z ?_; rintro v' w' O' hb' -)
      go_meet
      exact ⟨Lib.hid (by rw [HPH.out]; simpa using O'), X0.low hb' (by omega) (by omega)⟩
  case rest =>
    obtain ⟨HO, X⟩ := hcut
    clear X0 HO0 hC
    have hC := X.C
    go_upto_if 20 with fail
    go_cut [3] from 20 to 26 (fun v3 wx => Hid (OR wx (w.heap.size + 1) v3 (snapA s ++ snapB s)) ∧ Own w wx w.heap.size (stC A0 A1 A2 A3 s.pods.length c0 s.mnts.length c1 s.devs.length c2 s.lks.length c3 s.ph s.co s.ck s.bo s.ba s.lb s.gd s.pr))
    case first =>
      have hle := snapA_le s
      by_cases hp : s.bo = 0
      · have hb0 : (s.bo != 0) = false := by simp [hp]
        have HPH : Hid (snapB s = []) := Lib.hid (if_pos hp)
        clear hp
        go_wp2_with fail
        go_meet
        exact ⟨Lib.hid (by rw [HPH.out, List.append_nil]; exact HO.out), X⟩
      · have hb0 : (s.bo != 0) = true := by simp [hp]
        have HPH : Hid (snapB s = [⟨10, s.bo, 0⟩]) := Lib.hid (if_neg hp)
        clear hp
        go_wp2_with (at_builtin; refine append_rec 10 s.bo 0 _ _ rfl rfl rfl HO.out rfl rfl (by omega) X.z ?_; rintro v' w' O' hb' -)
        go_meet
        exact ⟨Lib.hid (by rw [HPH.out]; exact O'), X.low hb' (by omega) (by omega)⟩
    case rest =>
    obtain ⟨HO2_, X2_⟩ := hcut
    clear X HO hC
    have X := X2_
    have HO := HO2_
    clear X2_ HO2_
    have hC := X.C
    have HL : Hid ((snapA s ++ snapB s).length ≤ 2) := Lib.hid (by have := snapA_le s; have := snapB_le s; rw [List.length_append]; omega)
    generalize hR : snapA s ++ snapB s = q0_ at HA HL HO
    clear hR
    have HA0 := HA
    have HL0 := HL
    clear HA HL
    go_wp2_with fail
    go_loopw [3, 4] (fun v j wr => ∃ k : Nat, k ≤ s.pods.length ∧ j = .int .i64 k ∧ Hid (OR wr (w.heap.size + 1) v (q0_ ++ upTo k (snapP s))) ∧ Own w wr w.heap.size (stC A0 A1 A2 A3 s.pods.length c0 s.mnts.length c1 s.devs.length c2 s.lks.length c3 s.ph s.co s.ck s.bo s.ba s.lb s.gd s.pr)) (fun _ j _ => s.pods.length - (intOf j).toNat)
    case atStart => exact ⟨0, Nat.zero_le _, rfl, Lib.hid (by first | (rw [upTo_zero, List.append_nil]; exact HO.out) | (rw [List.take_zero, List.map_nil, List.append_nil]; exact HO.out)), X⟩
    case round =>
      clear HO X hC
      obtain ⟨k, hk, rfl, HO, X⟩ := hrel
      have hC := X.C
      by_cases hlt : k < s.pods.length
      · obtain ⟨b', off', rfl, hb', hc⟩ := (R0.out.below X.K (Nat.le_refl _)).cell hlt
        have p0 := (hc 0 (by decide)).trans (podCs_at s.pods (i := k) hlt).1
        have p1 := (hc 1 (by decide)).trans (podCs_at s.pods (i := k) hlt).2
        rw [Nat.add_zero] at p0
        clear hc
        have HN1 : Hid (q0_ ++ upTo (k + 1) (snapP s) = (q0_ ++ upTo k (snapP s)) ++ (if (podA s.pods k).1 = 0 ∧ (podA s.pods k).2 = 0 then [] else [⟨8, (podA s.pods k).2, 0⟩, ⟨2, k, (podA s.pods k).1⟩])) := Lib.hid (by rw [upTo_next, List.append_assoc]; rfl)
        have HLE : Hid ((q0_ ++ upTo k (snapP s)).length ≤ 26) := Lib.hid (by have := upTo_le (n := k) (snapP_le s); have := HL0.out; have := HSZ.out; rw [List.length_append]; omega)
        generalize podA s.pods k = q at p0 p1 HN1
        obtain ⟨x, y⟩ := q
        dsimp only at p0 p1 HN1
        generalize hR : q0_ ++ upTo k (snapP s) = done at HN1 HLE HO
        clear hR
        by_cases hx : x = 0
        · subst hx
          by_cases hy : y = 0
          · subst hy
            go_wp2
            refine ⟨⟨k + 1, by omega, by go_num, Lib.hid (by rw [HN1.out]; simpa using HO.out), X⟩, by simp [intOf]; omega⟩
          · have HY := Lib.hid hy
            go_wp2_with fail
            have hbw : b' < wr.heap.size := Nat.lt_of_lt_of_le hb' X.K.size
            have S0 : (∀ o, wr.cell? ⟨w.heap.size, o, none⟩ = (stC (some ⟨b', off', none⟩) A1 A2 A3 s.pods.length c0 s.mnts.length c1 s.devs.length c2 s.lks.length c3 s.ph s.co s.ck s.bo s.ba s.lb s.gd s.pr)[o]?) ∧ wr.cell? ⟨b', off' + k * 2, none⟩ = some (.int .i64 0) ∧ wr.cell? ⟨b', off' + k * 2 + 1, none⟩ = some (.int .i64 y) := ⟨X.C, p0, p1⟩
            go_region_held3 (fun W => (∀ o, W.cell? ⟨w.heap.size, o, none⟩ = (stC (some ⟨b', off', none⟩) A1 A2 A3 s.pods.length c0 s.mnts.length c1 s.devs.length c2 s.lks.length c3 s.ph s.co s.ck s.bo s.ba s.lb s.gd s.pr)[o]?) ∧ W.cell? ⟨b', off' + k * 2, none⟩ = some (.int .i64 0) ∧ W.cell? ⟨b', off' + k * 2 + 1, none⟩ = some (.int .i64 y))
              (first | (with_reducible exact S9) | (with_reducible exact ⟨fun o => (Below.cell (p := ⟨w.heap.size, o, none⟩) ((Below.refl _ _).drew) X.z).trans (X.C o), (Below.cell (p := ⟨b', off' + k * 2, none⟩) ((Below.refl _ _).drew) hbw).trans p0, (Below.cell (p := ⟨b', off' + k * 2 + 1, none⟩) ((Below.refl _ _).drew) hbw).trans p1⟩) | (with_reducible exact ⟨fun o => (Below.cell (p := ⟨w.heap.size, o, none⟩) (((Below.refl _ _).alloc (Nat.le_refl _) (.cells #[.int .i64 8, .int .i64 y, .int .i64 0, .int .i64 2, .int .i64 k, .int .i64 0] 80)).drew) X.z).trans (X.C o), (Below.cell (p := ⟨b', off' + k * 2, none⟩) (((Below.refl _ _).alloc (Nat.le_refl _) (.cells #[.int .i64 8, .int .i64 y, .int .i64 0, .int .i64 2, .int .i64 k, .int .i64 0] 80)).drew) hbw).trans p0, (Below.cell (p := ⟨b', off' + k * 2 + 1, none⟩) (((Below.refl _ _).alloc (Nat.le_refl _) (.cells #[.int .i64 8, .int .i64 y, .int .i64 0, .int .i64 2, .int .i64 k, .int .i64 0] 80)).drew) hbw).trans p1⟩) | (with_reducible exact ⟨fun o => (Below.cell (p := ⟨w.heap.size, o, none⟩) ((Below.refl _ _).drew.alloc (Nat.le_refl _) (.cells #[.int .i64 8, .int .i64 y, .int .i64 0, .int .i64 2, .int .i64 k, .int .i64 0] 80)) X.z).trans (X.C o), (Below.cell (p := ⟨b', off' + k * 2, none⟩) ((Below.refl _ _).drew.alloc (Nat.le_refl _) (.cells #[.int .i64 8, .int .i64 y, .int .i64 0, .int .i64 2, .int .i64 k, .int .i64 0] 80)) hbw).trans p0, (Below.cell (p := ⟨b', off' + k * 2 + 1, none⟩) ((Below.refl _ _).drew.alloc (Nat.le_refl _) (.cells #[.int .i64 8, .int .i64 y, .int .i64 0, .int .i64 2, .int .i64 k, .int .i64 0] 80)) hbw).trans p1⟩))
              (((first
                | (with_reducible refine world_from (fun W' => Below wr.heap.size wr W' ∧ ∀ o, W'.cell? ⟨wr.heap.size, o, none⟩ = (#[.int .i64 8, .int .i64 y, .int .i64 0, .int .i64 2, .int .i64 k, .int .i64 0] : Array Value)[o]?) ⟨((Below.refl _ _).alloc (Nat.le_refl _) (.cells #[.int .i64 8, .int .i64 y, .int .i64 0, .int .i64 2, .int .i64 k, .int .i64 0] 80)).drew, fun o => (Below.cell (B := (wr.alloc (.cells #[.int .i64 8, .int .i64 y, .int .i64 0, .int .i64 2, .int .i64 k, .int .i64 0] 80)).heap.size) (p := ⟨wr.heap.size, o, none⟩) (Below.refl _ _).drew (by simp)).trans (cell_new wr #[.int .i64 8, .int .i64 y, .int .i64 0, .int .i64 2, .int .i64 k, .int .i64 0] 80 o)⟩ ?_)
                | (with_reducible refine world_from (fun W' => Below wr.heap.size wr W' ∧ ∀ o, W'.cell? ⟨wr.heap.size, o, none⟩ = (#[.int .i64 8, .int .i64 y, .int .i64 0, .int .i64 2, .int .i64 k, .int .i64 0] : Array Value)[o]?) ⟨(Below.refl _ _).drew.alloc (Nat.le_refl _) (.cells #[.int .i64 8, .int .i64 y, .int .i64 0, .int .i64 2, .int .i64 k, .int .i64 0] 80), fun o => cell_new wr.drew #[.int .i64 8, .int .i64 y, .int .i64 0, .int .i64 2, .int .i64 k, .int .i64 0] 80 o⟩ ?_)); rintro W' ⟨hW, hN⟩; refine step_append_cells [⟨8, y, 0⟩, ⟨2, k, 0⟩] _ _ rfl rfl rfl (HO.out.below hW) rfl rfl (by intro j; rw [hN j, ← Array.getElem?_toList]; rfl) (by have := HLE.out; omega) (Nat.le_trans X.z hW.size) ?_; intro v' w' O' hb1; have hb9 : Below (w.heap.size + 1) wr w' := (hW.mono X.z).trans hb1; have X9 := X.low hb9 (by omega) (by omega); have S9 : (∀ o, w'.cell? ⟨w.heap.size, o, none⟩ = (stC (some ⟨b', off', none⟩) A1 A2 A3 s.pods.length c0 s.mnts.length c1 s.devs.length c2 s.lks.length c3 s.ph s.co s.ck s.bo s.ba s.lb s.gd s.pr)[o]?) ∧ w'.cell? ⟨b', off' + k * 2, none⟩ = some (.int .i64 0) ∧ w'.cell? ⟨b', off' + k * 2 + 1, none⟩ = some (.int .i64 y) := ⟨X9.C, (hb9.cell (p := ⟨b', off' + k * 2, none⟩) (by show b' < w.heap.size + 1; omega)).trans p0, (hb9.cell (p := ⟨b', off' + k * 2 + 1, none⟩) (by show b' < w.heap.size + 1; omega)).trans p1⟩; clear hW hN hb1))
            go_wp2_with fail
            refine ⟨⟨k + 1, by omega, by go_num, Lib.hid (by rw [HN1.out, if_neg (fun h => HY.out h.2)]; exact O'), X9⟩, by simp [intOf]; omega⟩
        · have HX := Lib.hid hx
          go_wp2_with fail
          have hbw : b' < wr.heap.size := Nat.lt_of_lt_of_le hb' X.K.size
          have S0 : (∀ o, wr.cell? ⟨w.heap.size, o, none⟩ = (stC (some ⟨b', off', none⟩) A1 A2 A3 s.pods.length c0 s.mnts.length c1 s.devs.length c2 s.lks.length c3 s.ph s.co s.ck s.bo s.ba s.lb s.gd s.pr)[o]?) ∧ wr.cell? ⟨b', off' + k * 2, none⟩ = some (.int .i64 x) ∧ wr.cell? ⟨b', off' + k * 2 + 1, none⟩ = some (.int .i64 y) := ⟨X.C, p0, p1⟩
          go_region_held3 (fun W => (∀ o, W.cell? ⟨w.heap.size, o, none⟩ = (stC (some ⟨b', off', none⟩) A1 A2 A3 s.pods.length c0 s.mnts.length c1 s.devs.length c2 s.lks.length c3 s.ph s.co s.ck s.bo s.ba s.lb s.gd s.pr)[o]?) ∧ W.cell? ⟨b', off' + k * 2, none⟩ = some (.int .i64 x) ∧ W.cell? ⟨b', off' + k * 2 + 1, none⟩ = some (.int .i64 y))
            (first | (with_reducible exact S9) | (with_reducible exact ⟨fun o => (Below.cell (p := ⟨w.heap.size, o, none⟩) ((Below.refl _ _).drew) X.z).trans (X.C o), (Below.cell (p := ⟨b', off' + k * 2, none⟩) ((Below.refl _ _).drew) hbw).trans p0, (Below.cell (p := ⟨b', off' + k * 2 + 1, none⟩) ((Below.refl _ _).drew) hbw).trans p1⟩) | (with_reducible exact ⟨fun o => (Below.cell (p := ⟨w.heap.size, o, none⟩) (((Below.refl _ _).alloc (Nat.le_refl _) (.cells #[.int .i64 8, .int .i64 y, .int .i64 0, .int .i64 2, .int .i64 k, .int .i64 x] 80)).drew) X.z).trans (X.C o), (Below.cell (p := ⟨b', off' + k * 2, none⟩) (((Below.refl _ _).alloc (Nat.le_refl _) (.cells #[.int .i64 8, .int .i64 y, .int .i64 0, .int .i64 2, .int .i64 k, .int .i64 x] 80)).drew) hbw).trans p0, (Below.cell (p := ⟨b', off' + k * 2 + 1, none⟩) (((Below.refl _ _).alloc (Nat.le_refl _) (.cells #[.int .i64 8, .int .i64 y, .int .i64 0, .int .i64 2, .int .i64 k, .int .i64 x] 80)).drew) hbw).trans p1⟩) | (with_reducible exact ⟨fun o => (Below.cell (p := ⟨w.heap.size, o, none⟩) ((Below.refl _ _).drew.alloc (Nat.le_refl _) (.cells #[.int .i64 8, .int .i64 y, .int .i64 0, .int .i64 2, .int .i64 k, .int .i64 x] 80)) X.z).trans (X.C o), (Below.cell (p := ⟨b', off' + k * 2, none⟩) ((Below.refl _ _).drew.alloc (Nat.le_refl _) (.cells #[.int .i64 8, .int .i64 y, .int .i64 0, .int .i64 2, .int .i64 k, .int .i64 x] 80)) hbw).trans p0, (Below.cell (p := ⟨b', off' + k * 2 + 1, none⟩) ((Below.refl _ _).drew.alloc (Nat.le_refl _) (.cells #[.int .i64 8, .int .i64 y, .int .i64 0, .int .i64 2, .int .i64 k, .int .i64 x] 80)) hbw).trans p1⟩))
            (((first
              | (with_reducible refine world_from (fun W' => Below wr.heap.size wr W' ∧ ∀ o, W'.cell? ⟨wr.heap.size, o, none⟩ = (#[.int .i64 8, .int .i64 y, .int .i64 0, .int .i64 2, .int .i64 k, .int .i64 x] : Array Value)[o]?) ⟨((Below.refl _ _).alloc (Nat.le_refl _) (.cells #[.int .i64 8, .int .i64 y, .int .i64 0, .int .i64 2, .int .i64 k, .int .i64 x] 80)).drew, fun o => (Below.cell (B := (wr.alloc (.cells #[.int .i64 8, .int .i64 y, .int .i64 0, .int .i64 2, .int .i64 k, .int .i64 x] 80)).heap.size) (p := ⟨wr.heap.size, o, none⟩) (Below.refl _ _).drew (by simp)).trans (cell_new wr #[.int .i64 8, .int .i64 y, .int .i64 0, .int .i64 2, .int .i64 k, .int .i64 x] 80 o)⟩ ?_)
              | (with_reducible refine world_from (fun W' => Below wr.heap.size wr W' ∧ ∀ o, W'.cell? ⟨wr.heap.size, o, none⟩ = (#[.int .i64 8, .int .i64 y, .int .i64 0, .int .i64 2, .int .i64 k, .int .i64 x] : Array Value)[o]?) ⟨(Below.refl _ _).drew.alloc (Nat.le_refl _) (.cells #[.int .i64 8, .int .i64 y, .int .i64 0, .int .i64 2, .int .i64 k, .int .i64 x] 80), fun o => cell_new wr.drew #[.int .i64 8, .int .i64 y, .int .i64 0, .int .i64 2, .int .i64 k, .int .i64 x] 80 o⟩ ?_)); rintro W' ⟨hW, hN⟩; refine step_append_cells [⟨8, y, 0⟩, ⟨2, k, x⟩] _ _ rfl rfl rfl (HO.out.below hW) rfl rfl (by intro j; rw [hN j, ← Array.getElem?_toList]; rfl) (by have := HLE.out; omega) (Nat.le_trans X.z hW.size) ?_; intro v' w' O' hb1; have hb9 : Below (w.heap.size + 1) wr w' := (hW.mono X.z).trans hb1; have X9 := X.low hb9 (by omega) (by omega); have S9 : (∀ o, w'.cell? ⟨w.heap.size, o, none⟩ = (stC (some ⟨b', off', none⟩) A1 A2 A3 s.pods.length c0 s.mnts.length c1 s.devs.length c2 s.lks.length c3 s.ph s.co s.ck s.bo s.ba s.lb s.gd s.pr)[o]?) ∧ w'.cell? ⟨b', off' + k * 2, none⟩ = some (.int .i64 x) ∧ w'.cell? ⟨b', off' + k * 2 + 1, none⟩ = some (.int .i64 y) := ⟨X9.C, (hb9.cell (p := ⟨b', off' + k * 2, none⟩) (by show b' < w.heap.size + 1; omega)).trans p0, (hb9.cell (p := ⟨b', off' + k * 2 + 1, none⟩) (by show b' < w.heap.size + 1; omega)).trans p1⟩; clear hW hN hb1))
          go_wp2_with fail
          refine ⟨⟨k + 1, by omega, by go_num, Lib.hid (by rw [HN1.out, if_neg (fun h => HX.out h.1)]; exact O'), X9⟩, by simp [intOf]; omega⟩
      · obtain rfl : k = s.pods.length := by omega
        have HL1 : Hid ((q0_ ++ upTo s.pods.length (snapP s)).length ≤ 26) := Lib.hid (by have := upTo_le (n := s.pods.length) (snapP_le s); have := HL0.out; have := HSZ.out; rw [List.length_append]; omega)
        have HA1 : Hid (ans = (q0_ ++ upTo s.pods.length (snapP s)) ++ ([⟨8, s.ck, 0⟩] ++ (upTo s.mnts.length (snapM s) ++ (upTo s.devs.length (snapV s) ++ (s.lks.map (fun x => (⟨6, x, 0⟩ : RecD)) ++ [⟨9, s.ba, 0⟩, ⟨11, s.lb, 0⟩, ⟨12, s.gd, s.pr⟩]))))) := Lib.hid (by rw [HA0.out, List.append_assoc])
        generalize hR : q0_ ++ upTo s.pods.length (snapP s) = q1_ at HA1 HL1 HO
        clear hR
        go_upto_region 12 with (at_builtin; refine append_rec 8 s.ck 0 _ _ rfl rfl rfl HO.out rfl rfl (by have := HL1.out; omega) X.z ?_; rintro v1 w2 O1 hb1 -)
        have X1 := X.low hb1 (by omega) (by omega)
        have HL2 : Hid ((q1_ ++ [(⟨8, s.ck, 0⟩ : RecD)]).length ≤ 27) := Lib.hid (by have := HL1.out; simp; omega)
        have HA2 : Hid (ans = (q1_ ++ [(⟨8, s.ck, 0⟩ : RecD)]) ++ (upTo s.mnts.length (snapM s) ++ (upTo s.devs.length (snapV s) ++ (s.lks.map (fun x => (⟨6, x, 0⟩ : RecD)) ++ [⟨9, s.ba, 0⟩, ⟨11, s.lb, 0⟩, ⟨12, s.gd, s.pr⟩])))) := Lib.hid (by rw [HA1.out, List.append_assoc])
        generalize hR : q1_ ++ [(⟨8, s.ck, 0⟩ : RecD)] = q2_ at HA2 HL2 O1
        clear hR HO X hC
        have HO := Lib.hid O1
        have X := X1
        have hC := X.C
        clear O1 X1
        go_wp2_with fail
        go_loopw [3, 5] (fun v j wr => ∃ k : Nat, k ≤ s.mnts.length ∧ j = .int .i64 k ∧ Hid (OR wr (w.heap.size + 1) v (q2_ ++ upTo k (snapM s))) ∧ Own w wr w.heap.size (stC A0 A1 A2 A3 s.pods.length c0 s.mnts.length c1 s.devs.length c2 s.lks.length c3 s.ph s.co s.ck s.bo s.ba s.lb s.gd s.pr)) (fun _ j _ => s.mnts.length - (intOf j).toNat)
        case atStart => exact ⟨0, Nat.zero_le _, rfl, Lib.hid (by first | (rw [upTo_zero, List.append_nil]; exact HO.out) | (rw [List.take_zero, List.map_nil, List.append_nil]; exact HO.out)), X⟩
        case round =>
          clear HO X hC
          obtain ⟨k, hk, rfl, HO, X⟩ := hrel
          have hC := X.C
          by_cases hlt : k < s.mnts.length
          · obtain ⟨b', off', rfl, hb', hc⟩ := (R1.out.below X.K (Nat.le_refl _)).cell hlt
            have hbw : b' < wr.heap.size := Nat.lt_of_lt_of_le hb' X.K.size
            have p0 := (hc 0 (by decide)).trans (mntCs_at s.mnts (i := k) hlt).1
            have p1 := (hc 1 (by decide)).trans (mntCs_at s.mnts (i := k) hlt).2
            rw [Nat.add_zero] at p0
            clear hc
            have HN1 : Hid (q2_ ++ upTo (k + 1) (snapM s) = (q2_ ++ upTo k (snapM s)) ++ ((if (mntA s.mnts k).1 then [] else [⟨4, k, 0⟩]) ++ (if (mntA s.mnts k).2 = 0 then [] else [⟨3, k, (mntA s.mnts k).2⟩]))) := Lib.hid (by rw [upTo_next, List.append_assoc]; rfl)
            have HLE : Hid ((q2_ ++ upTo k (snapM s)).length ≤ 51) := Lib.hid (by have := upTo_le (n := k) (snapM_le s); have := HL2.out; have := HSZ.out; rw [List.length_append]; omega)
            generalize mntA s.mnts k = q at p0 p1 HN1
            obtain ⟨x, y⟩ := q
            dsimp only at p0 p1 HN1
            generalize hR : q2_ ++ upTo k (snapM s) = done at HN1 HLE HO
            clear hR
            by_cases hy : y = 0
            · subst hy
              cases x
              · go_wp2_with (at_builtin; refine append_rec 4 k 0 _ _ rfl rfl rfl HO.out rfl rfl (by have := HLE.out; omega) X.z ?_; rintro v' w' O' hb1 -; have X' := X.low hb1 (by omega) (by omega); have hC' := X'.C; have p1' := (hb1.cell (p := ⟨b', off' + k * 2 + 1, none⟩) (by show b' < w.heap.size + 1; omega)).trans p1)
                refine ⟨⟨k + 1, by omega, by go_num, Lib.hid (by rw [HN1.out]; simpa using O'), X'⟩, by simp [intOf]; omega⟩
              · go_wp2
                refine ⟨⟨k + 1, by omega, by go_num, Lib.hid (by rw [HN1.out]; simpa using HO.out), X⟩, by simp [intOf]; omega⟩
            · have HY := Lib.hid hy
              cases x
              · go_wp2_with (first
                  | (at_builtin; refine append_rec 3 k y _ _ rfl rfl rfl O' rfl rfl (by rw [List.length_append]; have := HLE.out; simp; omega) X'.z ?_; rintro v9 w9 O9 hb9 -)
                  | (at_builtin; refine append_rec 4 k 0 _ _ rfl rfl rfl HO.out rfl rfl (by have := HLE.out; omega) X.z ?_; rintro v' w' O' hb1 -; have X' := X.low hb1 (by omega) (by omega); have hC' := X'.C; have p1' := (hb1.cell (p := ⟨b', off' + k * 2 + 1, none⟩) (by show b' < w.heap.size + 1; omega)).trans p1))
                refine ⟨⟨k + 1, by omega, by go_num, Lib.hid (by rw [HN1.out, if_neg HY.out]; simpa [List.append_assoc] using O9), X'.low hb9 (by omega) (by omega)⟩, by simp [intOf]; omega⟩
              · go_wp2_with (at_builtin; refine append_rec 3 k y _ _ rfl rfl rfl HO.out rfl rfl (by have := HLE.out; omega) X.z ?_; rintro v9 w9 O9 hb9 -)
                refine ⟨⟨k + 1, by omega, by go_num, Lib.hid (by rw [HN1.out, if_neg HY.out]; simpa using O9), X.low hb9 (by omega) (by omega)⟩, by simp [intOf]; omega⟩
          · obtain rfl : k = s.mnts.length := by omega
            have HL3 : Hid ((q2_ ++ upTo s.mnts.length (snapM s)).length ≤ 51) := Lib.hid (by have := upTo_le (n := s.mnts.length) (snapM_le s); have := HL2.out; have := HSZ.out; rw [List.length_append]; omega)
            have HA3 : Hid (ans = (q2_ ++ upTo s.mnts.length (snapM s)) ++ (upTo s.devs.length (snapV s) ++ (s.lks.map (fun x => (⟨6, x, 0⟩ : RecD)) ++ [⟨9, s.ba, 0⟩, ⟨11, s.lb, 0⟩, ⟨12, s.gd, s.pr⟩]))) := Lib.hid (by rw [HA2.out, List.append_assoc])
            generalize hR : q2_ ++ upTo s.mnts.length (snapM s) = q3_ at HA3 HL3 HO
            clear hR
            go_wp2_with fail
            go_loopw [3, 6] (fun v j wr => ∃ k : Nat, k ≤ s.devs.length ∧ j = .int .i64 k ∧ Hid (OR wr (w.heap.size + 1) v (q3_ ++ upTo k (snapV s))) ∧ Own w wr w.heap.size (stC A0 A1 A2 A3 s.pods.length c0 s.mnts.length c1 s.devs.length c2 s.lks.length c3 s.ph s.co s.ck s.bo s.ba s.lb s.gd s.pr)) (fun _ j _ => s.devs.length - (intOf j).toNat)
            case atStart => exact ⟨0, Nat.zero_le _, rfl, Lib.hid (by first | (rw [upTo_zero, List.append_nil]; exact HO.out) | (rw [List.take_zero, List.map_nil, List.append_nil]; exact HO.out)), X⟩
            case round =>
              clear HO X hC
              obtain ⟨k, hk, rfl, HO, X⟩ := hrel
              have hC := X.C
              by_cases hlt : k < s.devs.length
              · obtain ⟨b', off', rfl, hb', hc⟩ := (R2.out.below X.K (Nat.le_refl _)).cell hlt
                have p0 := (hc 0 (by decide)).trans (devCs_at s.devs (i := k * 1 + 0) (by omega))
                rw [Nat.add_zero, Nat.mul_one] at p0
                clear hc
                have HN1 : Hid (q3_ ++ upTo (k + 1) (snapV s) = (q3_ ++ upTo k (snapV s)) ++ (if devA s.devs k then [] else [⟨5, k, 0⟩])) := Lib.hid (by rw [upTo_next, List.append_assoc]; rfl)
                have HLE : Hid ((q3_ ++ upTo k (snapV s)).length ≤ 63) := Lib.hid (by have := upTo_le (n := k) (snapV_le s); have := HL3.out; have := HSZ.out; rw [List.length_append]; omega)
                generalize devA s.devs k = x at p0 HN1
                generalize hR : q3_ ++ upTo k (snapV s) = done at HN1 HLE HO
                clear hR
                cases x
                · go_wp2_with (at_builtin; refine append_rec 5 k 0 _ _ rfl rfl rfl HO.out rfl rfl (by have := HLE.out; omega) X.z ?_; rintro v9 w9 O9 hb9 -)
                  refine ⟨⟨k + 1, by omega, by go_num, Lib.hid (by rw [HN1.out]; simpa using O9), X.low hb9 (by omega) (by omega)⟩, by simp [intOf]; omega⟩
                · go_wp2
                  refine ⟨⟨k + 1, by omega, by go_num, Lib.hid (by rw [HN1.out]; simpa using HO.out), X⟩, by simp [intOf]; omega⟩
              · obtain rfl : k = s.devs.length := by omega
                have HL4 : Hid ((q3_ ++ upTo s.devs.length (snapV s)).length ≤ 63) := Lib.hid (by have := upTo_le (n := s.devs.length) (snapV_le s); have := HL3.out; have := HSZ.out; rw [List.length_append]; omega)
                have HA4 : Hid (ans = (q3_ ++ upTo s.devs.length (snapV s)) ++ (s.lks.map (fun x => (⟨6, x, 0⟩ : RecD)) ++ [⟨9, s.ba, 0⟩, ⟨11, s.lb, 0⟩, ⟨12, s.gd, s.pr⟩])) := Lib.hid (by rw [HA3.out, List.append_assoc])
                generalize hR : q3_ ++ upTo s.devs.length (snapV s) = q4_ at HA4 HL4 HO
                clear hR
                go_wp2_with fail
                go_loopw [3, 7] (fun v j wr => ∃ k : Nat, k ≤ s.lks.length ∧ j = .int .i64 k ∧ Hid (OR wr (w.heap.size + 1) v (q4_ ++ (s.lks.take k).map (fun x => (⟨6, x, 0⟩ : RecD)))) ∧ Own w wr w.heap.size (stC A0 A1 A2 A3 s.pods.length c0 s.mnts.length c1 s.devs.length c2 s.lks.length c3 s.ph s.co s.ck s.bo s.ba s.lb s.gd s.pr)) (fun _ j _ => s.lks.length - (intOf j).toNat)
                case atStart => exact ⟨0, Nat.zero_le _, rfl, Lib.hid (by first | (rw [upTo_zero, List.append_nil]; exact HO.out) | (rw [List.take_zero, List.map_nil, List.append_nil]; exact HO.out)), X⟩
                case round =>
                  clear HO X hC
                  obtain ⟨k, hk, rfl, HO, X⟩ := hrel
                  have hC := X.C
                  by_cases hlt : k < s.lks.length
                  · obtain ⟨b', off', rfl, hb', hc⟩ := (R3.out.below X.K (Nat.le_refl _)).cell hlt
                    have p0 := (hc 0 (by decide)).trans (lkCs_at s.lks (i := k * 1 + 0) (by omega))
                    rw [Nat.add_zero, Nat.mul_one] at p0
                    clear hc
                    have HN1 : Hid (q4_ ++ (s.lks.take (k + 1)).map (fun x => (⟨6, x, 0⟩ : RecD)) = (q4_ ++ (s.lks.take k).map (fun x => (⟨6, x, 0⟩ : RecD))) ++ [⟨6, lkA s.lks k, 0⟩]) := Lib.hid (by
                      rw [List.append_assoc, take_at (i := lkA s.lks k) (by rw [List.getElem?_eq_getElem hlt]; simp [lkA, List.getD, List.getElem?_eq_getElem hlt]), List.map_append]
                      rfl)
                    have HLE : Hid ((q4_ ++ (s.lks.take k).map (fun x => (⟨6, x, 0⟩ : RecD))).length ≤ 75) := Lib.hid (by have := HL4.out; have := HSZ.out; rw [List.length_append, List.length_map, List.length_take]; omega)
                    generalize lkA s.lks k = x at p0 HN1
                    generalize hR : q4_ ++ (s.lks.take k).map (fun x => (⟨6, x, 0⟩ : RecD)) = done at HN1 HLE HO
                    clear hR
                    go_wp2_with (at_builtin; refine append_rec 6 x 0 _ _ rfl rfl rfl HO.out rfl rfl (by have := HLE.out; omega) X.z ?_; rintro v9 w9 O9 hb9 -)
                    refine ⟨⟨k + 1, by omega, by go_num, Lib.hid (by rw [HN1.out]; exact O9), X.low hb9 (by omega) (by omega)⟩, by simp [intOf]; omega⟩
                  · obtain rfl : k = s.lks.length := by omega
                    rw [List.take_length] at HO
                    have HL5 : Hid ((q4_ ++ s.lks.map (fun x => (⟨6, x, 0⟩ : RecD))).length ≤ 75) := Lib.hid (by have := HL4.out; have := HSZ.out; rw [List.length_append, List.length_map]; omega)
                    have HA5 : Hid (ans = (q4_ ++ s.lks.map (fun x => (⟨6, x, 0⟩ : RecD))) ++ [⟨9, s.ba, 0⟩, ⟨11, s.lb, 0⟩, ⟨12, s.gd, s.pr⟩]) := Lib.hid (by rw [HA4.out, List.append_assoc])
                    generalize hR : q4_ ++ s.lks.map (fun x => (⟨6, x, 0⟩ : RecD)) = q5_ at HA5 HL5 HO
                    clear hR
                    go_wp2_with (at_builtin; refine append_news [⟨9, s.ba, 0⟩, ⟨11, s.lb, 0⟩, ⟨12, s.gd, s.pr⟩] _ _ rfl rfl rfl HO.out rfl rfl rfl rfl (by have := HL5.out; omega) X.z ?_; rintro v' w' O' hb' -)
                    all_goals (go_ret; exact ⟨_, rfl, by rw [HA5.out]; exact O'.base (by omega), (X.low hb' (by omega) (by omega)).K⟩)

end Go.Proofs.Ytdphpjnecjofeaa
/- Lq -/
set_option linter.unusedVariables false
namespace Go.Proofs.Ytdphpjnecjofeaa
/- named behind this: C IsPlan IsSt OR Own PlanD RecD SlV StD StFits StOk Two alloc append_news append_rec append_recs base below block box box2 cell cntV countersOf_any devA devCs devCs_at drew drewN empty eqPlan_same eqRecS_same eqState_same first getD go heap_size_alloc_ heldRecS_any implStateOk_any into is keeps l14Snap_any laid_ len lkA lkCs lkCs_at low lt m3 markIn_any markPlan_num markRecS_any mntA mntCs mntCs_at mono more newStV nil of one_start open_ open_plan open_state own own_ ownsRow_keeps planC planOkB planV podA podCs podCs_at put recs_start refl rise_len rowsIn rt same sizesB slv snapA snapA_le snapB snapB_le snapL snapM snapM_le snapP snapP_le snapV snapV_le specStateOk_any stC stOkB stOkB_iff start step szP szPlan_any szS szState_any take take_at toPlan_any toState_any totS tot_half trans upTo upTo_le upTo_next upTo_zero -/
end Go.Proofs.Ytdphpjnecjofeaa
