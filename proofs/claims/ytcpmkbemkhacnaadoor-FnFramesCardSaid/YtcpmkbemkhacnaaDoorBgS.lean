/-
  The model's ReadRecs.
-/
import Derived.Test.YtcpmkbemkhacnaaDoorBg
import Derived.Deep.AppendLies
import Derived.StillTailTactics
set_option linter.unusedVariables false
namespace Go.Proofs.YtcpmkbemkhacnaaDoor
open Go.RowKit

theorem info_i64 : (Tryd.prog.info? 2).map (fun i => (i.zero, i.size, i.bytes)) = some (some (.int .i64 0), 1, 8) := by kernel_rfl
def toI (ns : List Nat) : List Int := ns.map fun n : Nat => (n : Int)
theorem toI_len (ns : List Nat) : (toI ns).length = ns.length := by simp [toI]
theorem toI_snoc (ns : List Nat) (n : Nat) : toI (ns ++ [n]) = toI ns ++ [(n : Int)] := by simp [toI]
/-- A row of whole numbers of the call's own. -/
def OL (w : World) (B : Nat) (v : Value) (l : List Int) : Prop := w.ownsRow B 2 1 v l.length (l.map (Value.int .i64))
theorem OL.empty {w : World} {B : Nat} (hB : B ≤ w.heap.size) : OL (w.alloc (.cells #[] 2)) B (.slice (some ⟨w.heap.size, 0, none⟩) 0 0) [] := by
  have := World.ownsRow_made (base := w.heap.size) (e := 2) (size := 1) w #[] 0 (by simp) (Nat.zero_le _) rfl
  exact ownsRow_base (by simpa using this) hB
theorem OL.push {w' : World} {B : Nat} {v' : Value} {l : List Int} (a : Int) (h' : w'.ownsRow B 2 1 v' (l.length + 1) (l.map (Value.int .i64) ++ [.int .i64 a])) : OL w' B v' (l ++ [a]) := by
  unfold OL
  rw [List.length_append, List.map_append]
  exact h'
theorem OL.lt {w : World} {B : Nat} {v : Value} {l : List Int} (h : OL w B v l) {r : Nat} (hr : v.ownBlock = some r) : B ≤ r ∧ r < w.heap.size := World.ownsRow.lt h r hr
theorem OR.push {w' : World} {B : Nat} {v' : Value} {l : List RecD} (r : RecD) (h' : w'.ownsRow B 30 3 v' (l.length + 1) (recVs l ++ [.int .i64 r.k, .int .i64 r.a, .int .i64 r.b])) : OR w' B v' (l ++ [r]) := by
  unfold OR
  rw [List.length_append]
  have : recVs (l ++ [r]) = recVs l ++ [.int .i64 r.k, .int .i64 r.a, .int .i64 r.b] := by simp [recVs, flat]
  rw [this]
  exact h'

theorem num_lt4 {M R : List Nat} {x : Nat} (h : num (128 ^ 4) M = some (x, R)) : x < 268435456 := Nat.lt_of_lt_of_eq (num_some.1 h).2 (by decide)

set_option maxRecDepth 100000 in
set_option maxHeartbeats 4000000 in
theorem specReadRecs_any (v : Value) (L : List Nat) (w : World) (h : Bt w w.heap.size v L) :
    Calls Tryd.prog 39 #[v] w (Read L w) := by
  have H := Lib.hid h
  obtain ⟨⟨A, c, rfl, hcap, -⟩, hl, -⟩ := h
  have hl' : L.length ≤ 2 ^ 63 - 1 := by unfold maxLen at hl; omega
  clear hl
  obtain ⟨i0, hi, hz0, hz1, hz2⟩ := info_parts info_rec
  have HI := Lib.hid hi
  have HZ0 := Lib.hid hz0
  have HZ1 := Lib.hid hz1
  have HZ2 := Lib.hid hz2
  clear hi hz0 hz1 hz2
  obtain ⟨i1, hi, hz0, hz1, hz2⟩ := info_parts info_i64
  have GI := Lib.hid hi
  have GZ0 := Lib.hid hz0
  have GZ1 := Lib.hid hz1
  have GZ2 := Lib.hid hz2
  clear hi hz0 hz1 hz2
  go_enter Tryd.func39, Tryd.ntmps39
  go_wp2_with fail
  have KA := (Below.refl w.heap.size w).alloc (Nat.le_refl _) (.cells #[] 30)
  have OA : OR (w.alloc (.cells #[] 30)) w.heap.size (.slice (some ⟨w.heap.size, 0, none⟩) 0 0) [] := OR.empty (Nat.le_refl _)
  have HA := Lib.hid ((H.out.below KA (Nat.le_refl _)).more KA.size)
  have HKA := Lib.hid KA
  have HOA := Lib.hid OA
  clear KA OA
  refine (get_any _ L 0 _ HA.out (Nat.zero_le _)).mono ?_
  rintro e w1 ⟨rfl, hor⟩
  rw [List.drop_zero] at hor
  rcases hor with ⟨n, p0, rfl, hp0, hnum⟩ | ⟨rfl, hnum⟩
  · have hrd := readN_num (m := 128 ^ 4) (by decide) L
    rw [hnum] at hrd
    have HRD := Lib.hid hrd
    clear hnum hrd
    by_cases h80 : 80 < n
    · have hno : readN L = none := by rw [HRD.out]; simp [h80]
      have HNO := Lib.hid (readN_no hno)
      clear hno
      go_wp2
      go_ret2
      exact ⟨_, ret_two rfl (bool_eq HNO.out.1.symm), by rw [HNO.out.2]; exact HOA.out, HKA.out⟩
    · have hrd : readN L = (getRecs n (L.drop p0)).bind fun q => if q.2 = [] then some q.1 else none := by rw [HRD.out]; simp [h80]
      have HRD := Lib.hid hrd
      clear hrd
      generalize w.alloc (.cells #[] 30) = w1 at HA HKA HOA ⊢
      have hn80 : n ≤ 80 := by omega
      clear h80
      go_wp2_with fail
      go_loopw [5, 6, 7] (fun s5 s6 s7 wr => ∃ (m p : Nat) (done : List RecD), m ≤ n ∧ s5 = .int .i64 m ∧ s6 = .int .i64 p ∧ p ≤ L.length ∧ done.length + m = n ∧ getRecs n (L.drop p0) = (getRecs m (L.drop p)).map (fun q => (done ++ q.1, q.2)) ∧
        OR wr w1.heap.size s7 done ∧ Below w1.heap.size w1 wr) (fun s5 _ _ _ => (intOf s5).toNat)
      case atStart => exact ⟨n, p0, [], Nat.le_refl _, rfl, rfl, hp0, by simp, by simp, OR.empty (Nat.le_refl _), (Below.refl _ _).alloc (Nat.le_refl _) _⟩
      case round =>
        obtain ⟨m, p, done, hm, rfl, rfl, hp, hdl, hget, O, K⟩ := hrel
        have HG := Lib.hid hget
        have HO := Lib.hid O
        have HK := Lib.hid K
        have HDL := Lib.hid hdl
        clear hget O K hdl
        by_cases hpos : 0 < m
        · have HMM : Hid (m = (m - 1) + 1) := Lib.hid (by omega)
          go_wp2_with fail
          have HA2 := Lib.hid ((HA.out.below HK.out (Nat.le_refl _)).more HK.out.size)
          have HN2 : Hid (∀ {x}, (getRec (L.drop p) = none) → x = none → readN L = x) := Lib.hid fun h1 h2 => by
            rw [HRD.out, HG.out, HMM.out, getRecs_succ, h1, h2]; rfl
          have hdm := HDL.out
          go_loopw [6, 8, 9] (fun s6 s8 s9 wr2 => ∃ (k q : Nat) (ns : List Nat), k ≤ 3 ∧ s9 = .int .i64 k ∧ s6 = .int .i64 q ∧ q ≤ L.length ∧ nums (128 ^ 4) k (L.drop p) = some (ns, L.drop q) ∧
            OL wr2 wr.heap.size s8 (toI ns) ∧ Below wr.heap.size wr wr2) (fun _ _ s9 _ => 3 - (intOf s9).toNat)
          case atStart => exact ⟨0, p, [], by omega, rfl, rfl, hp, rfl, OL.empty (Nat.le_refl _), (Below.refl _ _).alloc (Nat.le_refl _) _⟩
          case round =>
            obtain ⟨k, q, ns, hk, rfl, rfl, hq, hns, O2, K2⟩ := hrel
            have HNS := Lib.hid hns
            have hln := nums_len hns
            have HLN := Lib.hid hln
            have HO2 := Lib.hid O2
            have HK2 := Lib.hid K2
            have hbt := Lib.hid ((HA2.out.below K2 (Nat.le_refl _)).more K2.size)
            clear hns hln O2 K2
            by_cases hlt : k < 3
            · go_wp2_with fail
              refine (get_any _ L q _ hbt.out hq).mono ?_
              rintro e w3 ⟨rfl, hor⟩
              rcases hor with ⟨x, q2, rfl, hq2, hnum⟩ | ⟨rfl, hnum⟩
              · have HNUM := Lib.hid hnum
                clear hnum
                have hx := num_lt4 HNUM.out
                have h63 : Hid ((toI ns).length + 1 ≤ maxLen) := Lib.hid (by rw [toI_len, HLN.out]; unfold maxLen; omega)
                have hby : Hid (((toI ns).length + 1) * 8 ≤ 140737488355328) := Lib.hid (by rw [toI_len, HLN.out]; omega)
                have hs2 := HK2.out.size
                go_wp2_with ((at_builtin; refine wpList_append_own _ rfl _ _ 83 rfl _ 2 i1 (.int .i64 0) 1 8 Tryd.underlying83 GI.out GZ0.out GZ1.out GZ2.out rfl (by decide) _ _ _ rfl (ownsRow_below HO2.out ((Below.refl _ _).alloc (Nat.le_refl _) _)) ⟨wr.heap.size, 0, none⟩ 1 1 [.int .i64 (x : Int)] rfl rfl (cell_one_new _ _ _) (fun x hx => by simp at hx; subst hx; rfl) h63.out hby.out (by simp; omega) ?_; intro v' w4 hown' hgrow hnil))
                refine ⟨⟨k + 1, q2, ns ++ [x], by omega, by go_num, rfl, hq2, nums_step HNS.out HNUM.out, by rw [toI_snoc]; exact OL.push _ hown', (HK2.out.alloc hs2 _).grown hgrow (by simp; omega) fun r hr => (HO2.out.lt hr).1⟩, by simp [intOf]; omega⟩
              · have hno : getRec (L.drop p) = none := by
                  rw [getRec_nums (m := 128 ^ 4) (by decide), nums_none (k := k + 1) (nums_stop HNS.out hnum) (by omega)]
                  rfl
                have HNO := Lib.hid (readN_no (HN2.out hno rfl))
                clear hno hnum
                go_wp2
                go_ret2
                have KK := HK.out.trans (HK2.out.mono HK.out.size)
                exact ⟨_, ret_two rfl (bool_eq HNO.out.1.symm), by rw [HNO.out.2]; exact HOA.out.below KK, HKA.out.trans (KK.mono HKA.out.size)⟩
            · obtain rfl : k = 3 := by omega
              obtain ⟨n0, n1, n2, rfl⟩ : ∃ a b c, ns = [a, b, c] := by
                have := HLN.out
                match ns, this with
                | [a, b, c], _ => exact ⟨a, b, c, rfl⟩
              have HG2 : Hid (getRec (L.drop p) = if recOkB ⟨n0, n1, n2⟩ then some (⟨n0, n1, n2⟩, L.drop q) else none) := Lib.hid (by
                rw [getRec_nums (m := 128 ^ 4) (by decide), HNS.out]; rfl)
              obtain ⟨A1, c1, g1, rfl, hA1, hB1, hz1, R1⟩ := open_list HO2.out
              obtain rfl := hA1 (by simp [toI])
              have hg1 := hz1 (by simp [toI])
              have q0 : wr.cell? ⟨g1, 0, none⟩ = some (.int .i64 n0) := (R1 0 (by simp [toI])).1
              have q1 : wr.cell? ⟨g1, 1, none⟩ = some (.int .i64 n1) := (R1 1 (by simp [toI])).1
              have q2 : wr.cell? ⟨g1, 2, none⟩ = some (.int .i64 n2) := (R1 2 (by simp [toI])).1
              have e3 : (toI [n0, n1, n2]).length = 3 := rfl
              rw [e3]
              have HKK := Lib.hid (HK.out.trans (HK2.out.mono HK.out.size))
              have HOO := Lib.hid (HO.out.below HK2.out)
              clear R1 e3 hA1 hz1 HO2 HNS HLN
              go_wp2_with fail
              have q0 : wr.drew.cell? ⟨g1, 0, none⟩ = some (.int .i64 n0) := q0
              have q1 : wr.drew.cell? ⟨g1, 1, none⟩ = some (.int .i64 n1) := q1
              have q2 : wr.drew.cell? ⟨g1, 2, none⟩ = some (.int .i64 n2) := q2
              go_region
              have Y := (Own.box2 HKK.out #[.int .i64 n0, .int .i64 n1, .int .i64 n2] 30).drew
              have HOd : Hid (OR ((wr.alloc (.cells #[.int .i64 n0, .int .i64 n1, .int .i64 n2] 30)).drew) w1.heap.size u7 done) := Lib.hid ((HOO.out.below ((Below.refl _ _).alloc (Nat.le_refl _) _)).below (Below.refl _ _).drew)
              clear q0 q1 q2 HKK HOO hbt HK2 HO HK
              generalize (wr.alloc (.cells #[.int .i64 n0, .int .i64 n1, .int .i64 n2] 30)).drew = W at Y HOd ⊢
              generalize wr.heap.size = g at Y ⊢
              have hC := Y.C
              go_wp2_with fail
              refine (specRecOk_any ⟨n0, n1, n2⟩ W).mono ?_
              rintro e w5 ⟨rfl, hb5⟩
              have Y5 := Y.step hb5
              have HO5 := Lib.hid (HOd.out.below hb5)
              have hC := Y5.C
              clear Y hb5 HOd
              cases hok : recOkB ⟨n0, n1, n2⟩
              · have hno : getRec (L.drop p) = none := by rw [HG2.out, hok]; rfl
                have HNO := Lib.hid (readN_no (HN2.out hno rfl))
                clear hno hok
                have HK5 := Lib.hid Y5.K
                clear Y5
                go_wp2
                go_ret2
                exact ⟨_, ret_two rfl (bool_eq HNO.out.1.symm), by rw [HNO.out.2]; exact HOA.out.below HK5.out, HKA.out.trans (HK5.out.mono HKA.out.size)⟩
              · have hyes : getRec (L.drop p) = some (⟨n0, n1, n2⟩, L.drop q) := by rw [HG2.out, hok]; rfl
                have HYES := Lib.hid hyes
                clear hyes hok
                have HK5 := Lib.hid Y5.K
                have h63 : Hid (done.length + 1 ≤ maxLen) := Lib.hid (by have := HDL.out; unfold maxLen; omega)
                have hby : Hid ((done.length + 1) * 24 ≤ 140737488355328) := Lib.hid (by have := HDL.out; omega)
                have hs5 := HK5.out.size
                clear Y5
                go_wp2_with ((at_builtin; refine wpList_append_own _ rfl _ _ 31 rfl w1.heap.size 30 i0 (.agg #[.int .i64 0, .int .i64 0, .int .i64 0]) 3 24 Tryd.underlying31 HI.out HZ0.out HZ1.out HZ2.out rfl (by decide) _ _ _ rfl (ownsRow_below HO5.out ((Below.refl _ _).alloc (Nat.le_refl _) _)) ⟨w5.heap.size, 0, none⟩ 1 1 [.int .i64 n0, .int .i64 n1, .int .i64 n2] rfl rfl (World.news_of_block (cs := #[.int .i64 n0, .int .i64 n1, .int .i64 n2]) (heap_alloc_new w5 _)) (by simp [Value.oneCell']) h63.out hby.out (by simp; omega) ?_; intro v' w6 hown' hgrow hnil))
                refine ⟨⟨m - 1, q, done ++ [⟨n0, n1, n2⟩], by omega, int_eq (by omega), rfl, hq, ?_, ?_, OR.push ⟨n0, n1, n2⟩ hown', (HK5.out.alloc hs5 _).grown hgrow (by simp; omega) fun r hr => (HO5.out.lt hr).1⟩, by simp [intOf]; omega⟩
                · have := HDL.out
                  rw [List.length_append, List.length_singleton]
                  omega
                · rw [HG.out, show getRecs m (L.drop p) = getRecs ((m - 1) + 1) (L.drop p) by rw [← HMM.out], getRecs_succ, HYES.out, Option.bind_some]
                  dsimp only
                  cases getRecs (m - 1) (L.drop q) with
                  | none => rfl
                  | some q => simp
        · obtain rfl : m = 0 := by omega
          have hend : readN L = if L.drop p = [] then some done else none := by
            rw [HRD.out, HG.out, getRecs_zero]
            simp
          have HEND := Lib.hid hend
          clear hend
          by_cases hme : p = L.length
          · have hr : readN L = some done := by rw [HEND.out, if_pos (by rw [hme]; simp)]
            have HR := Lib.hid (readN_yes hr)
            clear hr
            subst hme
            go_wp2
            go_ret2
            exact ⟨_, ret_two rfl (bool_eq HR.out.1.symm), by rw [HR.out.2]; exact HO.out.base HKA.out.size, HKA.out.trans (HK.out.mono HKA.out.size)⟩
          · have hr : readN L = none := by rw [HEND.out, if_neg (by intro e; have := List.drop_eq_nil_iff.1 e; omega)]
            have HR := Lib.hid (readN_no hr)
            have hne : ((p : Int) == (L.length : Int)) = false := by simp; omega
            have hne2 : ¬ (p : Int) = (L.length : Int) := by omega
            clear hr hme
            go_wp2
            go_ret2
            exact ⟨_, ret_two rfl (bool_eq HR.out.1.symm), by rw [HR.out.2]; exact HOA.out.below HK.out, HKA.out.trans (HK.out.mono HKA.out.size)⟩
  · have hno : readN L = none := by rw [readN_num (m := 128 ^ 4) (by decide), hnum]; rfl
    have HNO := Lib.hid (readN_no hno)
    clear hno hnum
    go_wp2
    go_ret2
    exact ⟨_, ret_two rfl (bool_eq HNO.out.1.symm), by rw [HNO.out.2]; exact HOA.out, HKA.out⟩
end Go.Proofs.YtcpmkbemkhacnaaDoor
