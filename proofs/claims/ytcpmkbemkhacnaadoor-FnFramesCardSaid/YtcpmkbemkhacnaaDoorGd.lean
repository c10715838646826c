/-
  The model's draws of chapter 4.
-/
import Derived.Test.YtcpmkbemkhacnaaDoorGc
import Derived.Test.YtcpmkbemkhacnaaDoorFk
import Derived.Deep.DeepCutAuto
import Derived.Maps.AppendAt
set_option linter.unusedVariables false
namespace Go.Proofs.YtcpmkbemkhacnaaDoor
open Go.RowKit

/-- A store, made anew. -/
def GivesStore (w : World) (e : Ending) (w' : World) : Prop := ∃ v L, e = .returned v ∧ L.length ≤ 175 ∧ OB w' w.heap.size v L ∧ Below w.heap.size w w'
theorem drawReadFrames_any (A : Option Addr) (n c : Nat) (w : World) (hB : Bytes w w.heap.size A n) (hn : n ≤ 4096) :
    Calls Tryd.prog 15 #[.slice A n c] w (GivesStore w) := by
  have HB := Lib.hid hB
  clear hB
  go_enter Tryd.func15, Tryd.ntmps15
  go_wp2_with fail
  refine (l1New_any A n c w HB.out hn).mono ?_
  rintro e w1 ⟨g, rfl, hg, hc1, K1⟩
  go_wp2_with fail
  refine (l4Draw_any g w1 hc1).mono ?_
  rintro e w2 ⟨v2, L, rfl, hL, hO, -, hk2⟩
  go_wp2_with fail
  go_ret
  exact ⟨_, L, rfl, hL, hO.base K1.size, K1.trans (hk2.below (B := w.heap.size) K1.size (by rintro b hb rfl; omega))⟩
theorem clock_frame : 0 < (framedD [⟨8, 1000000, 0⟩]).length ∧ (framedD [⟨8, 1000000, 0⟩]).length ≤ 16 := by
  have hw : writeB [⟨8, 1000000, 0⟩] = true := by decide
  have h1 := framedD_len hw
  have h2 := framedD_few hw
  simp at h2
  omega
theorem wpList_append_bt_at {w : World} {ops : Array Oper} {rest : List Oper} {o : Oper} {a : Act} {Q : Exit → Act → World → Prop} (hgd : o.guard = none) (s x : Operand)
    (ho : o.op = .call { callee := .builtin .append, args := #[s, x], argTypes := #[22, 22] }) (base : Nat) (v : Value) (M : List Nat) (hs : a.eval s = v) (hown : OB w base v M)
    (u : Value) (L : List Nat) (hx : a.eval x = u) {B : Nat} (hb : Bt w B u L) (hr : Real u) (hlen : M.length + L.length ≤ 8388608) (hbase : base ≤ w.heap.size)
    (h : ∀ v' w', OB w' base v' (M ++ L) → w.grownBy w' v.ownBlock → (v'.ownBlock = v.ownBlock ∨ v'.ownBlock = some w.heap.size) → wpList Tryd.prog ops Q rest (a.put o.dst v') w') : wpList Tryd.prog ops Q (o :: rest) a w := by
  obtain ⟨i0, hi, hz0, hz1, hz2⟩ := info_parts info_u8
  rcases hr with rfl | ⟨ad, m, c, rfl⟩
  · have hL : L = [] := List.eq_nil_of_length_eq_zero hb.slice_len.1
    subst hL
    refine wpList_append_own_none hgd s x 22 ho base 5 i0 1 Tryd.underlying22 hi v M.length _ hs hown.own hx ?_
    have := h v w (by rw [List.append_nil]; exact hown) ⟨rfl, rfl, rfl, Nat.le_refl _, fun _ _ _ => rfl⟩ (.inl rfl)
    exact this
  · obtain ⟨hm, hmc⟩ := hb.slice_len
    refine wpList_append_own_at w hgd s x 22 ho base 5 i0 (.int .u8 0) 1 1 Tryd.underlying22 hi hz0 hz1 hz2 rfl (by decide) v M.length _ hs hown.own ad m c (L.map byteV) hx (by rw [List.length_map, hm, Nat.mul_one]) ?_ one_bytes (by unfold maxLen; omega) (by omega) hbase ?_
    · intro j y hy
      have hj : j < L.length := by
        have := (List.getElem?_eq_some_iff.1 hy).1
        simpa using this
      rw [byteV_get hj] at hy
      cases hy
      obtain ⟨b, off, e, hb1, q⟩ := hb.cell hj
      cases e
      have ha : (⟨b, off, none⟩ : Addr).add j = ⟨b, off + j, none⟩ := by unfold Addr.add; split <;> simp_all
      rw [ha]
      exact q
    · intro v' w' h1 h2 _ h4
      exact h v' w' ⟨by rw [List.length_append, List.map_append, hm]; exact h1, hown.small.append hb.small⟩ h2 h4
/-- A store and a list, made anew. -/
def GivesWith (w : World) (e : Ending) (w' : World) : Prop :=
  ∃ vb b vl l, e = .returned (.tuple #[vb, vl]) ∧ b.length ≤ 1400 ∧ l.length ≤ 5 ∧ OB w' w.heap.size vb b ∧ OR w' w.heap.size vl l ∧ Below w.heap.size w w'
set_option maxRecDepth 100000 in
set_option maxHeartbeats 4000000 in
theorem drawWithFrame_any (A : Option Addr) (n c : Nat) (w : World) (hB : Bytes w w.heap.size A n) (hn : n ≤ 4096) :
    Calls Tryd.prog 17 #[.slice A n c] w (GivesWith w) := by
  have HB := Lib.hid hB
  clear hB
  obtain ⟨i0, hi, hz0, hz1, hz2⟩ := info_parts info_rec
  have HI := Lib.hid hi
  have HZ0 := Lib.hid hz0
  have HZ1 := Lib.hid hz1
  have HZ2 := Lib.hid hz2
  clear hi hz0 hz1 hz2
  go_enter Tryd.func17, Tryd.ntmps17
  go_wp2_with fail
  refine (l1New_any A n c w HB.out hn).mono ?_
  rintro e w1 ⟨g, rfl, hg, hc1, K1⟩
  have hg1 := hc1.lt
  go_wp2_with fail
  refine (l4Draw_any g w1 hc1).mono ?_
  rintro e w2 ⟨v2, L, rfl, hL, O2, hc2, hk2⟩
  have K2 := K1.trans (hk2.below (B := w.heap.size) K1.size (by rintro b hb rfl; omega))
  have hβ : w.heap.size ≤ w1.heap.size := K1.size
  have hs2 : w1.heap.size ≤ w2.heap.size := hk2.size
  clear hc1 K1 hk2
  generalize w1.heap.size = β at *
  go_wp2_with fail
  go_upto_if 14 with (go_at_call 40; refine (l1Once_any g 12 _ hc2 (by omega) (by omega)).mono ?_; rintro e w3 ⟨q, rfl, hc3, hk3⟩)
  have K3 := K2.trans (hk3.below (B := w.heap.size) K2.size (by rintro b hb rfl; omega))
  have O3 := O2.keeps hk3 (by rintro r hr rfl; omega)
  have hs3 : β ≤ w3.heap.size := Nat.le_trans hs2 hk3.size
  clear hc2 K2 O2 hk3 hs2
  go_cut [5] from 15 to 32 (fun s5 wx => ∃ b : List Nat, b.length ≤ 1400 ∧ OB wx β s5 b ∧ Cur 79 .i64 wx g ∧ Below w.heap.size w wx ∧ β ≤ wx.heap.size)
  case first =>
    cases q
    · go_wp2_with fail
      go_meet
      exact ⟨L, by omega, O3, hc3, K3, hs3⟩
    · go_wp2_with fail
      have OR4 := OR.one (w := w3) (B := w3.heap.size) (Nat.le_refl _) ⟨8, 1000000, 0⟩
      dsimp only at OR4
      have X : Below w3.heap.size w3 (w3.alloc (.cells #[.int .i64 8, .int .i64 1000000, .int .i64 0] 30)) := (Below.refl _ _).alloc (Nat.le_refl _) _
      have C4 := hc3.below X
      have O4 := O3.below X
      have K4 := K3.trans (X.mono K3.size)
      have hs4 := Nat.le_trans hs3 X.size
      have hlo4 : ∀ r, v2.ownBlock = some r → r < (w3.alloc (.cells #[.int .i64 8, .int .i64 1000000, .int .i64 0] 30)).heap.size := fun r hr => (O4.lt hr).2
      generalize hw4 : w3.alloc (.cells #[.int .i64 8, .int .i64 1000000, .int .i64 0] 30) = w4 at *
      clear hw4 hc3 O3 K3 X hs3
      generalize w3.heap.size = s4 at *
      refine (specFramed_any _ [⟨8, 1000000, 0⟩] w4 OR4.rt).mono ?_
      rintro e w5 ⟨v5, rfl, F5, hb5⟩
      obtain ⟨hM0, hM1⟩ := clock_frame
      have C5 := C4.below hb5
      have O5 := O4.below hb5
      have K5 := K4.trans (hb5.mono K4.size)
      have hs5 := Nat.le_trans hs4 hb5.size
      have hlo5 : ∀ r, v2.ownBlock = some r → r < w4.heap.size ∨ w5.heap.size ≤ r := fun r hr => .inl (hlo4 r hr)
      have hf5 : ∀ r, v5.ownBlock = some r → w4.heap.size ≤ r ∧ r < w5.heap.size := fun r hr => F5.lt hr
      clear C4 O4 K4 OR4 hb5 hlo4
      generalize framedD [⟨8, 1000000, 0⟩] = M at *
      generalize writeB [⟨8, 1000000, 0⟩] = ok at *
      generalize hγ : w4.heap.size = γ at *
      generalize hT : w5.heap.size = T at *
      have hTT : T ≤ w5.heap.size := Nat.le_of_eq hT.symm
      clear hγ hT
      obtain ⟨A5, c5, g5, rfl, -⟩ := F5.open_
      have HFB := Lib.hid hf5
      clear hf5
      go_wp2_with fail
      go_loopw [5] (fun s5 wr => ∃ b : List Nat, b.length ≤ 1400 ∧ OB wr β s5 b ∧ OB wr γ (.slice A5 M.length c5) M ∧ (∀ r, s5.ownBlock = some r → r < γ ∨ T ≤ r) ∧ Cur 79 .i64 wr g ∧ Below w.heap.size w wr ∧ T ≤ wr.heap.size) (fun s5 _ => 1300 - lenOf s5)
      case atStart => exact ⟨L, by omega, O5, F5, hlo5, C5, K5, hTT⟩
      case round =>
        clear O5 F5 hlo5 C5 K5 hTT
        obtain ⟨b, hb, O, F, hlo, C, K, hz⟩ := hrel
        obtain ⟨A6, c6, g6, rfl, -⟩ := O.open_
        go_wp2_with fail
        refine (l1Below_any g 30 _ C (by omega) (by omega)).mono ?_
        rintro e w6 ⟨x, rfl, x0, x1, C6, k6⟩
        have HO6 := Lib.hid (O.keeps k6 (by rintro r hr rfl; omega))
        have F6 := F.keepV k6 (by rintro r hr rfl; have := (F.lt hr).1; omega)
        have HF6 := Lib.hid F6
        have HFT := Lib.hid F6.bt
        have HFR := Lib.hid F6.real
        have HC6 := Lib.hid C6
        have HK6 := Lib.hid (K.trans (k6.below (B := w.heap.size) K.size (by rintro b hb rfl; omega)))
        have hz6 := Nat.le_trans hz k6.size
        have HLO := Lib.hid hlo
        clear O F C K k6 hz C6 F6 hlo
        by_cases hcond : (b.length : Int) + (M.length : Int) ≤ 1180 + x
        · have hbs : β ≤ w6.heap.size := by omega
          go_wp2_with ((at_builtin; refine wpList_append_bt_at rfl _ _ rfl β (.slice A6 b.length c6) b rfl HO6.out (.slice A5 M.length c5) M rfl HFT.out HFR.out (by omega) hbs ?_; intro v7 w7 O7 G7 E7; have G7' : World.grownBy w6 w7 (Value.slice A6 b.length c6).ownBlock := G7; have E7' : v7.ownBlock = (Value.slice A6 b.length c6).ownBlock ∨ v7.ownBlock = some w6.heap.size := E7; clear G7 E7))
          have k7 : Keeps (fun r => (Value.slice A6 b.length c6).ownBlock = some r) w6 w7 := Keeps.of_grown G7'
          obtain ⟨A7, c7, g7, rfl, -⟩ := O7.open_
          refine ⟨⟨b ++ M, by rw [List.length_append]; omega, O7, HF6.out.keepV k7 (fun r h1 h2 => by have := HFB.out r h1; have := HLO.out r h2; omega), ?_, HC6.out.grown G7' (fun r hr => by have := (HO6.out.lt hr).1; omega), HK6.out.grown G7' HK6.out.size (fun r hr => Nat.le_trans hβ (HO6.out.lt hr).1), Nat.le_trans hz6 k7.size⟩, ?_⟩
          · intro r hr
            rcases E7' with e | e
            · rw [e] at hr; exact HLO.out r hr
            · rw [e] at hr; injection hr with hr; exact .inr (by omega)
          · simp only [lenOf, List.length_append]
            omega
        · go_wp2_with fail
          go_meet
          exact ⟨b, hb, HO6.out, HC6.out, HK6.out, by omega⟩
  case rest =>
    clear O3 hc3 K3 hs3
    obtain ⟨b, hb, O, C, K, hz⟩ := hcut
    obtain ⟨A5, c5, g5, rfl, -⟩ := O.open_
    have hlo : ∀ r, (Value.slice A5 b.length c5).ownBlock = some r → r < wc.heap.size := fun r hr => (O.lt hr).2
    go_wp2_with fail
    refine (l3DrawList_any g wc C).mono ?_
    rintro e w4 ⟨v4, l, rfl, hl, R4, C4, k4⟩
    have O4 := O.keeps k4 (by rintro r hr rfl; omega)
    have K4 := K.trans (k4.below (B := w.heap.size) K.size (by rintro b hb rfl; omega))
    have hz4 := k4.size
    clear O C K k4
    generalize hγ : wc.heap.size = γ at *
    clear hγ
    go_wp2_with fail
    refine (l1Once_any g 8 _ C4 (by omega) (by omega)).mono ?_
    rintro e w5 ⟨q, rfl, C5, k5⟩
    have O5 := O4.keeps k5 (by rintro r hr rfl; omega)
    have R5 := R4.keepIt k5 (by rintro r hr rfl; omega)
    have K5 := K4.trans (k5.below (B := w.heap.size) K4.size (by rintro b hb rfl; omega))
    have hz5 := Nat.le_trans hz4 k5.size
    clear O4 R4 C4 K4 k5 hz4
    cases q
    · go_wp2_with fail
      go_ret2
      exact ⟨_, b, _, l, rfl, hb, by omega, O5.base hβ, R5.base (by omega), K5⟩
    · go_wp2_with fail
      refine (l3DrawAny_any g _ C5).mono ?_
      rintro e w6 ⟨⟨rk, ra, rb⟩, rfl, C6, k6⟩
      have HO6 := Lib.hid (O5.keeps k6 (by rintro r hr rfl; omega))
      have HR6 := Lib.hid (R5.keepIt k6 (by rintro r hr rfl; omega))
      have HK6 := Lib.hid (K5.trans (k6.below (B := w.heap.size) K5.size (by rintro b hb rfl; omega)))
      have hz6 := Nat.le_trans hz5 k6.size
      have h63 : Hid (l.length + 1 ≤ maxLen) := Lib.hid (by unfold maxLen; omega)
      have hby : Hid ((l.length + 1) * 24 ≤ 140737488355328) := Lib.hid (by omega)
      unfold recV
      dsimp only
      clear O5 R5 C5 K5 k6 hz5 C6
      go_wp2_with ((at_builtin; refine wpList_append_own _ rfl _ _ 31 rfl γ 30 i0 (.agg #[.int .i64 0, .int .i64 0, .int .i64 0]) 3 24 Tryd.underlying31 HI.out HZ0.out HZ1.out HZ2.out rfl (by decide) v4 _ _ rfl (ownsRow_below HR6.out ((Below.refl _ _).alloc (Nat.le_refl _) _)) ⟨w6.heap.size, 0, none⟩ 1 1 [.int .i64 rk, .int .i64 ra, .int .i64 rb] rfl rfl (World.news_of_block (cs := #[.int .i64 rk, .int .i64 ra, .int .i64 rb]) (heap_alloc_new w6 _)) (by simp [Value.oneCell']) h63.out hby.out (by simp; omega) ?_; intro v' w7 hown' hgrow hnil; have hgrow' : World.grownBy (w6.alloc (.cells #[.int .i64 rk, .int .i64 ra, .int .i64 rb] 30)) w7 v4.ownBlock := hgrow; clear hgrow hnil))
      go_ret2
      have hk7 : Keeps (fun b => v4.ownBlock = some b) w6 w7 := (Keeps.of_below ((Below.refl _ _).alloc (Nat.le_refl _) _)).trans (Keeps.of_grown hgrow')
      have hr4 : ∀ r, v4.ownBlock = some r → γ ≤ r := fun r hr => (HR6.out.lt hr).1
      exact ⟨_, b, _, l ++ [⟨rk, ra, rb⟩], rfl, hb, by simp; omega, (HO6.out.keepV hk7 (fun r h1 h2 => by have := hlo r h1; have := hr4 r h2; omega)).base hβ, (OR.push ⟨rk, ra, rb⟩ hown').base (by omega), (HK6.out.alloc HK6.out.size _).grown hgrow' (by have := HK6.out.size; simp; omega) (fun r hr => by have := hr4 r hr; omega)⟩
end Go.Proofs.YtcpmkbemkhacnaaDoor
