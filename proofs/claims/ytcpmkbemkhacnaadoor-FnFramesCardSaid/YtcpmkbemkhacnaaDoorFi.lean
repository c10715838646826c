/-
  The program's ReadFrames, walked.
-/
import Derived.Test.YtcpmkbemkhacnaaDoorFh
set_option linter.unusedVariables false
namespace Go.Proofs.YtcpmkbemkhacnaaDoor
open Go.RowKit Go.Shelf

attribute [local go_sem] Oper.semAt_some

/-- The world as the loop begins. -/
def begun (w : World) (bv : Value) : World := (((w.alloc (.cells #[] 31)).alloc (.cells #[.slice (some ⟨w.heap.size, 0, none⟩) 0 0] 27)).alloc (.cells #[.int .i64 0] 2)).alloc (.cells #[bv] 22)
theorem begun_size (w : World) (bv : Value) : (begun w bv).heap.size = w.heap.size + 4 := by unfold begun; simp
theorem begun_below (w : World) (bv : Value) : Below w.heap.size w (begun w bv) := by
  unfold begun
  exact ((((Below.refl _ w).alloc (Nat.le_refl _) _).alloc (by simp) _).alloc (by simp; omega) _).alloc (by simp; omega) _
theorem Walked.start (w : World) (bv : Value) (rc : Loop) : Walked w bv rc [] 0 (((begun w bv).alloc (.deferred (some []))).alloc (.loop rc)) := by
  have hs := begun_size w bv
  have b1 : Boxed (begun w bv) (w.heap.size + 1) 27 (.slice (some ⟨w.heap.size, 0, none⟩) 0 0) := by
    have := Boxed.new (w.alloc (.cells #[] 31)) 27 (.slice (some ⟨w.heap.size, 0, none⟩) 0 0)
    rw [World.size_alloc] at this
    exact (this.alloc _).alloc _
  have b2 : Boxed (begun w bv) (w.heap.size + 2) 2 (.int .i64 (0 : Nat)) := by
    have := Boxed.new ((w.alloc (.cells #[] 31)).alloc (.cells #[.slice (some ⟨w.heap.size, 0, none⟩) 0 0] 27)) 2 (.int .i64 0)
    rw [World.size_alloc, World.size_alloc] at this
    exact this.alloc _
  have b3 : Boxed (begun w bv) (w.heap.size + 3) 22 bv := by
    have := Boxed.new (((w.alloc (.cells #[] 31)).alloc (.cells #[.slice (some ⟨w.heap.size, 0, none⟩) 0 0] 27)).alloc (.cells #[.int .i64 0] 2)) 22 bv
    rw [World.size_alloc, World.size_alloc, World.size_alloc] at this
    exact this
  have o1 : OS (begun w bv) w.heap.size (.slice (some ⟨w.heap.size, 0, none⟩) 0 0) [] :=
    (((OS.empty (Nat.le_refl _)).below ((Below.refl _ _).alloc (Nat.le_refl _) _)).below ((Below.refl _ _).alloc (Nat.le_refl _) _)).below ((Below.refl _ _).alloc (Nat.le_refl _) _)
  have k := begun_below w bv
  generalize begun w bv = W at *
  have x1 := (Below.refl W.heap.size W).alloc (Nat.le_refl _) (.deferred (some []))
  have x2 := x1.alloc (by simp) (.loop rc)
  refine ⟨k.trans (x2.mono (by omega)), ⟨_, (b1.alloc _).alloc _, o1.below x2⟩, (b2.alloc _).alloc _, (b3.alloc _).alloc _, ?_, ?_⟩
  · rw [← hs]
    exact (Below.heap_alloc _ _ _ (by simp)).trans (World.alloc_heap_new W _)
  · have := World.alloc_heap_new (W.alloc (.deferred (some []))) (.loop rc)
    rw [World.size_alloc, hs] at this
    exact this

/-- The statement 'for .. := range g', g a function of the program with what it has captured, at the wide fence: what is owed is the function's call at yield, the loop's record rc laid. -/
theorem range_wide {P : Program} {n : Nat} {g : Operand} {ps : Array Tmp} {assign body : Code} {Q : Exit → Act → World → Prop} {a : Act} {w : World} {gf : Nat} {lb : Array Value}
    (h1 : 1 ≤ n) (hg : a.eval g = .func (.func gf) #[] lb) (eg : ∀ args w, (callFunc gf args).run P w = .ok (.enter gf args) w)
    (hcall : ∀ (fn : FuncId) (rc : LoopState → Loop), rc = (fun st => { state := st, pending := none, fn, tmps := a.tmps, params := ps, assign, body, defers := w.heap.size }) →
      CallsIn Fence.wide (n - 1) P gf (#[.func (.yield (w.heap.size + 1)) #[] #[]] ++ lb) ((w.alloc (.deferred (some []))).alloc (.loop (rc .ready)))
        (rangePost Fence.wide n P (w.heap.size + 1) Q { a with defers := { target := .collected w.heap.size, args := #[] } :: a.defers })) :
    (Code.rangeFunc g ps assign body).wpIn Fence.wide n P Q a w := by
  refine wpIn_rangeFunc fun fn _ => ?_
  have hc := hcall fn _ rfl
  refine ⟨_, _, _, { target := .fn (.func gf) lb, args := #[.func (.yield (w.heap.size + 1)) #[] #[]] }, (w.alloc (.deferred (some []))).alloc (.loop { state := .ready, pending := none, fn, tmps := a.tmps, params := ps, assign, body, defers := w.heap.size }), gf, _, _, run_enterLoop_outer _ _ _ _ _, ?_, fun _ _ => trivial, ?_, fun _ => h1, hc⟩
  · simp only [resolve, hg]
    simp [go_sem]
  · simp [invoke, go_sem, eg]

theorem Seg.put {w : World} {T B b : Nat} {o : Obj} {vs : List Value} {ls : List (List RecD)} (h : Seg w B T vs ls) (hb : w.heap[b]? = some o) (ho : o.isCells = false) (o' : Obj) : Seg (w.putObj b o') B T vs ls := by
  refine Seg.keeps (Keeps.of_grown (grownBy_putObj' w b o')) (fun i u r hi hr e => ?_) h
  obtain ⟨u', e', hor⟩ := h.at_ (i := i) (by rw [← h.len]; exact (List.getElem?_eq_some_iff.1 hi).1)
  rw [hi] at e'
  cases e'
  obtain rfl : b = r := by simpa using e
  rcases hor.2 with ⟨rfl, _⟩ | ⟨g', cap', cur', rfl, _, hh', _⟩
  · simp [Value.ownBlock] at hr
  · obtain rfl : g' = b := by simpa [Value.ownBlock] using hr
    rw [hb] at hh'
    cases hh'
    cases ho

theorem row_not_obj {w : World} {B n k b : Nat} {e : TypeId} {v : Value} {vs : List Value} {o : Obj} (h : w.ownsRow B e k v n vs) (hb : w.heap[b]? = some o) (ho : o.isCells = false) : some b ≠ v.ownBlock := fun e' => by
  rcases h.2 with ⟨rfl, _⟩ | ⟨g, cap, cur, rfl, _, hh, _⟩
  · simp [Value.ownBlock] at e'
  · obtain rfl : b = g := by simpa [Value.ownBlock] using e'
    rw [hb] at hh
    cases hh
    cases ho
/-- A list more. -/
theorem Walked.push {w W w4 : World} {bv s u v' : Value} {rb : Loop} {done : List (List RecD)} {l' : List RecD} {vs : List Value} {p T : Nat} {q : Int} (h : Walked w bv rb done p W) (hs : Boxed W (w.heap.size + 1) 27 s)
    (hr : W.ownsRow w.heap.size 31 1 s done.length vs) (hS : Seg W w.heap.size T vs done) (hT : T ≤ W.heap.size) (hu : OR W T u l')
    (hg : (W.alloc (.cells #[u] 31)).grownBy w4 s.ownBlock) (ho : w4.ownsRow w.heap.size 31 1 v' (done.length + 1) (vs ++ [u])) {p' : Nat} (hq : q = (p' : Nat)) :
    Walked w bv rb (done ++ [l']) p' ((w4.setCell ⟨w.heap.size + 1, 0, none⟩ v').setCell ⟨w.heap.size + 2, 0, none⟩ (.int .i64 q)) := by
  subst hq
  have hz := h.z
  have o4 := OS.push hr hS hT hu ((Keeps.of_below ((Below.refl _ _).alloc (Nat.le_refl _) _)).trans (Keeps.of_grown hg)) ho
  have b1 : Boxed w4 (w.heap.size + 1) 27 s := (hs.alloc _).kept hg (hs.not_row (by decide) hr)
  have b2 : Boxed w4 (w.heap.size + 2) 2 (.int .i64 p) := (h.size.alloc _).kept hg (h.size.not_row (by decide) hr)
  have b3 : Boxed w4 (w.heap.size + 3) 22 bv := (h.arg.alloc _).kept hg (h.arg.not_row (by decide) hr)
  have k4 : Below w.heap.size w w4 := (h.K.alloc h.K.size _).grown hg (by simp; omega) (fun r e => (World.ownsRow.lt hr r e).1)
  have d4 : w4.heap[w.heap.size + 4]? = some (.deferred (some [])) :=
    (hg.block _ (by simp; omega) (row_not_obj hr h.defs rfl)).trans ((Below.heap_alloc _ _ _ (by omega)).trans h.defs)
  have l4 : w4.heap[w.heap.size + 5]? = some (.loop rb) :=
    (hg.block _ (by simp; omega) (row_not_obj hr h.loop rfl)).trans ((Below.heap_alloc _ _ _ (by omega)).trans h.loop)
  have g1 := grownBy_setCell' w4 (w.heap.size + 1) v'
  have o5 := o4.set_box b1 (by decide) (by decide) v'
  have b15 := b1.set v'
  have b25 := b2.kept g1 (by simp)
  have b35 := b3.kept g1 (by simp)
  have d5 := (Below.heap_setCell w4 ⟨w.heap.size + 1, 0, none⟩ v' (w.heap.size + 4) (by simp)).trans d4
  have l5 := (Below.heap_setCell w4 ⟨w.heap.size + 1, 0, none⟩ v' (w.heap.size + 5) (by simp)).trans l4
  have k5 := k4.setCell (p := ⟨w.heap.size + 1, 0, none⟩) (by simp) v'
  generalize w4.setCell ⟨w.heap.size + 1, 0, none⟩ v' = w5 at *
  have g2 := grownBy_setCell' w5 (w.heap.size + 2) (.int .i64 (p' : Nat))
  exact ⟨k5.setCell (p := ⟨w.heap.size + 2, 0, none⟩) (by simp) _, ⟨v', b15.kept g2 (by simp), o5.set_box b25 (by decide) (by decide) _⟩, b25.set _, b35.kept g2 (by simp),
    (Below.heap_setCell w5 ⟨w.heap.size + 2, 0, none⟩ _ (w.heap.size + 4) (by simp)).trans d5, (Below.heap_setCell w5 ⟨w.heap.size + 2, 0, none⟩ _ (w.heap.size + 5) (by simp)).trans l5⟩

theorem Walked.over {P : Program} {w W : World} {bv : Value} {rc : Loop} {done : List (List RecD)} {p : Nat} (h : Walked w bv rc done p W) (hs : rc.state ≠ .busy) (hp : rc.pending = none) :
    ∃ rx w4, (Instr.endLoop (w.heap.size + 5)).run P W = .ok none w4 ∧ Walked w bv rx done p w4 := by
  have he := run_endLoop (P := P) h.loop hs
  rw [hp] at he
  exact ⟨_, _, he, h.turn _⟩

set_option maxRecDepth 100000 in
set_option maxHeartbeats 4000000 in
theorem readFrames_any (v : Value) (L : List Nat) (w : World) (hN : Names w) (h : Bt w w.heap.size v L) (hsz : L.length ≤ 4194304) :
    Calls Tryd.prog 13 #[v] w (ReadAll L w) := by
  have H := Lib.hid h
  have HNM := Lib.hid hN
  obtain ⟨⟨A, c, rfl, -, -⟩, -, -⟩ := h
  obtain ⟨i0, hi, hz0, hz1, hz2⟩ := info_parts info_recs
  have HI := Lib.hid hi
  have HZ0 := Lib.hid hz0
  have HZ1 := Lib.hid hz1
  have HZ2 := Lib.hid hz2
  clear hi hz0 hz1 hz2 hN
  have h1 : (1 : Nat) ≤ 3 := by decide
  refine (callsIn_wide (n := 3)).1 ?_
  refine callsIn_of_wp_marks Tryd.func13 rfl trivial ?_ rfl
  simp only [Tryd.ntmps13, List.size_toArray, List.length_cons, List.length_nil, Nat.reduceAdd, Nat.reduceSub, Array.replicate_succ, Array.replicate_zero, List.push_toArray, List.append_toArray, List.nil_append, List.cons_append]
  gi_wp2_with (refine ⟨trivial, ?_⟩; gi_at_call 35; refine (callsIn_wide.2 (wholeFrames_any A L.length c _)).mono ?_; rintro e w' ⟨rfl, rfl⟩)
  have hst := Walked.start w (.slice A L.length c)
  have hbs := begun_size w (.slice A L.length c)
  have hbb := begun_below w (.slice A L.length c)
  unfold begun at hst hbs hbb
  obtain ⟨W, hW⟩ : ∃ W, (((w.alloc (.cells #[] 31)).alloc (.cells #[.slice (some ⟨w.heap.size, 0, none⟩) 0 0] 27)).alloc (.cells #[.int .i64 0] 2)).alloc (.cells #[.slice A L.length c] 22) = W := ⟨_, rfl⟩
  rw [hW] at hst hbs hbb ⊢
  clear hW
  have HST := Lib.hid hst
  clear hst
  refine range_wide h1 (gf := 51) (lb := #[.pointer (some ⟨w.heap.size + 3, 0, none⟩)]) rfl (enters_of Tryd.func51 (by kernel_rfl) rfl) ?_
  intro fn rc hrc
  rw [hbs, show w.heap.size + 4 + 1 = w.heap.size + 5 from rfl]
  refine (whole1_in (3 - 1) (w.heap.size + 5) (w.heap.size + 3) c (by decide) A L (Walked w (.slice A L.length c) (rc .ready)) ?hJ ?hY _ (HST.out _)).mono ?post
  case hJ => exact fun done p W' hj => ⟨hj.arg.cell, (H.out.below hj.K (Nat.le_refl _)).more hj.K.size, HNM.out.go hj.K⟩
  case hY =>
    intro done p l' k u W0 W1 hj hsf hg hb hor
    have hw1 := hj.below hb
    have hstep := hsf.step hg
    have hlen1 : done.length + 1 ≤ 4194304 := by have := hstep.short; have := hstep.le; simp at *; omega
    have hp64 : (p : Int) + (k : Int) ≤ 4194304 := by have := hstep.le; omega
    obtain ⟨s, bs, vs, r1, sg⟩ := hj.lists
    have r2 := ownsRow_below r1 hb
    have sg2 := sg.below hb
    have T1 : W0.heap.size ≤ W1.heap.size := hb.size
    have bs2 := boxed_below bs hb (by have := hj.z; omega)
    have hy := run_yield (P := Tryd.prog) (args := #[u, .int .i64 ((p : Int) + (k : Int))]) hw1.loop (by rw [hrc]; rfl)
    have hrr := hw1.loop
    rw [hrc] at hy
    have HRC := Lib.hid hrc
    clear hrc
    refine ⟨fn, _, _, _, hy, roundIn_of_wpIn trivial ?_⟩
    clear hy
    gi_wp2
    refine ⟨_, run_beginRound hrr (by rw [HRC.out]), ?_⟩
    obtain ⟨rb, hrb⟩ : ∃ rb : Loop, { rc .ready with state := .busy } = rb := ⟨_, rfl⟩
    rw [hrb]
    have HRB := Lib.hid hrb
    clear hrb
    have hw2 := hw1.turn rb
    have r3 := ownsRow_putObj r2 (.loop rb) hrr rfl
    have sg3 := sg2.put hrr rfl (.loop rb)
    have hor3 : OR (W1.putObj (w.heap.size + 5) (.loop rb)) W0.heap.size u l' := ownsRow_putObj hor (.loop rb) hrr rfl
    have bs3 : Boxed (W1.putObj (w.heap.size + 5) (.loop rb)) (w.heap.size + 1) 27 s := bs2.kept (grownBy_putObj' _ _ _) (by simp)
    have T2 : W0.heap.size ≤ (W1.putObj (w.heap.size + 5) (.loop rb)).heap.size := by rw [World.putObj_size]; exact T1
    obtain ⟨A2, c2, g2, rfl, -⟩ := hor.open_
    generalize W1.putObj (w.heap.size + 5) (.loop rb) = W2 at *
    have h63 : Hid (done.length + 1 ≤ maxLen) := Lib.hid (by unfold maxLen; omega)
    have hby : Hid ((done.length + 1) * 24 ≤ 140737488355328) := Lib.hid (by omega)
    have b53 := hw2.size
    have hc4 := bs3.cell
    have HR3 := Lib.hid r3
    have HB3 := Lib.hid bs3
    have HB5 := Lib.hid b53
    have HS3 := Lib.hid sg3
    have HU3 := Lib.hid hor3
    have HW2 := Lib.hid hw2
    clear hor hor3 r1 r2 r3 sg sg2 sg3 bs bs2 bs3 b53 hj hw1 hw2 hrr
    gi_wp2_with (gi_at_builtin; refine wpListIn_append_own _ rfl _ _ 27 rfl w.heap.size 31 i0 (.slice none 0 0) 1 24 Tryd.underlying27 HI.out HZ0.out HZ1.out HZ2.out rfl (by decide) _ _ _ rfl (HR3.out.alloc _) ⟨W2.heap.size, 0, none⟩ 1 1 [.slice A2 l'.length c2] rfl rfl (cell_one_new _ _ _) (fun x hx => by simp at hx; subst hx; rfl) h63.out hby.out (by have := HW2.out.z; simp; omega) ?_; intro v' w4 hown' hgrow0 hnil; have hgrow : World.grownBy (W2.alloc (.cells #[.slice A2 l'.length c2] 31)) w4 s.ownBlock := hgrow0; clear hgrow0 hnil; obtain ⟨g', cap', rfl⟩ := ownsRow_succ hown'; have b4 : Boxed w4 (w.heap.size + 1) 27 s := (HB3.out.alloc _).kept hgrow (HB3.out.not_row (by decide) HR3.out); have b5 : Boxed w4 (w.heap.size + 1 + 1) 2 (.int .i64 p) := (HB5.out.alloc _).kept hgrow (HB5.out.not_row (by decide) HR3.out); have hc1 := b4.cell; have hf1 := b4.frozen; have hc2 := b5.cell; have hf2 := b5.frozen; have HB4 := Lib.hid b4; have HB6 := Lib.hid b5; have HO := Lib.hid hown'; have HG := Lib.hid hgrow; clear hown' hgrow b4 b5)
    have hw5 := HW2.out.push (q := (p : Int) + (k : Int)) (p' := p + k) HB3.out HR3.out HS3.out T2 HU3.out HG.out HO.out (by omega)
    refine ⟨_, _, run_endRound none hw5.loop, rfl, ?_⟩
    have hw6 := hw5.turn (rc .ready)
    rw [← HRB.out]
    rw [HRC.out] at hw6 ⊢
    exact hw6
  case post =>
    rintro e w' ⟨⟨v0, rfl⟩, W0, hj, hb⟩
    have hj1 := hj.below hb
    obtain ⟨rx, w4, hend, hj2⟩ := hj1.over (P := Tryd.prog) (by rw [hrc]; simp) (by rw [hrc])
    refine ⟨none, w4, hend, ?_⟩
    clear hend hj hj1 hb HST hrc
    obtain ⟨s, b1, o1⟩ := hj2.lists
    have hc1 := b1.cell
    have b2 : Boxed w4 (w.heap.size + 1 + 1) 2 (.int .i64 ((framesN L).2 : Nat)) := hj2.size
    have hc2 := b2.cell
    have hdef := hj2.defs
    have HJ := Lib.hid hj2
    have HO := Lib.hid o1
    clear hj2 o1 b1 b2
    gi_wp2
    gi_region
    have HJ2 : Below w.heap.size w w4.drew := HJ.out.K.drew
    have HO2 : OS w4.drew w.heap.size s (framesN L).1 := HO.out.below (Below.refl _ _).drew
    have hd2 : w4.drew.heap[w.heap.size + 4]? = some (.deferred (some [])) := hdef
    generalize w4.drew = w5 at *
    gi_wp2
    refine ⟨by simp, .inl ⟨_, _, rfl, run_takeDeferred hd2, ?_⟩⟩
    exact ⟨_, results_tmp2 rfl _ _ _, s, rfl, HO2.put_deferred hd2 _, HJ2.grown (grownBy_putObj' w5 (w.heap.size + 4) _) HJ2.size (fun k e => by cases e; omega)⟩
end Go.Proofs.YtcpmkbemkhacnaaDoor
