/- What a law is told of the variables that its row lists, and of the world's shape. -/
import Derived.Test.YtpgeeeamcncpkaaGreatDoorHa
import Derived.Test.YtpgeeeamcncpkaaGreatDoorJn
import Derived.Test.YtpgeeeamcncpkaaGreatDoorPa
import Derived.Lib.LaidTab
namespace Go.Proofs.YtpgeeeamcncpkaaGreatDoor
open Go.ChangeShapes Go.WideShapes Go.ChangeAt Go.RowKit
set_option maxRecDepth 100000
set_option linter.unusedVariables false

/-- The library's frame with a condition on memory, and with the world's shape handed on. -/
theorem returnsInHanded_and_shaped {H : Type} {enc : TypeId × Value → H} {a : Assume} {C : Checked} {os : Os} {f : FuncId} {fn : Func} {s : ChangeSpec} {conds : List PathCond} {apart fresh handsOn again : Bool} {X : World → Array Value → Prop}
    (hX : ∀ (w w' : World) (args : Array Value), w.heap = w'.heap → X w args → X w' args)
    (own : ownKnob C.prog.godebug = none) (started : os.Started) (noInit : C.prog.inits.idxOf? f = none) (hfn : C.prog.funcs[f]? = some fn)
    (witness : ∃ (w : World) (tape : Tape) (i : Input), w.os = os ∧ (w.forCall tape i).Shaped C.prog ∧ i.vars = [] ∧ Input.okWide C.prog (w.forCall tape i) .any w.heap.size f i ∧
      ((s.pre enc C.prog fn conds apart (w.forCall tape i).memory i.args ∧ X (w.forCall tape i).memory i.args) ∧ sizedMet enc C.prog fn (OpenSpec.ofChange s) apart (w.forCall tape i).memory i.args) ∧ a.holds C.prog (lone (Frame.enter C.prog f i.args .normal) [] (w.forCall tape i)))
    (contract : ∀ (W : World) (base : Nat) (args : Array Value) (ds gs : List (DataW H)) (before : List MemPlace),
      (∀ (j : Nat) t v, fn.params[j]? = some t → args[j]? = some v → Value.okWide C.prog W .any base t v) →
      DataW.Whole enc C.prog fn.params.toList s.vars apart W args.toList ds gs before → W.ShapedOpen C.prog → X W args →
      Calls C.prog f args W fun e W' => ∃ v, e = .returned v ∧ s.post enc C.prog fn apart fresh handsOn again W args v W') :
    ReturnsInHanded a C os f .any (fun w args => (s.pre enc C.prog fn conds apart w args ∧ X w args) ∧ sizedMet enc C.prog fn (OpenSpec.ofChange s) apart w args) (s.post enc C.prog fn apart fresh handsOn again) := by
  refine returnsInHanded_of_calls own started noInit witness ?_
  intro w tape i _ hsh _ hok hpre hholds
  obtain ⟨_, _, _, fn', hfn', _, _, _, _, hval⟩ := hok
  have e : fn' = fn := Option.some.inj (hfn'.symm.trans hfn)
  subst e
  obtain ⟨⟨⟨ds, gs, before, hw, hc⟩, hx⟩, hz⟩ := hpre
  have hw' := DataW.Whole.of_heap (w' := w.forCall tape i) (by rfl) hw
  refine (contract (w.forCall tape i) w.heap.size i.args ds gs before hval hw' hsh (hX _ _ _ (by rfl) hx)).mono fun e W' ⟨v, he, hp⟩ => ?_
  subst he
  exact ChangeSpec.post_blind hp

theorem laid_vars {P : Program} {laid : List (String × DataW Unit)} {W : World} (hp : (laid.all fun x => x.2.handleName?.isNone) = true) (h : laidMetH P laid W) : ∃ ps, DataW.LaidVars P W laid ps := by
  rw [MakeChecks.laidMetH_plain _ _ _ hp] at h
  obtain ⟨ps, h1, _⟩ := h
  exact ⟨ps, h1⟩
theorem laid_next {P : Program} {x : String × DataW Unit} {laid : List (String × DataW Unit)} {W : World} (h : ∃ ps, DataW.LaidVars P W (x :: laid) ps) : ∃ ps, DataW.LaidVars P W laid ps := by
  obtain ⟨ps, g, t, cs, fuel, p, q, _, _, _, _, h1, _⟩ := h
  exact ⟨_, h1⟩
theorem kt_of_vars {laid : List (String × DataW Unit)} {W : World} (h : ∃ ps, DataW.LaidVars Tryz.prog W (("loop.example/zonefiles/impl.kindRows", Rows.laid_loop_example_zonefiles_impl_kindRows) :: laid) ps) : KT W := by
  obtain ⟨ps, g0, t0, cs0, f0, p0, q0, hg0, ht0, hv0, hd0, _, _⟩ := h
  obtain rfl := Option.some.inj (gKinds.symm.trans hg0)
  obtain rfl := Option.some.inj (tKinds.symm.trans ht0)
  exact kt_of hv0 hd0
theorem tPow : (Tryz.prog.globals[2]?).map (·.type) = some 215 := by kernel_rfl
theorem pt_of_vars {laid : List (String × DataW Unit)} {W : World} (h : ∃ ps, DataW.LaidVars Tryz.prog W (("internal/strconv.uint64pow10", Rows.laid_internal_strconv_uint64pow10) :: laid) ps) : PT W := by
  obtain ⟨ps, g0, t0, cs0, f0, p0, q0, hg0, ht0, hv0, hd0, _, _⟩ := h
  obtain rfl := Option.some.inj (gPow.symm.trans hg0)
  obtain rfl := Option.some.inj (tPow.symm.trans ht0)
  have e := Lib.cells_of_tab (k := .u64) (zs := Lib.pow10Tab) Tryz.underlying215 Tryz.underlying175 (by kernel_rfl) (by kernel_rfl) hd0
  have hx : Lib.TabIs Tryz.prog W "internal/strconv.uint64pow10" .u64 Lib.pow10Tab := by
    unfold Lib.TabIs
    rw [hv0, ← e]
  refine ⟨?_, hx⟩
  have h0 := hx.cell gPow 0 (by decide)
  rcases Nat.lt_or_ge 2 W.heap.size with h1 | h1
  · exact h1
  · unfold World.cell? at h0
    rw [Array.getElem?_eq_none h1] at h0
    cases h0
theorem mx_of_shaped {W : World} (h : W.ShapedOpen Tryz.prog) : MX W := by
  obtain ⟨m, hm⟩ := Tryz.laysM143.s1_3 W h
  exact mx_of hm
end Go.Proofs.YtpgeeeamcncpkaaGreatDoor
