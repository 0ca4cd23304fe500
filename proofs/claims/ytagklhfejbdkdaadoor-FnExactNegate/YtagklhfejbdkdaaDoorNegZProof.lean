/-
  What the listed error of too many nodes gives a walk: its cell holds an error.
  For every slice of nodes, the program's Negate answers as the model's: the law FnExactNegate returns true and changes nothing that was there.
-/
import Derived.Test.YtagklhfejbdkdaaDoorOpenZ
import Derived.Test.YtagklhfejbdkdaaDoorNegZ
import Derived.Test.YtagklhfejbdkdaaDoorRows
import Derived.Test.YtagklhfejbdkdaaDoorTie
import Derived.Test.YtagklhfejbdkdaaDoorCards
import Derived.OpenShut
import Derived.ShutString
import Derived.Carry
namespace Go.Proofs.YtagklhfejbdkdaaDoor
open Go.ChangeShapes Go.WideShapes Go.RowKit
def isIf (o : Option TypeDesc) : Bool := match o with
  | some (.interface _) => true
  | _ => false
theorem iface_of {o : Option TypeDesc} (h : isIf o = true) : ∃ ms, o = some (.interface ms) := by
  unfold isIf at h
  split at h
  · exact ⟨_, rfl⟩
  · cases h
theorem trod_iface_cell {H : Type} {enc : TypeId × Value → H} {P : Program} {w : World} {base : Nat} {spare : Nat → Bool} {fuel : Nat} {t : TypeId} {cs : List Value} {name : String} {d : DataW H} {p : List MemPlace} (ht : ∃ ms, P.underlying t = some (.interface ms)) (h : DataW.trod enc P w base spare false fuel t cs = some (.iface name d, p)) : ∃ u v, cs = [.iface u v] := by
  obtain ⟨ms, ht⟩ := ht
  cases fuel with
  | zero => simp [DataW.trod] at h
  | succ m =>
    unfold DataW.trod at h
    rw [ht] at h
    split at h <;> simp_all
theorem Tryd.gEm : Tryd.prog.globalNamed "loop.example/g00759/impl.errManyNodes" = some 0 := by kernel_rfl
theorem Tryd.tEm : (Tryd.prog.globals[0]?).map (·.type) = some 62 := by kernel_rfl
theorem kwE_of_laid {l : List (String × DataW Unit)} (hp : (l.all fun x => x.2.handleName?.isNone) = true) {W : World} (h : laidMetH Tryd.prog l W)
    (hm : ("loop.example/g00759/impl.kindWords", Rows.laid_loop_example_g00759_impl_kindWords) ∈ l) (hm2 : ("loop.example/g00759/impl.errManyNodes", Rows.laid_loop_example_g00759_impl_errManyNodes) ∈ l) : KwE W := by
  have hk := kw_of_laid hp h hm
  obtain ⟨g, t, cs, fuel, p, hg, ht, hv, hd⟩ := laid_mem hp h hm2
  obtain rfl := Option.some.inj (Tryd.gEm.symm.trans hg)
  obtain rfl := Option.some.inj (Tryd.tEm.symm.trans ht)
  unfold Rows.laid_loop_example_g00759_impl_errManyNodes at hd
  obtain ⟨u, v, e⟩ := trod_iface_cell (P := Tryd.prog) (t := 62) (iface_of (by kernel_rfl)) hd
  have hc := World.var?_cell hg hv 0
  have h0 : cs[0]? = some (.iface u v) := by
    have : cs.toList[0]? = some (.iface u v) := by rw [e]; rfl
    simpa using this
  rw [h0] at hc
  exact ⟨hk, ⟨u, v, hc⟩, (spot_none hc).2⟩
end Go.Proofs.YtagklhfejbdkdaaDoor
namespace Go.Proofs.YtagklhfejbdkdaaDoor
open Go.ChangeShapes Go.WideShapes Go.ChangeAt Go.RowKit
open Go.ChangeMaps (open_string shut_string)

theorem negate_met (os : Os) (args : Array Value) : laidMetH Tryd.prog Rows.fnExactNegateRow.laid ((World.doorLaid Tryd.prog 400 os).forCall (fun _ _ => 0) ⟨#[], args, []⟩).memory :=
  laidMetH_of_parts3 (fuel := 8) (laidMet_of_run' 8 (by kernel_rfl) (by kernel_rfl)) (by kernel_rfl) (by kernel_rfl)

set_option maxRecDepth 100000 in
theorem negate_lifted (os : Os) (started : os.Started) (H : Type) (enc : TypeId × Value → H) :
    ReturnsInHanded {} Tryd.checked os 4 .any (fun w args => (Rows.fnExactNegateSpec.pre enc Tryd.prog Tryd.f4 [] false w args ∧ laidMetH Tryd.prog Rows.fnExactNegateRow.laid w) ∧ sizedMet enc Tryd.prog Tryd.f4 (OpenSpec.ofChange Rows.fnExactNegateSpec) false w args)
      (Rows.fnExactNegateSpec.post enc Tryd.prog Tryd.f4 false true false false) := by
  refine returnsInHanded_of_change_and (C := Tryd.checked) (X := fun w _ => laidMetH Tryd.prog Rows.fnExactNegateRow.laid w) (fun _ _ _ hh h => h.of_heap hh) Tryd.own started (by kernel_rfl) Tryd.func4
    (ChangeSpec.witness_shaped (enc := enc) (C := Tryd.checked) (os := os) (X := fun w _ => laidMetH Tryd.prog Rows.fnExactNegateRow.laid w) false (World.doorLaid Tryd.prog 400 os) #[.slice none 0 0] 8 rfl (World.shaped_of_RefB (by kernel_rfl) (by kernel_rfl)) (by kernel_rfl) (by kernel_rfl) (by kernel_rfl) (negate_met os _)) ?_
  intro W base args ds gs before hval0 hW _ _ hL _
  have hval : ∀ (j : Nat) t v, Tryd.f4.params[j]? = some t → args[j]? = some v → Value.okWide Tryd.prog W .any base t v := hval0
  have hW' := hW
  obtain ⟨p, q, hA0, hV, rfl, hfz, hnd⟩ := hW
  have hA : DataW.TrodAll enc Tryd.prog W 0 (fun _ => true) true Tryd.f4.params.toList args.toList ds p := hA0
  rw [Tryd.params4] at hA hval
  obtain ⟨v0, d0, rfl, rfl, h0⟩ := trodAll_one hA
  obtain ⟨a0, l0, c0, rfl⟩ := okWide_slice Tryd.underlying22 (hval 0 22 v0 rfl rfl)
  obtain ⟨a0', c0', x0, hv0, hI0⟩ := open_nodes rfl h0
  simp only [Value.slice.injEq] at hv0
  obtain ⟨rfl, rfl, rfl⟩ := hv0
  obtain ⟨g0, g1, rfl⟩ := len2 (trodVars_len hV)
  have hk := kwE_of_laid (by kernel_rfl) hL (by simp [Rows.fnExactNegateRow]) (by simp [Rows.fnExactNegateRow])
  have hlt0 : ∀ x ∈ p, MemPlace.block x < W.heap.size := by obtain ⟨m, hm⟩ := h0; exact DataW.trod_lt m _ _ _ hm
  refine (walkNegate a0 c0 x0 W hI0 hk (spot_none hk.kw.c0).2).mono fun e W' ⟨he, hb⟩ => ?_
  subst he
  exact ⟨_, rfl, _, _, _, [], _, _, hW', trodAll_mk1 (shut_bool Tryd.underlying4 _), trodAll_mk1 (Below.trod Tryd.laidOut (by kernel_rfl) (of_decide_eq_true (by kernel_rfl)) h0 hb hlt0), Below.trodVars Tryd.laidOut hb (by kernel_rfl) hV, hb.frame _, fun h => by cases h⟩

theorem negate_row : Rows.FnExactNegateSaid :=
  OpenClaim.holds_of_wide 4 Tryd.f4 rfl rfl rfl rfl rfl rfl rfl ⟨rfl, rfl, rfl, rfl, rfl⟩ rfl rfl rfl rfl rfl (by kernel_rfl) Tryd.func4 (by kernel_rfl)
    (of_decide_eq_true (by kernel_rfl)) (by unfold Func.isWrapper; first | (rw [if_pos (by decide +kernel)]; kernel_rfl) | (rw [if_neg (by decide +kernel)]; exact ⟨rfl, rfl⟩))
    (fun os started H enc _ => negate_lifted os started H enc)

theorem negate_proved : Rows.FnExactNegateCardSaid :=
  Claim7.holds_tied_plain_at .later [] _ _ _ _ negate_row (fun _ h => by cases h) (by kernel_rfl) (fun _ h => by cases h) fnExactNegate_row_tie rfl ⟨rfl, rfl⟩ (by kernel_rfl) rfl
    (fun f fn hf hfn => by
      obtain rfl : f = 4 := Option.some.inj ((show Tryd.prog.funcNamed "loop.example/g00759/laws.FnExactNegate" = some 4 by kernel_rfl).symm.trans hf) |>.symm
      obtain rfl : fn = Tryd.f4 := (Option.some.inj (Tryd.func4.symm.trans hfn)).symm
      exact ⟨by kernel_rfl, fun j t ht => by
        rw [Tryd.params4] at ht
        have hm : t ∈ [22] := by simpa using Array.mem_of_getElem? ht
        have hall : ([22].all fun u => !Tryd.prog.wantsStandIn u) = true := by kernel_rfl
        exact (show Tryd.prog.wantsStandIn t = false by simpa using List.all_eq_true.1 hall t hm)⟩)
    (by kernel_rfl)
#print axioms negate_proved
end Go.Proofs.YtagklhfejbdkdaaDoor
