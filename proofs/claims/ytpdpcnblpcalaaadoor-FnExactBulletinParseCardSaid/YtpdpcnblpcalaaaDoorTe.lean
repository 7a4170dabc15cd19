/- The library's table and the sentinel, out of the row's list; a world that meets it. -/
import Derived.Test.YtpdpcnblpcalaaaDoorGd
namespace Go.Proofs.YtpdpcnblpcalaaaDoor
open Go.RowKit Go.Lib
set_option linter.unusedVariables false

theorem gSn : Tryd.prog.globalNamed "loop.example/weatherarchive/impl.errUnreadable" = some 0 := by kernel_rfl
theorem gSnType : (Tryd.prog.globals[0]?).map (·.type) = some 51 := by kernel_rfl
theorem snStar : "*" ++ "errors.errorString" = "*errors.errorString" := by decide
theorem snRow (u : TypeId) (h : Tryd.prog.typeName? 3 u = some "*errors.errorString") : u = 119 :=
  typeName_ptr_named (nm := "errors.errorString") (by rw [snStar]; kernel_rfl) (by kernel_rfl) (by decide) u (by rw [snStar]; exact h)
set_option maxRecDepth 100000 in
theorem tabsE_of_laid {W : World} (h : laidMetH Tryd.prog [("math/bits.deBruijn32tab", Rows.laid_math_bits_deBruijn32tab), ("math/bits.deBruijn64tab", Rows.laid_math_bits_deBruijn64tab), ("internal/strconv.uint64pow10", Rows.laid_internal_strconv_uint64pow10), ("loop.example/weatherarchive/impl.errUnreadable", Rows.laid_loop_example_weatherarchive_impl_errUnreadable)] W) : TabsE W := by
  have h' : laidMet Tryd.prog [("math/bits.deBruijn32tab", Rows.laid_math_bits_deBruijn32tab), ("math/bits.deBruijn64tab", Rows.laid_math_bits_deBruijn64tab), ("internal/strconv.uint64pow10", Rows.laid_internal_strconv_uint64pow10), ("loop.example/weatherarchive/impl.errUnreadable", Rows.laid_loop_example_weatherarchive_impl_errUnreadable)] W := h
  obtain ⟨ps, ⟨_, _, _, _, _, _, _, _, _, _, ⟨_, _, _, _, _, _, _, _, _, _, ⟨g', t', cs, fuel, p, q, hg', ht', hvar, hd, ⟨g0, t0, cs0, f0, p0, q0, hg0, ht0, hv0, hd0, hrest, e0⟩, e1⟩, e2⟩, e3⟩, hnd, hrows⟩ := h'
  constructor
  · obtain rfl := Option.some.inj (gTab.symm.trans hg')
    obtain rfl := Option.some.inj (gTabType.symm.trans ht')
    rw [tabData_eq] at hd
    unfold Tabs TabIs
    rw [hvar, ← cells_of_tab Tryd.underlying111 Tryd.underlying105 cellsElt cellsTab hd]
  · obtain rfl := Option.some.inj (gSn.symm.trans hg0)
    obtain rfl := Option.some.inj (gSnType.symm.trans ht0)
    obtain ⟨l0⟩ := cs0
    have ok0 : ∀ u v, l0 = [.iface u v] → Value.okWide Tryd.prog W .any 0 u v := fun u v e => by
      subst e
      exact (hrows 0 0 (by rw [e3, e2, e1, e0]; simp [MemPlace.row])).2 u v (by simpa using World.var?_cell gSn hv0 0)
    obtain ⟨a0, s0, rfl, hc0, hs0, hz0, _⟩ := errorString_of_trod Tryd.underlying51 snRow Tryd.underlying119 Tryd.underlying143 rfl rfl Tryd.underlying9 (by kernel_rfl) (by kernel_rfl) hd0 ok0
    exact ⟨a0, by simpa using World.var?_cell gSn hv0 0⟩
noncomputable def lowE : Nat := (World.holding Tryd.prog default ⟨#[], #[], []⟩).heap.size
def snText : ByteArray := ⟨#[117, 110, 114, 101, 97, 100, 97, 98, 108, 101, 32, 116, 101, 120, 116]⟩
/-- A world that meets the list. -/
noncomputable def laidWorldE (os : Os) : World :=
  { World.holding Tryd.prog os ⟨#[.cells #[.string snText] 143], #[], []⟩ with heap := ((((World.holding Tryd.prog os ⟨#[.cells #[.string snText] 143], #[], []⟩).heap.modify 3 (layAt (laidCells Rows.laid_math_bits_deBruijn32tab))).modify 4 (layAt (laidCells Rows.laid_math_bits_deBruijn64tab))).modify 2 (layAt (laidCells Rows.laid_internal_strconv_uint64pow10))).modify 0 (layAt #[.iface 119 (.pointer (some ⟨lowE, 0, none⟩))]) }
end Go.Proofs.YtpdpcnblpcalaaaDoor
