/-
  From the row's list of variables to what a contract of the library asks of a table: wherever on the list it stands.
-/
import Derived.Test.YtbjahiebajgfeaaDoorRows
import Derived.WalkSmall
import Derived.Lib.LaidTab
import Derived.Lib.ItoaNum
import Derived.Stop.LaidErr
namespace Go.Proofs.YtbjahiebajgfeaaDoor.base
open Go Go.RowKit

theorem tab_of_vars {P : Program} {W : World} {name : String} {k : IntKind} {zs : List Int} {g : Nat} {t e : TypeId} {n : Nat}
    (hg : P.globalNamed name = some g) (hty : (P.globals[g]?).map (·.type) = some t) (ht : P.underlying t = some (.array n e)) (he : P.underlying e = some (.int k)) (hce : P.cellsOf e = 1) (hct : P.cellsOf t = n) :
    ∀ (laid : List (String × DataW Unit)) (ps : List MemPlace), DataW.LaidVars P W laid ps → (name, Lib.tabData k zs) ∈ laid → Lib.TabIs P W name k zs := by
  intro laid
  induction laid with
  | nil => intro ps _ hm; cases hm
  | cons x r ih =>
    obtain ⟨m, d⟩ := x
    intro ps h hm
    obtain ⟨g', t', cs, fuel, p, q, hg', ht', hvar, hd, hr, _⟩ := h
    rcases List.mem_cons.1 hm with hh | hh
    · obtain ⟨rfl, rfl⟩ := Prod.mk.inj hh
      obtain rfl := Option.some.inj (hg.symm.trans hg')
      obtain rfl := Option.some.inj (hty.symm.trans ht')
      unfold Lib.TabIs
      rw [hvar, ← Lib.cells_of_tab ht he hce hct hd]
    · exact ih q hr hh

theorem tab_below {P : Program} {B : Nat} {W W' : World} {name : String} {k : IntKind} {zs : List Int} {g : Nat} (hg : P.globalNamed name = some g) (hB : g < B) (hb : Below B W W') (h : Lib.TabIs P W name k zs) : Lib.TabIs P W' name k zs :=
  var?_below hb hg hB h

theorem tab_lt {P : Program} {W : World} {name : String} {k : IntKind} {zs : List Int} {g : Nat} (hg : P.globalNamed name = some g) (hz : 0 < zs.length) (h : Lib.TabIs P W name k zs) : g < W.heap.size :=
  World.block_lt_of_cell? _ _ (h.cell hg 0 hz)

theorem gPow : Tryd.prog.globalNamed "internal/strconv.uint64pow10" = some 3 := by kernel_rfl
theorem gPowType : (Tryd.prog.globals[3]?).map (·.type) = some 80 := by kernel_rfl
theorem cellsArr : Tryd.prog.cellsOf 80 = 20 := by kernel_rfl
theorem cellsU64 : Tryd.prog.cellsOf 35 = 1 := by kernel_rfl
def Pow (W : World) : Prop := Lib.TabIs Tryd.prog W "internal/strconv.uint64pow10" .u64 Lib.pow10Tab
theorem Pow.below {W W' : World} (h : Pow W) (hb : Below W.heap.size W W') : Pow W' := tab_below gPow (tab_lt gPow (by decide) h) hb h
theorem pow_of_laid {W : World} {laid : List (String × DataW Unit)} (hm : ("internal/strconv.uint64pow10", Lib.tabData .u64 Lib.pow10Tab) ∈ laid) (h : laidMet Tryd.prog laid W) : Pow W := by
  obtain ⟨ps, hv, _⟩ := h
  exact tab_of_vars gPow gPowType Tryd.underlying80 Tryd.underlying35 cellsU64 cellsArr laid ps hv hm

theorem star : "*" ++ "errors.errorString" = "*errors.errorString" := by decide
theorem rowErr (u : TypeId) (h : Tryd.prog.typeName? 3 u = some "*errors.errorString") : u = 86 :=
  typeName_ptr_named (nm := "errors.errorString") (by rw [star]; kernel_rfl) (by kernel_rfl) (by decide) u (by rw [star]; exact h)
theorem gSyn : Tryd.prog.globalNamed "strconv.ErrSyntax" = some 0 := by kernel_rfl
theorem gRan : Tryd.prog.globalNamed "strconv.ErrRange" = some 1 := by kernel_rfl
theorem gSynType : (Tryd.prog.globals[0]?).map (·.type) = some 46 := by kernel_rfl
theorem gRanType : (Tryd.prog.globals[1]?).map (·.type) = some 46 := by kernel_rfl
theorem cellsErr : Tryd.prog.cellsOf 88 = 1 := by kernel_rfl
theorem cellsStr : Tryd.prog.cellsOf 9 = 1 := by kernel_rfl
theorem sentinel_cell {W : World} {n : String} {g : Nat} {text : List UInt8} (hg : Tryd.prog.globalNamed n = some g) (ht : (Tryd.prog.globals[g]?).map (·.type) = some 46) :
    ∀ laid : List (String × DataW Unit), laidMet Tryd.prog laid W → (n, DataW.iface "*errors.errorString" (.ptr (.agg [.lit (.string text)]))) ∈ laid → ∃ ev, W.cell? ⟨g, 0, none⟩ = some ev ∧ (ev = .nilIface ∨ ∃ te pe, ev = .iface te pe) := by
  intro laid
  induction laid with
  | nil => intro _ hm; cases hm
  | cons x r ih =>
    intro h hm
    rcases List.mem_cons.1 hm with rfl | hh
    · obtain ⟨a, s, hv, _⟩ := laid_sentinel h hg ht Tryd.underlying46 rowErr Tryd.underlying86 Tryd.underlying88 rfl rfl Tryd.underlying9 cellsErr cellsStr
      exact ⟨_, by simpa using World.var?_cell hg hv 0, .inr ⟨_, _, rfl⟩⟩
    · exact ih h.tail hh
end Go.Proofs.YtbjahiebajgfeaaDoor.base
