/- A part of the claim: the texts Awake13B. -/
import Derived.Test.YthmdiaingolfnaaGreatDoorZAwake13
namespace Go.Proofs.YthmdiaingolfnaaGreatDoor.Cn
open Go.ChangeShapes Go.WideShapes Go.ChangeAt Go.RowKit Rw Go.Shelf Go.Sort Tx
set_option linter.unusedVariables false
set_option maxRecDepth 100000 in
theorem awake13_any (w : World) (hT : Tb.Tabs w) :
    Calls Tryz.prog 155 #[] w fun e w' => e = .returned (.bool true) ∧ Below w.heap.size w w' := by
  have HT := Lib.hid hT
  clear hT
  go_enter Tryz.func155, Tryz.ntmps155
  go_wp2_with fail
  refine (default_any _).mono ?_
  rintro e w1 ⟨rfl, b1⟩
  go_wp2_with fail
  refine (text_dflt _ (HT.out.below b1)).mono ?_
  rintro e w2 ⟨rfl, b2⟩
  have B2 := Lib.hid (b1.trans (b2.mono b1.size))
  clear b1 b2
  go_wp2_with fail
  refine (Lc.Awake12_any _ (HT.out.below B2.out).tab).mono ?_
  rintro e w3 ⟨rfl, b3⟩
  have B3 := Lib.hid (B2.out.trans (b3.mono B2.out.size))
  clear b3
  have hd : ((bts dtext).toList == [109, 97, 120, 61, 52, 32, 109, 105, 110, 61, 49, 32, 105, 100, 108, 101, 61, 49, 48, 48, 32, 108, 105, 102, 101, 61, 49, 48, 48, 48, 32, 107, 101, 101, 112, 61, 53, 48, 32, 108, 101, 97, 107, 61, 50, 48, 48, 32, 118, 97, 114, 105, 97, 110, 99, 101, 61, 48, 46, 50, 53]) = true := by decide +kernel
  go_wp2_with fail
  go_ret
  exact ⟨rfl, B3.out⟩
theorem Awake13_any (w : World) (hT : Tb.Tabs w) :
    Calls Tryz.prog 150 #[] w fun e w' => e = .returned (.bool true) ∧ Below w.heap.size w w' := by
  go_enter Tryz.func150, Tryz.ntmps150
  go_wp2_with fail
  refine (awake13_any _ hT).mono ?_
  rintro e w1 ⟨rfl, b1⟩
  go_wp2_with fail
  go_ret
  exact ⟨rfl, b1⟩
end Go.Proofs.YthmdiaingolfnaaGreatDoor.Cn
