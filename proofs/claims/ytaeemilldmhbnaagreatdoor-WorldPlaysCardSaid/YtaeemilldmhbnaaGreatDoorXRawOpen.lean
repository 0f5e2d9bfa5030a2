/- A part of the claim: the texts RawOpen. -/
import Derived.Test.YtaeemilldmhbnaaGreatDoorXGFltE
import Derived.Test.YtaeemilldmhbnaaGreatDoorXBase1
import Derived.WalkKit
import Derived.ProofKit
set_option maxRecDepth 100000
set_option linter.unusedVariables false
namespace Go.Proofs.YtaeemilldmhbnaaGreatDoor.Cn
open Go Go.ChangeShapes Go.WideShapes Go.ChangeAt Go.RowKit Go.Deep Rw
theorem open_raw {H:Type} {enc:TypeId × Value→H} {W:World} {base b0:Nat} {sp:Nat→Bool} {a9:Bool} {v:Value} {d:DataW H} {p:List MemPlace}
  (k0:Value.okWide Tryz.prog W .any b0 24 v) (h0:DataW.Trod enc Tryz.prog W base sp a9 24 v d p) :
  ∃ c:Cf,v=.agg #[.int .i64 c.max,.int .i64 c.min,.int .u64 c.idle,.int .u64 c.life,.int .u64 c.keep,.int .u64 c.leak,.int .u64 c.var] ∧ c.ok:=by
 have k1:Tryz.prog.cellsOf 22=1:=by kernel_rfl
 have k2:Tryz.prog.cellsOf 3=1:=by kernel_rfl
 obtain ⟨cs,rfl,hn⟩:=okWide_struct Tryz.underlying24 k0
 obtain ⟨ac,h⟩:=h0
 obtain ⟨xs,n,_,-,hl,a7,h⟩:=DataW.trod_struct Tryz.underlying24 h
 have a8:cs.size=7:=hn.trans (by kernel_rfl)
 have u:∀ i,i < 7 → ∃ y,xs[i]? = some y:=fun i hi=>⟨xs[i]'(by rw [a7]; exact hi),List.getElem?_eq_getElem (by rw [a7]; exact hi)⟩
 obtain ⟨l⟩:=cs
 match l,a8,h with
 | [a0,a1,a2,a3,a4,a5,a6],_,h=>
  obtain ⟨y0,g0⟩:=u 0 (by decide)
  have q0:=h 0 _ rfl
  rw [g0] at q0
  obtain ⟨z0,F,-,u0⟩:=DataW.trod_int Tryz.underlying3 q0
  simp [Value.cells,k2] at F
  obtain ⟨y1,g1⟩:=u 1 (by decide)
  have q1:=h 1 _ rfl
  rw [g1] at q1
  obtain ⟨z1,G,-,u1⟩:=DataW.trod_int Tryz.underlying3 q1
  simp [Value.cells,k2] at G
  obtain ⟨y2,g2⟩:=u 2 (by decide)
  have q2:=h 2 _ rfl
  rw [g2] at q2
  obtain ⟨z2,I,-,u2⟩:=DataW.trod_int Tryz.underlying22 q2
  simp [Value.cells,k1] at I
  obtain ⟨y3,g3⟩:=u 3 (by decide)
  have q3:=h 3 _ rfl
  rw [g3] at q3
  obtain ⟨z3,J,-,u3⟩:=DataW.trod_int Tryz.underlying22 q3
  simp [Value.cells,k1] at J
  obtain ⟨y4,g4⟩:=u 4 (by decide)
  have q4:=h 4 _ rfl
  rw [g4] at q4
  obtain ⟨z4,N,-,u4⟩:=DataW.trod_int Tryz.underlying22 q4
  simp [Value.cells,k1] at N
  obtain ⟨y5,g5⟩:=u 5 (by decide)
  have q5:=h 5 _ rfl
  rw [g5] at q5
  obtain ⟨z5,Y,-,u5⟩:=DataW.trod_int Tryz.underlying22 q5
  simp [Value.cells,k1] at Y
  obtain ⟨y6,g6⟩:=u 6 (by decide)
  have q6:=h 6 _ rfl
  rw [g6] at q6
  obtain ⟨z,e6,-,u6⟩:=DataW.trod_int Tryz.underlying22 q6
  simp [Value.cells,k1] at e6
  subst F G I J N Y e6
  have aa:=Wd.lo_u64 u6
  refine ⟨⟨z0,z1,z2,z3,z4,z5,z.toNat⟩,?_,⟨Wd.lo_u64 u2,Wd.lo_u64 u3,Wd.lo_u64 u4,Wd.lo_u64 u5,?_⟩⟩
  ·show _=Value.agg #[_,_,_,_,_,_,.int .u64 ((z.toNat:Nat):Int)]
   rw [Int.toNat_of_nonneg aa.1]
  ·show z.toNat < 18446744073709551616
   omega
end Go.Proofs.YtaeemilldmhbnaaGreatDoor.Cn
