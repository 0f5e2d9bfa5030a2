/- A part of the claim: the texts ConfRef RawMake. -/
import Derived.Test.YtaeemilldmhbnaaGreatDoorXGFltE
import Derived.Test.YtaeemilldmhbnaaGreatDoorXBase1
import Derived.Deep.CutRange
import Derived.Deep.MidRow
set_option maxRecDepth 100000
set_option maxHeartbeats 8000000
set_option linter.unusedVariables false
namespace Go.Proofs.YtaeemilldmhbnaaGreatDoor.Cn
open Go Go.ChangeShapes Go.WideShapes Go.ChangeAt Go.RowKit Rw
theorem mx2_le {a b M:Int} : mx2 a b≤M↔a≤M∧b≤M:=by unfold mx2; split <;> omega
theorem rcheck13_any (c:Cf) (h:c.ok) (w:World) :
  Calls Tryz.prog 39 #[c.v] w fun e w'=>e=.returned (.int .i64 (cfE c))∧Below w.heap.size w w':=by
 obtain ⟨mx,F,u,lf,z,lk,vr⟩:=c
 have I:=Lh (fun w=>Fl.rcheck_any vr 0 4607182418800017408 w h.var (by decide) (by decide))
 have G:Cf.hi ⟨mx,F,u,lf,z,lk,vr⟩=mx2 (mx2 (mx2 u lf) z) lk:=rfl
 unfold cfE
 simp only [G]
 clear h G
 by_cases h1:mx < 1
 ·have J:decide (mx < 1)=true:=decide_eq_true h1
  rw [if_pos (.inl h1)]
  clear h1
  go_enter Tryz.func39,Tryz.ntmps39
  go_wp2_with fail
  go_ret
  exact ⟨rfl,(Below.refl _ _).alloc (Nat.le_refl _) _⟩
 have J:decide (mx < 1)=false:=decide_eq_false h1
 by_cases h2:16 < mx
 ·have N:decide (16 < mx)=true:=decide_eq_true h2
  rw [if_pos (.inr (.inl h2))]
  clear h1 h2
  go_enter Tryz.func39,Tryz.ntmps39
  go_wp2_with fail
  go_ret
  exact ⟨rfl,(Below.refl _ _).alloc (Nat.le_refl _) _⟩
 have N:decide (16 < mx)=false:=decide_eq_false h2
 by_cases h3:F < 0
 ·have W:decide (F < 0)=true:=decide_eq_true h3
  rw [if_pos (.inr (.inr (.inl h3)))]
  clear h1 h2 h3
  go_enter Tryz.func39,Tryz.ntmps39
  go_wp2_with fail
  go_ret
  exact ⟨rfl,(Below.refl _ _).alloc (Nat.le_refl _) _⟩
 have W:decide (F < 0)=false:=decide_eq_false h3
 by_cases h4:mx < F
 ·have Y:decide (mx < F)=true:=decide_eq_true h4
  rw [if_pos (.inr (.inr (.inr h4)))]
  clear h1 h2 h3 h4
  go_enter Tryz.func39,Tryz.ntmps39
  go_wp2_with fail
  go_ret
  exact ⟨rfl,(Below.refl _ _).alloc (Nat.le_refl _) _⟩
 have Y:decide (mx < F)=false:=decide_eq_false h4
 rw [if_neg (by omega)]
 clear h1 h2 h3 h4
 unfold hiE
 by_cases h5:1152921504606846976 < u
 ·have q5:decide (1152921504606846976 < u)=true:=decide_eq_true h5
  rw [if_pos (by rcases Int.lt_or_le 1152921504606846976 (mx2 (mx2 (mx2 u lf) z) lk) with h | h; exact h; rw [mx2_le,mx2_le,mx2_le] at h; omega)]
  clear h5
  go_enter Tryz.func39,Tryz.ntmps39
  go_wp2_with fail
  go_ret
  exact ⟨rfl,(Below.refl _ _).alloc (Nat.le_refl _) _⟩
 have q5:decide (1152921504606846976 < u)=false:=decide_eq_false h5
 by_cases h6:1152921504606846976 < lf
 ·have q6:decide (1152921504606846976 < lf)=true:=decide_eq_true h6
  rw [if_pos (by rcases Int.lt_or_le 1152921504606846976 (mx2 (mx2 (mx2 u lf) z) lk) with h | h; exact h; rw [mx2_le,mx2_le,mx2_le] at h; omega)]
  clear h5 h6
  go_enter Tryz.func39,Tryz.ntmps39
  go_wp2_with fail
  go_ret
  exact ⟨rfl,(Below.refl _ _).alloc (Nat.le_refl _) _⟩
 have q6:decide (1152921504606846976 < lf)=false:=decide_eq_false h6
 by_cases h7:1152921504606846976 < z
 ·have q7:decide (1152921504606846976 < z)=true:=decide_eq_true h7
  rw [if_pos (by rcases Int.lt_or_le 1152921504606846976 (mx2 (mx2 (mx2 u lf) z) lk) with h | h; exact h; rw [mx2_le,mx2_le,mx2_le] at h; omega)]
  clear h5 h6 h7
  go_enter Tryz.func39,Tryz.ntmps39
  go_wp2_with fail
  go_ret
  exact ⟨rfl,(Below.refl _ _).alloc (Nat.le_refl _) _⟩
 have q7:decide (1152921504606846976 < z)=false:=decide_eq_false h7
 by_cases h8:1152921504606846976 < lk
 ·have q8:decide (1152921504606846976 < lk)=true:=decide_eq_true h8
  rw [if_pos (by rcases Int.lt_or_le 1152921504606846976 (mx2 (mx2 (mx2 u lf) z) lk) with h | h; exact h; rw [mx2_le,mx2_le,mx2_le] at h; omega)]
  clear h5 h6 h7 h8
  go_enter Tryz.func39,Tryz.ntmps39
  go_wp2_with fail
  go_ret
  exact ⟨rfl,(Below.refl _ _).alloc (Nat.le_refl _) _⟩
 have q8:decide (1152921504606846976 < lk)=false:=decide_eq_false h8
 rw [if_neg (by rw [Int.not_lt,mx2_le,mx2_le,mx2_le]; omega)]
 clear h5 h6 h7 h8
 go_enter Tryz.func39,Tryz.ntmps39
 go_wp2_with fail
 refine (I.out _).mono ?_
 rintro e w1 ⟨rfl,rfl⟩
 go_wp2_with fail
 go_ret
 exact ⟨rfl,(Below.refl _ _).alloc (Nat.le_refl _) _⟩
theorem under_c:Tryz.prog.underlying 30=some (Tryz.prog.underlying 30).get!:=by kernel_rfl
theorem row_c:((Tryz.prog.underlying 30).get!).isRow=true:=by kernel_rfl
theorem res_c {fn:Func} {p:Tmp} (u:Array Value) (w:World) (g:Nat) (v:Value) (h:fn.results=#[.cell p 30]) (z:u.getD p undef=.pointer (some ⟨g,0,none⟩)) (G:(loadVar 30 ⟨g,0,none⟩).run Tryz.prog w=.ok v w):(results fn u).run Tryz.prog w=.ok v w:=by
 have F:u[p]?.getD undef=.pointer (some ⟨g,0,none⟩):=by simpa using z
 simp [results,h,F,asAddr,G]
theorem low_cells {B:Nat} (g:Nat) (z:B≤g):∀ (vs:List Value) (o:Nat) (u w:World),Below B u w→Below B u (w.setCells g o vs)
 | [],_,_,_,h=>h
 | v :: r,o,u,w,h=>by
  rw [World.setCells]
  exact low_cells g z r (o+1) u _ (h.setCell (p:=⟨g,o,none⟩) z v)
abbrev Cf.raw (c:Cf):Value:=.agg #[.int .i64 c.max,.int .i64 c.min,.int .u64 c.idle,.int .u64 c.life,.int .u64 c.keep,.int .u64 c.leak,.int .u64 c.var]
theorem make_any (c:Cf) (hc:c.ok) (w:World) :
  Calls Tryz.prog 6 #[c.raw] w fun e w'=>e=.returned c.v∧Below w.heap.size w w':=by
 have hv:=hc.var
 have r0:((w.alloc (.cells #[.int .i64 c.max,.int .i64 c.min,.int .u64 c.idle,.int .u64 c.life,.int .u64 c.keep,.int .u64 c.leak,.int .u64 c.var] 24)).alloc (.cells #[.int .i64 0,.int .i64 0,.int .u64 0,.int .u64 0,.int .u64 0,.int .u64 0,.float .f64 0] 30)).cell? ⟨w.heap.size,0,none⟩=some (.int .i64 c.max):=by go_simp
 have r1:((w.alloc (.cells #[.int .i64 c.max,.int .i64 c.min,.int .u64 c.idle,.int .u64 c.life,.int .u64 c.keep,.int .u64 c.leak,.int .u64 c.var] 24)).alloc (.cells #[.int .i64 0,.int .i64 0,.int .u64 0,.int .u64 0,.int .u64 0,.int .u64 0,.float .f64 0] 30)).cell? ⟨w.heap.size,1,none⟩=some (.int .i64 c.min):=by go_simp
 have r2:((w.alloc (.cells #[.int .i64 c.max,.int .i64 c.min,.int .u64 c.idle,.int .u64 c.life,.int .u64 c.keep,.int .u64 c.leak,.int .u64 c.var] 24)).alloc (.cells #[.int .i64 0,.int .i64 0,.int .u64 0,.int .u64 0,.int .u64 0,.int .u64 0,.float .f64 0] 30)).cell? ⟨w.heap.size,2,none⟩=some (.int .u64 c.idle):=by go_simp
 have r3:((w.alloc (.cells #[.int .i64 c.max,.int .i64 c.min,.int .u64 c.idle,.int .u64 c.life,.int .u64 c.keep,.int .u64 c.leak,.int .u64 c.var] 24)).alloc (.cells #[.int .i64 0,.int .i64 0,.int .u64 0,.int .u64 0,.int .u64 0,.int .u64 0,.float .f64 0] 30)).cell? ⟨w.heap.size,3,none⟩=some (.int .u64 c.life):=by go_simp
 have r4:((w.alloc (.cells #[.int .i64 c.max,.int .i64 c.min,.int .u64 c.idle,.int .u64 c.life,.int .u64 c.keep,.int .u64 c.leak,.int .u64 c.var] 24)).alloc (.cells #[.int .i64 0,.int .i64 0,.int .u64 0,.int .u64 0,.int .u64 0,.int .u64 0,.float .f64 0] 30)).cell? ⟨w.heap.size,4,none⟩=some (.int .u64 c.keep):=by go_simp
 have r5:((w.alloc (.cells #[.int .i64 c.max,.int .i64 c.min,.int .u64 c.idle,.int .u64 c.life,.int .u64 c.keep,.int .u64 c.leak,.int .u64 c.var] 24)).alloc (.cells #[.int .i64 0,.int .i64 0,.int .u64 0,.int .u64 0,.int .u64 0,.int .u64 0,.float .f64 0] 30)).cell? ⟨w.heap.size,5,none⟩=some (.int .u64 c.leak):=by go_simp
 have r6:((w.alloc (.cells #[.int .i64 c.max,.int .i64 c.min,.int .u64 c.idle,.int .u64 c.life,.int .u64 c.keep,.int .u64 c.leak,.int .u64 c.var] 24)).alloc (.cells #[.int .i64 0,.int .i64 0,.int .u64 0,.int .u64 0,.int .u64 0,.int .u64 0,.float .f64 0] 30)).cell? ⟨w.heap.size,6,none⟩=some (.int .u64 c.var):=by go_simp
 have hb:Below w.heap.size w ((w.alloc (.cells #[.int .i64 c.max,.int .i64 c.min,.int .u64 c.idle,.int .u64 c.life,.int .u64 c.keep,.int .u64 c.leak,.int .u64 c.var] 24)).alloc (.cells #[.int .i64 0,.int .i64 0,.int .u64 0,.int .u64 0,.int .u64 0,.int .u64 0,.float .f64 0] 30)):=((Below.refl _ _).alloc (Nat.le_refl _) _).alloc (by simp) _
 have y0:((w.alloc (.cells #[.int .i64 c.max,.int .i64 c.min,.int .u64 c.idle,.int .u64 c.life,.int .u64 c.keep,.int .u64 c.leak,.int .u64 c.var] 24)).alloc (.cells #[.int .i64 0,.int .i64 0,.int .u64 0,.int .u64 0,.int .u64 0,.int .u64 0,.float .f64 0] 30)).cell? ⟨w.heap.size+1,0,none⟩=some (.int .i64 0):=by go_simp
 have F:((w.alloc (.cells #[.int .i64 c.max,.int .i64 c.min,.int .u64 c.idle,.int .u64 c.life,.int .u64 c.keep,.int .u64 c.leak,.int .u64 c.var] 24)).alloc (.cells #[.int .i64 0,.int .i64 0,.int .u64 0,.int .u64 0,.int .u64 0,.int .u64 0,.float .f64 0] 30)).frozen? ⟨w.heap.size+1,0,none⟩=false:=by go_simp
 have y1:((w.alloc (.cells #[.int .i64 c.max,.int .i64 c.min,.int .u64 c.idle,.int .u64 c.life,.int .u64 c.keep,.int .u64 c.leak,.int .u64 c.var] 24)).alloc (.cells #[.int .i64 0,.int .i64 0,.int .u64 0,.int .u64 0,.int .u64 0,.int .u64 0,.float .f64 0] 30)).cell? ⟨w.heap.size+1,1,none⟩=some (.int .i64 0):=by go_simp
 have G:((w.alloc (.cells #[.int .i64 c.max,.int .i64 c.min,.int .u64 c.idle,.int .u64 c.life,.int .u64 c.keep,.int .u64 c.leak,.int .u64 c.var] 24)).alloc (.cells #[.int .i64 0,.int .i64 0,.int .u64 0,.int .u64 0,.int .u64 0,.int .u64 0,.float .f64 0] 30)).frozen? ⟨w.heap.size+1,1,none⟩=false:=by go_simp
 have y2:((w.alloc (.cells #[.int .i64 c.max,.int .i64 c.min,.int .u64 c.idle,.int .u64 c.life,.int .u64 c.keep,.int .u64 c.leak,.int .u64 c.var] 24)).alloc (.cells #[.int .i64 0,.int .i64 0,.int .u64 0,.int .u64 0,.int .u64 0,.int .u64 0,.float .f64 0] 30)).cell? ⟨w.heap.size+1,2,none⟩=some (.int .u64 0):=by go_simp
 have I:((w.alloc (.cells #[.int .i64 c.max,.int .i64 c.min,.int .u64 c.idle,.int .u64 c.life,.int .u64 c.keep,.int .u64 c.leak,.int .u64 c.var] 24)).alloc (.cells #[.int .i64 0,.int .i64 0,.int .u64 0,.int .u64 0,.int .u64 0,.int .u64 0,.float .f64 0] 30)).frozen? ⟨w.heap.size+1,2,none⟩=false:=by go_simp
 have y3:((w.alloc (.cells #[.int .i64 c.max,.int .i64 c.min,.int .u64 c.idle,.int .u64 c.life,.int .u64 c.keep,.int .u64 c.leak,.int .u64 c.var] 24)).alloc (.cells #[.int .i64 0,.int .i64 0,.int .u64 0,.int .u64 0,.int .u64 0,.int .u64 0,.float .f64 0] 30)).cell? ⟨w.heap.size+1,3,none⟩=some (.int .u64 0):=by go_simp
 have J:((w.alloc (.cells #[.int .i64 c.max,.int .i64 c.min,.int .u64 c.idle,.int .u64 c.life,.int .u64 c.keep,.int .u64 c.leak,.int .u64 c.var] 24)).alloc (.cells #[.int .i64 0,.int .i64 0,.int .u64 0,.int .u64 0,.int .u64 0,.int .u64 0,.float .f64 0] 30)).frozen? ⟨w.heap.size+1,3,none⟩=false:=by go_simp
 have y4:((w.alloc (.cells #[.int .i64 c.max,.int .i64 c.min,.int .u64 c.idle,.int .u64 c.life,.int .u64 c.keep,.int .u64 c.leak,.int .u64 c.var] 24)).alloc (.cells #[.int .i64 0,.int .i64 0,.int .u64 0,.int .u64 0,.int .u64 0,.int .u64 0,.float .f64 0] 30)).cell? ⟨w.heap.size+1,4,none⟩=some (.int .u64 0):=by go_simp
 have N:((w.alloc (.cells #[.int .i64 c.max,.int .i64 c.min,.int .u64 c.idle,.int .u64 c.life,.int .u64 c.keep,.int .u64 c.leak,.int .u64 c.var] 24)).alloc (.cells #[.int .i64 0,.int .i64 0,.int .u64 0,.int .u64 0,.int .u64 0,.int .u64 0,.float .f64 0] 30)).frozen? ⟨w.heap.size+1,4,none⟩=false:=by go_simp
 have y5:((w.alloc (.cells #[.int .i64 c.max,.int .i64 c.min,.int .u64 c.idle,.int .u64 c.life,.int .u64 c.keep,.int .u64 c.leak,.int .u64 c.var] 24)).alloc (.cells #[.int .i64 0,.int .i64 0,.int .u64 0,.int .u64 0,.int .u64 0,.int .u64 0,.float .f64 0] 30)).cell? ⟨w.heap.size+1,5,none⟩=some (.int .u64 0):=by go_simp
 have W:((w.alloc (.cells #[.int .i64 c.max,.int .i64 c.min,.int .u64 c.idle,.int .u64 c.life,.int .u64 c.keep,.int .u64 c.leak,.int .u64 c.var] 24)).alloc (.cells #[.int .i64 0,.int .i64 0,.int .u64 0,.int .u64 0,.int .u64 0,.int .u64 0,.float .f64 0] 30)).frozen? ⟨w.heap.size+1,5,none⟩=false:=by go_simp
 have y6:((w.alloc (.cells #[.int .i64 c.max,.int .i64 c.min,.int .u64 c.idle,.int .u64 c.life,.int .u64 c.keep,.int .u64 c.leak,.int .u64 c.var] 24)).alloc (.cells #[.int .i64 0,.int .i64 0,.int .u64 0,.int .u64 0,.int .u64 0,.int .u64 0,.float .f64 0] 30)).cell? ⟨w.heap.size+1,6,none⟩=some (.float .f64 0):=by go_simp
 have Y:((w.alloc (.cells #[.int .i64 c.max,.int .i64 c.min,.int .u64 c.idle,.int .u64 c.life,.int .u64 c.keep,.int .u64 c.leak,.int .u64 c.var] 24)).alloc (.cells #[.int .i64 0,.int .i64 0,.int .u64 0,.int .u64 0,.int .u64 0,.int .u64 0,.float .f64 0] 30)).frozen? ⟨w.heap.size+1,6,none⟩=false:=by go_simp
 have hf:=fun w'=>Fl.fbits_run w' (c.var:Int)
 obtain ⟨z,a1⟩:∃ z,((w.alloc (.cells #[.int .i64 c.max,.int .i64 c.min,.int .u64 c.idle,.int .u64 c.life,.int .u64 c.keep,.int .u64 c.leak,.int .u64 c.var] 24)).alloc (.cells #[.int .i64 0,.int .i64 0,.int .u64 0,.int .u64 0,.int .u64 0,.int .u64 0,.float .f64 0] 30))=z:=⟨_,rfl⟩
 rw [a1] at r0 r1 r2 r3 r4 r5 r6 y0 F y1 G y2 I y3 J y4 N y5 W y6 Y hb
 have HB:=Lh hb
 clear hb
 go_enter Tryz.func6,Tryz.ntmps6
 go_upto_region 1 with (fail)
 clear a1
 generalize hq:w.heap.size=q at *
 have HT:Hid (z.drew.there (q+1) 0 7):=Lh (fun j hj=>by
  rw [Nat.zero_add]
  match j,hj with
  | 0,_=>exact ⟨by simp [y0],by simpa using F⟩
  | 1,_=>exact ⟨by simp [y1],by simpa using G⟩
  | 2,_=>exact ⟨by simp [y2],by simpa using I⟩
  | 3,_=>exact ⟨by simp [y3],by simpa using J⟩
  | 4,_=>exact ⟨by simp [y4],by simpa using N⟩
  | 5,_=>exact ⟨by simp [y5],by simpa using W⟩
  | 6,_=>exact ⟨by simp [y6],by simpa using Y⟩)
 clear y0 y1 y2 y3 y4 y5 y6 F G I J N W Y
 go_wp2_with fail
 have h:Hid (z.drew.cell? ⟨q,0,none⟩=some (.int .i64 c.max)∧z.drew.cell? ⟨q,1,none⟩=some (.int .i64 c.min)∧z.drew.cell? ⟨q,2,none⟩=some (.int .u64 c.idle)∧z.drew.cell? ⟨q,3,none⟩=some (.int .u64 c.life)∧z.drew.cell? ⟨q,4,none⟩=some (.int .u64 c.keep)∧z.drew.cell? ⟨q,5,none⟩=some (.int .u64 c.leak)∧z.drew.cell? ⟨q,6,none⟩=some (.int .u64 c.var)):=Lh ⟨by simpa using r0,by simpa using r1,by simpa using r2,by simpa using r3,by simpa using r4,by simpa using r5,by simpa using r6⟩
 refine reg_start 16 (fun w'=>w'.cell? ⟨q,0,none⟩=some (.int .i64 c.max)∧w'.cell? ⟨q,1,none⟩=some (.int .i64 c.min)∧w'.cell? ⟨q,2,none⟩=some (.int .u64 c.idle)∧w'.cell? ⟨q,3,none⟩=some (.int .u64 c.life)∧w'.cell? ⟨q,4,none⟩=some (.int .u64 c.keep)∧w'.cell? ⟨q,5,none⟩=some (.int .u64 c.leak)∧w'.cell? ⟨q,6,none⟩=some (.int .u64 c.var)) (by kernel_rfl) (by kernel_rfl) ?_
 intro a0
 have u:=Lh a0
 clear a0
 refine rq 0 u.out h.out rfl ?_
 refine rq 1 u.out h.out rfl ?_ (hv:=fun w' hw=>by (obtain ⟨k0,k1,k2,k3,k4,k5,k6⟩:=hw; go_simp; exact rfl))
 refine rq 2 u.out h.out rfl ?_
 refine rq 3 u.out h.out rfl ?_ (hv:=fun w' hw=>by (obtain ⟨k0,k1,k2,k3,k4,k5,k6⟩:=hw; go_simp; exact rfl))
 refine rq 4 u.out h.out rfl ?_
 refine rq 5 u.out h.out rfl ?_ (hv:=fun w' hw=>by (obtain ⟨k0,k1,k2,k3,k4,k5,k6⟩:=hw; go_simp; exact rfl))
 refine rq 6 u.out h.out rfl ?_
 refine rq 7 u.out h.out rfl ?_ (hv:=fun w' hw=>by (obtain ⟨k0,k1,k2,k3,k4,k5,k6⟩:=hw; go_simp; exact rfl))
 refine rq 8 u.out h.out rfl ?_
 refine rq 9 u.out h.out rfl ?_ (hv:=fun w' hw=>by (obtain ⟨k0,k1,k2,k3,k4,k5,k6⟩:=hw; go_simp; exact rfl))
 refine rq 10 u.out h.out rfl ?_
 refine rq 11 u.out h.out rfl ?_ (hv:=fun w' hw=>by (obtain ⟨k0,k1,k2,k3,k4,k5,k6⟩:=hw; go_simp; exact rfl))
 refine rq 12 u.out h.out rfl ?_
 refine rq 13 u.out h.out rfl ?_ (hv:=fun w' hw=>by (obtain ⟨k0,k1,k2,k3,k4,k5,k6⟩:=hw; go_simp; exact rfl))
 refine reg_only 14 rfl (by kernel_rfl) rfl ?_
 unfold Oper.wp
 go_simp
 refine rq 15 u.out h.out rfl ?_
 refine reg_only 16 rfl (by kernel_rfl) rfl ?_
 refine wp_store_mid 30 _ _ rfl (q+1) 0 #[.int .i64 c.max,.int .i64 c.min,.int .u64 c.idle,.int .u64 c.life,.int .u64 c.keep,.int .u64 c.leak,.float .f64 c.var] rfl rfl HT.out (by kernel_rfl) (by kernel_rfl) ?_
 refine ⟨fun e=>absurd e (by decide),?_⟩
 have HR:=Lh (World.rangeAt_setCells_same z.drew (q+1) 0 [.int .i64 c.max,.int .i64 c.min,.int .u64 c.idle,.int .u64 c.life,.int .u64 c.keep,.int .u64 c.leak,.float .f64 c.var] HT.out)
 have a2:Hid (Below q w (z.drew.setCells (q+1) 0 [.int .i64 c.max,.int .i64 c.min,.int .u64 c.idle,.int .u64 c.life,.int .u64 c.keep,.int .u64 c.leak,.float .f64 c.var])):=Lh (low_cells (q+1) (by omega) _ 0 w _ HB.out.drew)
 generalize (z.drew.setCells (q+1) 0 [.int .i64 c.max,.int .i64 c.min,.int .u64 c.idle,.int .u64 c.life,.int .u64 c.keep,.int .u64 c.leak,.float .f64 c.var])=W9 at *
 refine reg_done (by kernel_rfl) ?_
 go_wp2_with fail
 have hr:=run_loadVar_mid (P:=Tryz.prog) W9 (q+1) 0 30 _ _ HR.out under_c row_c (by kernel_rfl)
 refine bodyPost_ret (v:=c.v) (res_c _ _ _ _ Tryz.results6 rfl hr) rfl ⟨rfl,by rw [hq]; exact a2.out⟩
end Go.Proofs.YtaeemilldmhbnaaGreatDoor.Cn
