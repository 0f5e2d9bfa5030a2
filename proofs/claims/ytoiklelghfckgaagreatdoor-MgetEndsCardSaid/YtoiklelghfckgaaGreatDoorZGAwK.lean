/- A part of the claim: the texts Awake16 BoundsKit. -/
import Derived.Test.YtoiklelghfckgaaGreatDoorZGWorld
import Derived.Test.YtoiklelghfckgaaGreatDoorZGWorldC
import Derived.Test.YtoiklelghfckgaaGreatDoorZGDocW
import Derived.Test.YtoiklelghfckgaaGreatDoorZGMisc
set_option maxRecDepth 100000
set_option linter.unusedVariables false
namespace Go.Proofs.YtoiklelghfckgaaGreatDoor.Wo
open Go Go.ChangeShapes Go.WideShapes Go.ChangeAt Go.RowKit Go.Maps Rw Hi Mt Ba
open Cn (Cf cfE)
theorem awake16_any (w:World) (hT:Tb.Tabs w) :
  Calls Tryz.prog 178 #[] w fun e w'=>e=.returned (.bool true)∧Below w.heap.size w w':=by
 have HT:=Lh hT
 have J:=Lh (new_ok ⟨1,0,0,0,0,0,0⟩ ⟨by decide,by decide,by decide,by decide,by decide⟩ (by decide +kernel) none none 0 0 0 0 0 0 [] [] w Rd.nil_ Rd.nil_ (Nat.zero_le _) (Nat.zero_le _) (by decide) (by decide))
 clear hT
 go_enter Tryz.func178,Tryz.ntmps178
 go_wp2_with fail
 refine J.out.mono ?_
 rintro e w1 ⟨x,col,rfl,Y,b1⟩
 have I:=Lh Y
 have h:=Lh b1
 clear Y b1 J
 go_wp2_with fail
 refine (Ba.Awake15_any _ (HT.out.below h.out)).mono ?_
 rintro e w2 ⟨rfl,z⟩
 have u:=Lh (I.out.later z)
 have F:=Lh (h.out.trans (z.mono h.out.size))
 clear z I
 go_wp2_with fail
 refine (grow_any w2 u.out (by decide) (by decide)).mono ?_
 rintro e w3 ⟨rfl,h3,z3⟩
 have H3:=Lh h3
 have G:=Lh (F.out.trans (z3.below F.out.size (fun g hg=>u.out.lo g (by omega))))
 clear h3 z3
 go_wp2_with fail
 refine (grow_any w3 H3.out (by decide) (by decide)).mono ?_
 rintro e w4 ⟨rfl,h4,z4⟩
 have B4:=Lh (G.out.trans (z4.below G.out.size (fun g hg=>u.out.lo g (by omega))))
 clear h4 z4
 go_wp2_with fail
 go_ret
 exact ⟨rfl,B4.out⟩
theorem Awake16_any (w:World) (u:Tb.Tabs w) :
  Calls Tryz.prog 125 #[] w fun e w'=>e=.returned (.bool true)∧Below w.heap.size w w':=by
 go_enter Tryz.func125,Tryz.ntmps125
 go_wp2_with fail
 refine (awake16_any w u).mono ?_
 rintro e z ⟨rfl,h⟩
 go_wp2_with fail
 go_ret
 exact ⟨rfl,h⟩
def encY (a:Ay):List Value:=[.int .u8 a.do_,.int .u64 a.id,.int .u64 a.n,.int .i64 a.th,.int .i64 a.st]
theorem encY_len (a:Ay):(encY a).length=5:=rfl
theorem actY_at {w:World} {B:Nat} {A:Option Addr} {n c:Nat} {xs:List Ay} (h:Rs encY 5 w B A n c xs) {k:Nat} (hk:k < n) :
  ∃ b o x,A=some ⟨b,o,none⟩∧b < B∧xs[k]? = some x∧w.cell? ⟨b,o+k * 5,none⟩=some (.int .u8 x.do_)∧w.cell? ⟨b,o+k * 5+1,none⟩=some (.int .u64 x.id)∧w.cell? ⟨b,o+k * 5+2,none⟩=some (.int .u64 x.n)∧w.cell? ⟨b,o+k * 5+3,none⟩=some (.int .i64 x.th)∧w.cell? ⟨b,o+k * 5+4,none⟩=some (.int .i64 x.st):=by
 obtain ⟨b,o,x,hA,u,hx,hc⟩:=h.get hk
 exact ⟨b,o,x,hA,u,hx,hc 0 _ (by omega) rfl,hc 1 _ (by omega) rfl,hc 2 _ (by omega) rfl,hc 3 _ (by omega) rfl,hc 4 _ (by omega) rfl⟩
abbrev ccs (c:Cf):List Value:=[.int .i64 c.max,.int .i64 c.min,.int .u64 c.idle,.int .u64 c.life,.int .u64 c.keep,.int .u64 c.leak,.float .f64 c.var]
theorem th_conf (w:World):(w.alloc (.cells #[.int .i64 0,.int .i64 0,.int .u64 0,.int .u64 0,.int .u64 0,.int .u64 0,.float .f64 0] 50)).there w.heap.size 0 7:=by
 have h:(w.alloc (.cells #[.int .i64 0,.int .i64 0,.int .u64 0,.int .u64 0,.int .u64 0,.int .u64 0,.float .f64 0] 50)).heap[w.heap.size]? = some (.cells #[.int .i64 0,.int .i64 0,.int .u64 0,.int .u64 0,.int .u64 0,.int .u64 0,.float .f64 0] 50):=heap_alloc_last _ _
 intro j u
 refine ⟨?_,?_⟩
 ·rw [cell_of_row _ _ _ _ _ _ h]; simp; omega
 ·unfold World.frozen?; simp only [h]; rfl
section
variable {ops:Array Oper} {rest:List Oper} {op:Oper} {a:Act} {w:World} {Q:Exit→Act→World→Prop}
theorem load_c (u:op.guard=none) (y:Operand) (z:op.op=.load 50 y) (g:Nat) (hx:a.eval y=.pointer (some ⟨g,0,none⟩)) (c:Cf) (hv:w.rangeAt g 0 (ccs c))
  (h:wpList Tryz.prog ops Q rest (a.put op.dst c.v) w):wpList Tryz.prog ops Q (op :: rest) a w:=
 wpList_load_mid u 50 y z g 0 hx _ _ hv Cn.under_c Cn.row_c (by kernel_rfl) h
end
def zs:Ws:=⟨⟨0,0,0,0,0,0,0⟩,0,[],[],fun _=>[],[],0,[],[],[],[],[],0,[],0,[],0,false⟩
theorem hr3lt {w:World} {g:Nat} {c:Cf} (h:w.rangeAt g 0 (ccs c)):g < w.heap.size:=by
 have:=h 0 _ rfl
 exact Lw.lt_heap this
theorem Wo.v {base:Nat} {col:Nat→Nat} {w:World} {x:Wp} {s:Ws} (h:Wo base col w x s):∃ col',Wv base col' w x s:=by
 obtain ⟨col',G⟩:∃ col':Nat→Nat,col'=fun g=>if g < w.heap.size then col g else 0:=⟨_,rfl⟩
 have z:∀ g,g < w.heap.size→col' g=col g:=fun g u=>by rw [G]; exact if_pos u
 have F:∀ g,w.heap.size≤g→col' g=0:=fun g u=>by rw [G]; show (if g < w.heap.size then col g else 0)=0; rw [if_neg (by omega)]
 refine ⟨col',x.rs,x.rh,h.recol z (fun g u=>?_),fun g u=>?_⟩
 ·by_cases h3:g < w.heap.size
  ·exact h.lo g (by rw [← z g h3]; exact u)
  ·exact absurd (F g (by omega)) u
 ·by_cases h3:g < w.heap.size
  ·exact h3
  ·exact absurd (F g (by omega)) u
section
variable {W w w':World} {bs:Nat} {x:Wp} {c:Cf} {cb:Nat} {col col':Nat→Nat} {s s':Ws} {N N':List Int} {k k':Nat}
theorem Yc.fw {q:Nat} {y:Ay} (h:Yc w q y) (hc:col q=0) (u:Fw col w w'):Yc w' q y:=h.blk (u.block q h.lt (fun e=>e.1 hc))
end
theorem Wv.cin {base:Nat} {col:Nat→Nat} {w:World} {x:Wp} {s:Ws} (h:Wv base col w x s):∀ i∈s.C,i≤s.n:=fun i hi=>(h.fact.mem i hi).2
end Go.Proofs.YtoiklelghfckgaaGreatDoor.Wo
