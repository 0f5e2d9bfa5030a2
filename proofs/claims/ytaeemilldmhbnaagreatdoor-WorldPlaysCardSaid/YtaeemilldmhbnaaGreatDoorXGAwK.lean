/- A part of the claim: the texts Awake16 BoundsKit. -/
import Derived.Test.YtaeemilldmhbnaaGreatDoorXGWorld
import Derived.Test.YtaeemilldmhbnaaGreatDoorXGWorldC
import Derived.Test.YtaeemilldmhbnaaGreatDoorXGDocW
import Derived.Test.YtaeemilldmhbnaaGreatDoorXGMisc
set_option maxRecDepth 100000
set_option linter.unusedVariables false
namespace Go.Proofs.YtaeemilldmhbnaaGreatDoor.Wo
open Go Go.ChangeShapes Go.WideShapes Go.ChangeAt Go.RowKit Go.Maps Rw Hi Mt Ba
open Cn (Cf cfE)
theorem awake16_any (w:World) (hT:Tb.Tabs w) :
  Calls Tryz.prog 5 #[] w fun e w'=>e=.returned (.bool true)∧Below w.heap.size w w':=by
 have HT:=Lh hT
 have J:=Lh (new_ok ⟨1,0,0,0,0,0,0⟩ ⟨by decide,by decide,by decide,by decide,by decide⟩ (by decide +kernel) none none 0 0 0 0 0 0 [] [] w Rd.nil_ Rd.nil_ (Nat.zero_le _) (Nat.zero_le _) (by decide) (by decide))
 clear hT
 go_enter Tryz.func5,Tryz.ntmps5
 go_wp2_with fail
 refine J.out.mono ?_
 rintro e w1 ⟨x,col,rfl,Y,b1⟩
 have I:=Lh Y
 have h:=Lh b1
 clear Y b1 J
 go_wp2_with fail
 refine (Ba.Awake15_any _ (HT.out.below h.out)).mono ?_
 rintro e w2 ⟨rfl,z⟩
 have u:=Lh (I.out.later z)
 have F:=Lh (h.out.trans (z.mono h.out.size))
 clear z I
 go_wp2_with fail
 refine (grow_any w2 u.out (by decide) (by decide)).mono ?_
 rintro e w3 ⟨rfl,h3,z3⟩
 have H3:=Lh h3
 have G:=Lh (F.out.trans (z3.below F.out.size (fun g hg=>u.out.lo g (by omega))))
 clear h3 z3
 go_wp2_with fail
 refine (grow_any w3 H3.out (by decide) (by decide)).mono ?_
 rintro e w4 ⟨rfl,h4,z4⟩
 have B4:=Lh (G.out.trans (z4.below G.out.size (fun g hg=>u.out.lo g (by omega))))
 clear h4 z4
 go_wp2_with fail
 go_ret
 exact ⟨rfl,B4.out⟩
def encY (a:Ay):List Value:=[.int .u8 a.do_,.int .u64 a.id,.int .u64 a.n,.int .i64 a.th,.int .i64 a.st]
theorem actY_at {w:World} {B:Nat} {A:Option Addr} {n c:Nat} {xs:List Ay} (h:Rs encY 5 w B A n c xs) {k:Nat} (hk:k < n) :
  ∃ b o x,A=some ⟨b,o,none⟩∧b < B∧xs[k]? = some x∧w.cell? ⟨b,o+k * 5,none⟩=some (.int .u8 x.do_)∧w.cell? ⟨b,o+k * 5+1,none⟩=some (.int .u64 x.id)∧w.cell? ⟨b,o+k * 5+2,none⟩=some (.int .u64 x.n)∧w.cell? ⟨b,o+k * 5+3,none⟩=some (.int .i64 x.th)∧w.cell? ⟨b,o+k * 5+4,none⟩=some (.int .i64 x.st):=by
 obtain ⟨b,o,x,hA,u,hx,hc⟩:=h.get hk
 exact ⟨b,o,x,hA,u,hx,hc 0 _ (by omega) rfl,hc 1 _ (by omega) rfl,hc 2 _ (by omega) rfl,hc 3 _ (by omega) rfl,hc 4 _ (by omega) rfl⟩
theorem open_acts {H:Type} {enc:TypeId × Value→H} {W:World} {base b0:Nat} {sp:Nat→Bool} {a2:Bool} {v:Value} {d:DataW H} {p:List MemPlace}
  (k0:Value.okWide Tryz.prog W .any b0 26 v) (h0:DataW.Trod enc Tryz.prog W base sp a2 26 v d p) :
  ∃ A n c xs,v=.slice A n c∧Rs encY 5 W W.heap.size A n c xs ∧ ∀ x∈xs,x.ok:=by
 rcases Lw.slice_structs Tryz.underlying26 Tryz.underlying57 (by kernel_rfl) (by kernel_rfl) k0 h0 with rfl | ⟨F,len,cap,rfl,hl,hm,hc⟩
 ·exact ⟨none,0,0,[],rfl,Rs.nil_,fun x hx=>by cases hx⟩
 ·unfold maxLen at hm
  by_cases h00:len=0
  ·subst h00
   exact ⟨some F,0,cap,[],rfl,Rs.empty _ (by omega),fun x hx=>by cases hx⟩
  have J:F.spot=none:=by
   obtain ⟨x,y,n,hx,_⟩:=hc 0 (by omega) 0 _ rfl
   exact Lw.spot_none (a:=F) hx
  have a0:∀ i,∃ q:Ay,i < len→(∀ j u,j < 5→(encY q)[j]? = some u→W.cell? ⟨F.block,F.off+i * 5+j,none⟩=some u)∧q.ok:=by
   intro i
   by_cases hi:i < len
   ·obtain ⟨x0,y0,n0,c0,t0⟩:=hc i hi 0 _ rfl
    obtain ⟨x1,y1,n1,c1,t1⟩:=hc i hi 1 _ rfl
    obtain ⟨x2,y2,n2,c2,t2⟩:=hc i hi 2 _ rfl
    obtain ⟨x3,y3,n3,c3,t3⟩:=hc i hi 3 _ rfl
    obtain ⟨x4,y4,n4,c4,t4⟩:=hc i hi 4 _ rfl
    obtain ⟨z0,Y,-,u0⟩:=DataW.trod_int Tryz.underlying5 t0
    obtain ⟨z1,e1,-,u1⟩:=DataW.trod_int Tryz.underlying22 t1
    obtain ⟨z2,e2,-,u2⟩:=DataW.trod_int Tryz.underlying22 t2
    obtain ⟨z3,e3,-,u3⟩:=DataW.trod_int Tryz.underlying3 t3
    obtain ⟨z4,e4,-,u4⟩:=DataW.trod_int Tryz.underlying3 t4
    simp only [List.cons.injEq,and_true] at Y e1 e2 e3 e4
    subst Y e1 e2 e3 e4
    rw [Lw.add_eq J] at c0 c1 c2 c3 c4
    refine ⟨⟨z0,z1,z2,z3,z4⟩,fun _=>⟨fun j u G z=>?_,Wd.lo_u8 u0,Wd.lo_u64 u1,Wd.lo_u64 u2,Wd.lo_i64 u3,Wd.lo_i64 u4⟩⟩
    match j,G,z with
    | 0,_,z=>simp [encY] at z; subst z; exact c0
    | 1,_,z=>simp [encY] at z; subst z; exact c1
    | 2,_,z=>simp [encY] at z; subst z; exact c2
    | 3,_,z=>simp [encY] at z; subst z; exact c3
    | 4,_,z=>simp [encY] at z; subst z; exact c4
   ·exact ⟨⟨0,0,0,0,0⟩,fun h=>absurd h hi⟩
  obtain ⟨Q,I⟩:=Classical.axiomOfChoice a0
  have a1:F.block < W.heap.size:=Lw.lt_heap (a:=⟨F.block,F.off+0 * 5+0,none⟩) ((I 0 (by omega)).1 0 _ (by omega) rfl)
  refine ⟨some F,len,cap,(List.range len).map Q,rfl,⟨by simp,hl,by omega,fun _=>⟨F.block,F.off,by cases F; simp at J; subst J; rfl,a1,fun j x hx i u hi z=>?_⟩⟩,fun x hx=>?_⟩
  ·obtain ⟨G,rfl⟩:=List.getElem?_eq_some_iff.1 hx
   simp at G z
   exact (I j G).1 i u hi z
  ·obtain ⟨i,hi,rfl⟩:=List.mem_map.1 hx
   exact (I i (List.mem_range.1 hi)).2
abbrev ccs (c:Cf):List Value:=[.int .i64 c.max,.int .i64 c.min,.int .u64 c.idle,.int .u64 c.life,.int .u64 c.keep,.int .u64 c.leak,.float .f64 c.var]
theorem th_conf (w:World):(w.alloc (.cells #[.int .i64 0,.int .i64 0,.int .u64 0,.int .u64 0,.int .u64 0,.int .u64 0,.float .f64 0] 30)).there w.heap.size 0 7:=by
 have h:(w.alloc (.cells #[.int .i64 0,.int .i64 0,.int .u64 0,.int .u64 0,.int .u64 0,.int .u64 0,.float .f64 0] 30)).heap[w.heap.size]? = some (.cells #[.int .i64 0,.int .i64 0,.int .u64 0,.int .u64 0,.int .u64 0,.int .u64 0,.float .f64 0] 30):=heap_alloc_last _ _
 intro j u
 refine ⟨?_,?_⟩
 ·rw [cell_of_row _ _ _ _ _ _ h]; simp; omega
 ·unfold World.frozen?; simp only [h]; rfl
section
variable {ops:Array Oper} {rest:List Oper} {op:Oper} {a:Act} {w:World} {Q:Exit→Act→World→Prop}
theorem load_c (u:op.guard=none) (y:Operand) (z:op.op=.load 30 y) (g:Nat) (hx:a.eval y=.pointer (some ⟨g,0,none⟩)) (c:Cf) (hv:w.rangeAt g 0 (ccs c))
  (h:wpList Tryz.prog ops Q rest (a.put op.dst c.v) w):wpList Tryz.prog ops Q (op :: rest) a w:=
 wpList_load_mid u 30 y z g 0 hx _ _ hv Cn.under_c Cn.row_c (by kernel_rfl) h
theorem store_c (F:op.guard=none) (y z:Operand) (G:op.op=.store 30 y z) (g:Nat) (hx:a.eval y=.pointer (some ⟨g,0,none⟩)) (c:Cf) (I:a.eval z=c.v) (u:w.there g 0 7)
  (h:∀ w',w'.rangeAt g 0 (ccs c)→Fz (fun k=>k=g) w w'→wpList Tryz.prog ops Q rest (a.put op.dst undef) w'):wpList Tryz.prog ops Q (op :: rest) a w:=
 wpList_store_mid F 30 y z G g 0 (ccs c).toArray hx I u (by kernel_rfl) (by kernel_rfl) (h _ (World.rangeAt_setCells_same w g 0 _ u) (fz_setCells _ _ _ _))
end
def zs:Ws:=⟨⟨0,0,0,0,0,0,0⟩,0,[],[],fun _=>[],[],0,[],[],[],[],[],0,[],0,[],0,false⟩
theorem hr3lt {w:World} {g:Nat} {c:Cf} (h:w.rangeAt g 0 (ccs c)):g < w.heap.size:=by
 have:=h 0 _ rfl
 exact Lw.lt_heap this
theorem Wo.v {base:Nat} {col:Nat→Nat} {w:World} {x:Wp} {s:Ws} (h:Wo base col w x s):∃ col',Wv base col' w x s:=by
 obtain ⟨col',G⟩:∃ col':Nat→Nat,col'=fun g=>if g < w.heap.size then col g else 0:=⟨_,rfl⟩
 have z:∀ g,g < w.heap.size→col' g=col g:=fun g u=>by rw [G]; exact if_pos u
 have F:∀ g,w.heap.size≤g→col' g=0:=fun g u=>by rw [G]; show (if g < w.heap.size then col g else 0)=0; rw [if_neg (by omega)]
 refine ⟨col',x.rs,x.rh,h.recol z (fun g u=>?_),fun g u=>?_⟩
 ·by_cases h3:g < w.heap.size
  ·exact h.lo g (by rw [← z g h3]; exact u)
  ·exact absurd (F g (by omega)) u
 ·by_cases h3:g < w.heap.size
  ·exact h3
  ·exact absurd (F g (by omega)) u
section
variable {W w w':World} {bs:Nat} {x:Wp} {c:Cf} {cb:Nat} {col col':Nat→Nat} {s s':Ws} {N N':List Int} {k k':Nat}
end
end Go.Proofs.YtaeemilldmhbnaaGreatDoor.Wo
