/- Arguments, tables, the row. -/
import Derived.Test.YtaeemilldmhbnaaGreatDoorZGAwZ
import Derived.Test.YtaeemilldmhbnaaGreatDoorZStepsWalk
set_option linter.unusedVariables false
theorem Go.Proofs.YtaeemilldmhbnaaGreatDoor.Wd.lo_u8 {a : Int} (h : (Go.Lit.int .u8 a).wf = true) : 0 ≤ a ∧ a ≤ 255 := by
 simp [Go.Lit.wf,Go.IntKind.min,Go.IntKind.max,Go.IntKind.signed,Go.IntKind.bits] at h; exact h
namespace Go.Proofs.YtaeemilldmhbnaaGreatDoor.Lw
open Go Go.ChangeShapes Go.WideShapes Go.ChangeAt Go.RowKit Go.Deep
section
variable {H:Type} {enc:TypeId × Value→H} {P:Program}
theorem args_stay (hl:laidOutB P=true) {W G:World} (hb:Below W.heap.size W G) {Q:Nat→Bool} :
  ∀ (u:List TypeId) (vs:List Value) (z:List (DataW H)) (ps:List MemPlace),(u.all fun t=>P.readableRec t && decide (t < P.types.size))=true →
   DataW.TrodAll enc P W 0 (fun _=>true) true u vs z ps→(∀ x∈ps,x.block < W.heap.size)→(∀ x∈ps,Q x.block=true) →
   DataW.TrodAll enc P G 0 Q true u vs z ps:=by
 intro u
 induction u with
 | nil=>
  intro vs z ps _ h _ _
  obtain ⟨rfl,rfl,rfl⟩:=trodAll_nil h
  exact trodAll_mk0
 | cons t u ih=>
  intro vs z ps F h I J
  obtain ⟨v,a1,d,Y,p,q,rfl,rfl,rfl,hd,a0⟩:=trodAll_cons h
  simp only [List.all_cons,Bool.and_eq_true,decide_eq_true_eq] at F
  refine trodAll_cons_mk (WideElems.Trod_stays hl F.1.1 F.1.2 hd (fun x hx=>hb.same (I x (by simp [hx]))) (fun x hx=>J x (by simp [hx]))) ?_
  exact ih a1 Y q F.2 a0 (fun x hx=>I x (by simp [hx])) (fun x hx=>J x (by simp [hx]))
theorem law_post {f:Func} {s:ChangeSpec} {I fresh a2:Bool} {W G:World} {args:Array Value} {u:List (DataW H)} {J:List MemPlace} {tb:TypeId}
  (hl:laidOutB P=true) (hp:(f.params.toList.all fun t=>P.readableRec t && decide (t < P.types.size))=true)
  (hr:f.resultTypes=#[tb]) (hb:P.underlying tb=some .bool) (hv:s.vars=[])
  (F:s.fn H (u ++ []) = { results:=[.lit (.bool true)],args:=u })
  (z:DataW.Whole enc P f.params.toList s.vars I W args.toList u [] J)
  (Y:Below W.heap.size W G):s.post enc P f I fresh a2 false W args (.bool true) G:=by
 have a0:∀ x∈J,x.block < W.heap.size:=fun x hx=>z.lt x hx
 have a1:=z
 obtain ⟨p,q,hA,Q,rfl,a3,a4⟩:=z
 rw [hv] at Q
 obtain ⟨-,rfl⟩:=trodVars_none Q
 refine ⟨u,[],p ++ [],[],p,[],a1,?_,?_,?_,Y.frame _,fun h=>by cases h⟩
 ·rw [F,hr]
  exact trodAll_cons_mk (shut_bool hb _) trodAll_mk0
 ·rw [F]
  exact args_stay hl Y _ _ _ _ hp hA (fun x hx=>a0 x (by simp [hx])) (fun x hx=>by simpa using a0 x (by simp [hx]))
 ·rw [F,hv]
  rfl
end
section
theorem spot_none {w:World} {a:Addr} {v:Value} (h:w.cell? a=some v):a.spot=none:=by
 unfold World.cell? at h
 split at h
 ·split at h
  ·cases h
  ·next u=>simpa using u
 ·cases h
end
end Go.Proofs.YtaeemilldmhbnaaGreatDoor.Lw
namespace Go.Proofs.YtaeemilldmhbnaaGreatDoor.Rw
open Go Go.ChangeShapes Go.WideShapes Go.ChangeAt Go.RowKit Go.Deep
section
variable {H:Type} {en:TypeId × Value→H} {P:Program} {w:World} {base:Nat} {spare:Nat→Bool} {held:Bool}
theorem Rd.open_ {t e:TypeId} {k:IntKind} {v:Value} {d:DataW H} {p:List MemPlace} {b0:Nat} (Y:P.underlying t=some (.slice e)) (he:P.underlying e=some (.int k)) (hC:P.cellsOf e=1)
  (hv:Value.okWide P w .any b0 t v) (h:DataW.Trod en P w base spare held t v d p) :
  ∃ (A:Option Addr) (n c:Nat) (xs:List Int),v=.slice A n c∧Rd (Value.int k) w w.heap.size A n c xs ∧ ∀ x∈xs,(Lit.int k x).wf=true:=by
 obtain ⟨a0,a1,a7,rfl⟩:=okWide_slice Y hv
 obtain ⟨a9,u⟩:=h
 rcases open_slice Y u with ⟨I,_⟩ | ⟨a,len,cap,m,n,D,Pl,J,_,hl,W,a5,_,hi⟩
 ·simp [Value.cells] at I
  obtain ⟨rfl,rfl,rfl⟩:=I
  exact ⟨none,0,0,[],rfl,Rd.nil_,fun x hx=>by cases hx⟩
 ·simp [Value.cells] at J
  obtain ⟨rfl,rfl,rfl⟩:=J
  have a3:∀ i,i < a1 → ∃ x:Int,w.cell? (a.add i)=some (.int k x)∧(Lit.int k x).wf=true:=by
   intro i ac
   obtain ⟨a8,hc,a6⟩:=hi i (by rw [a5]; split <;> omega)
   rw [hC] at hc
   obtain ⟨_,aa,a2⟩:=World.cells?_some hc
   obtain ⟨z,hz,_,hw⟩:=DataW.trod_int he a6
   refine ⟨z,?_,hw⟩
   have F:=a2 0 (by omega)
   rw [Go.Deep.add_add] at F
   simp only [Nat.mul_one,Nat.add_zero] at F
   rw [F,hz]
   rfl
  obtain ⟨f,u⟩:=choose_lt a3
  unfold maxLen at W
  refine ⟨_,_,_,(List.range a1).map f,rfl,⟨by simp,hl,W,fun hn=>?_⟩,?_⟩
  ·have G:a.spot=none:=Lw.spot_none (a:=a) (by have:=(u 0 hn).1; simpa [Addr.add] using this)
   refine ⟨a.block,a.off,by cases a; simp at G; subst G; rfl,?_,fun j x hx=>?_⟩
   ·have:=Lw.lt_heap (u 0 hn).1
    simpa [Addr.add] using this
   ·obtain ⟨Q,rfl⟩:=List.getElem?_eq_some_iff.1 hx
    simp at Q
    rw [← Lw.add_eq G,(u j Q).1]
    simp
  ·intro x hx
   obtain ⟨i,a4,rfl⟩:=List.mem_map.1 hx
   exact (u i (List.mem_range.1 a4)).2
end
end Go.Proofs.YtaeemilldmhbnaaGreatDoor.Rw
namespace Go.Proofs.YtaeemilldmhbnaaGreatDoor.Tb
open Go.ChangeShapes Go.WideShapes Go.ChangeAt Go.RowKit Rw
set_option maxRecDepth 100000
theorem rows_ok:(Pinned.pow10Rows.all fun x=>decide (x.1 < 18446744073709551616) && decide (x.2 < 18446744073709551616))=true:=by kernel_rfl
theorem pow_of_reads {w:World} (h4:Lib.VarReads Tryz.prog w "internal/strconv.pow10Tab" Pinned.pow10Tab):Ff.Pw hiT loT w:=by
 intro i hi
 obtain ⟨g,t,cs,a1,p,u,a0,Y,hd⟩:=h4
 obtain rfl:=Option.some.inj ((show Tryz.prog.globalNamed "internal/strconv.pow10Tab" = some 7 by kernel_rfl).symm.trans u)
 obtain rfl:=Option.some.inj ((show (Tryz.prog.globals[7]?).map (·.type)=some 413 by kernel_rfl).symm.trans a0)
 obtain ⟨a2,d,q,I,J⟩:=Lib.array_elem Tryz.underlying413 hd i hi
 rw [List.getElem?_map] at I
 obtain ⟨x,hx,rfl⟩:=Option.map_eq_some_iff.1 I
 have c2:Tryz.prog.cellsOf 412=2:=by kernel_rfl
 have c1:Tryz.prog.cellsOf 22=1:=by kernel_rfl
 rw [c2] at J
 have G:=Lib.ints_of_struct (k:=.u64) (zs:=[(x.1:Int),(x.2:Int)]) Tryz.underlying412 (fun j f h=>by
  match j,h with
  | 0,h=>simp at h; subst h; exact ⟨Tryz.underlying22,rfl,c1⟩
  | 1,h=>simp at h; subst h; exact ⟨Tryz.underlying22,rfl,c1⟩
  | j+2,h=>simp at h) (by rw [c2]; rfl) J
 have z:=congrArg (·[0]?) G
 have F:=congrArg (·[1]?) G
 simp only [List.getElem?_take,List.getElem?_drop] at z F
 have hb:=List.all_eq_true.1 rows_ok x (List.mem_of_getElem? hx)
 simp only [Bool.and_eq_true,decide_eq_true_eq] at hb
 have Q:hiT i=x.1:=by unfold hiT; rw [List.getD_eq_getElem?_getD,hx]; rfl
 have W:loT i=x.2:=by unfold loT; rw [List.getD_eq_getElem?_getD,hx]; rfl
 have q0:w.cell? ⟨7,i * 2,none⟩=some (.int .u64 (hiT i)):=by
  rw [World.var?_cell u Y (i * 2),← Array.getElem?_toList,Q]
  simpa using z
 have q1:w.cell? ⟨7,i * 2+1,none⟩=some (.int .u64 (loT i)):=by
  rw [World.var?_cell u Y (i * 2+1),← Array.getElem?_toList,W]
  simpa using F
 exact ⟨by rw [Q]; exact hb.1,by rw [W]; exact hb.2,Lw.lt_heap q0,q0,q1⟩
theorem tab_of_reads {w:World} (h:Lib.VarReads Tryz.prog w "internal/strconv.uint64pow10" (Lib.tabData .u64 Lib.pow10Tab)):Tx.Tab w:=by
 obtain ⟨g,t,cs,I,p,z,F,G,u⟩:=h
 obtain rfl:=Option.some.inj ((show Tryz.prog.globalNamed "internal/strconv.uint64pow10" = some 2 by kernel_rfl).symm.trans z)
 obtain rfl:=Option.some.inj ((show (Tryz.prog.globals[2]?).map (·.type)=some 374 by kernel_rfl).symm.trans F)
 unfold Tx.Tab Lib.TabIs
 rw [G,← Lib.cells_of_tab Tryz.underlying374 Tryz.underlying22 (by kernel_rfl) (by kernel_rfl) u]
/-- How the words of a configuration begin. -/
theorem keys_of_reads {w:World} (h:Lib.VarReads Tryz.prog w "hackney/conf.keys" keyD):Keys w:=by
 intro i s J
 obtain ⟨g,t,cs,a0,p,I,W,Y,Q⟩:=h
 obtain rfl:=Option.some.inj ((show Tryz.prog.globalNamed "hackney/conf.keys" = some 1 by kernel_rfl).symm.trans I)
 obtain rfl:=Option.some.inj ((show (Tryz.prog.globals[1]?).map (·.type)=some 340 by kernel_rfl).symm.trans W)
 have hi:i < 7:=(List.getElem?_eq_some_iff.1 J).1
 obtain ⟨a1,d,q,z,G⟩:=Lib.array_elem Tryz.underlying340 Q i hi
 rw [List.getElem?_map,J] at z
 injection z with z
 subst z
 have c1:Tryz.prog.cellsOf 9=1:=by kernel_rfl
 rw [c1] at G
 obtain ⟨b,hb,u,_⟩:=DataW.trod_string Tryz.underlying9 G
 injection u with u _
 injection u with u
 injection u with u
 have F:=congrArg (·[0]?) hb
 simp only [List.getElem?_take,List.getElem?_drop] at F
 have q0:w.cell? ⟨1,i,none⟩=some (.string (Tx.bts s)):=by
  rw [World.var?_cell I Y i,← Array.getElem?_toList]
  have:Tx.bts s=b:=by unfold Tx.bts; rw [u]
  rw [this]
  simpa using F
 exact ⟨Lw.lt_heap q0,q0⟩
theorem tabs_of {l:List (String × DataW Unit)} {W:World} (h:laidMet Tryz.prog l W) (u:("internal/strconv.uint64pow10",Lib.tabData .u64 Lib.pow10Tab)∈l) (z:("internal/strconv.pow10Tab",Pinned.pow10Tab)∈l) (F:("hackney/conf.keys",keyD)∈l):Tabs W:=
 ⟨tab_of_reads (Lib.laidMet.reads h u),pow_of_reads (Lib.laidMet.reads h z),keys_of_reads (Lib.laidMet.reads h F)⟩
end Go.Proofs.YtaeemilldmhbnaaGreatDoor.Tb
