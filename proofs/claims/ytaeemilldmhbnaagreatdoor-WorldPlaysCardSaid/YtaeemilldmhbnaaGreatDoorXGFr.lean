/- A part of the claim: the texts SnapFresh Base4. -/
import Derived.Test.YtaeemilldmhbnaaGreatDoorXBase1
import Derived.Test.YtaeemilldmhbnaaGreatDoorXBase2
import Derived.Test.YtaeemilldmhbnaaGreatDoorProg
import Derived.Test.YtaeemilldmhbnaaGreatDoorXBase3
import Derived.StillTailTactics
import GoSem.PinnedTables
import GoSem.Claim
import GoSem.ClaimJoined
import GoSem.ClaimMapViews
import Derived.JoinedTies
import Derived.Shelf.SlMaps.Clone
set_option maxRecDepth 100000
set_option maxHeartbeats 8000000
set_option linter.unusedVariables false
namespace Go.Proofs.YtaeemilldmhbnaaGreatDoor.Sn
open Go.ChangeShapes Go.WideShapes Go.ChangeAt Go.RowKit Rw Sl
def Fresh (w:World) (v u:Value):Prop:=u=v ∨ ∃ A n c,u=.agg #[.slice A n c] ∧ ∀ b o,A=some ⟨b,o,none⟩→w.heap.size≤b
theorem own_fresh {w w':World} {v:Value} {base n c:Nat} {e:TypeId} {A:Option Addr} {xs:List Value} (h:w'.ownsRow base e 1 (.slice A n c) n xs) (u:w.heap.size≤base):Fresh w v (.agg #[.slice A n c]):=
 .inr ⟨A,n,c,rfl,fun b o e=>by subst e; exact Nat.le_trans u (h.lt b rfl).1⟩
theorem with2_any (v:Value) (xs:List Int) (x:Int) (w:World) (h:Snap w w.heap.size v xs) (hl:xs.length * 8+8≤140737488355328) (hx:0≤x∧x≤18446744073709551615) :
  Calls Tryz.prog 180 #[v,.int .u64 x] w fun e w'=>∃ u,e=.returned u∧Snap w' w'.heap.size u (sWith xs x)∧Below w.heap.size w w'∧Fresh w v u:=by
 have h':=h
 obtain ⟨⟨A,n,c,rfl,r⟩,a3,a5⟩:=h
 obtain rfl:=r.len
 have R:=Lh r
 have G:=Lh h'
 have HD:=Lh a3
 have HO:=Lh a5
 clear r h' a3 a5
 obtain ⟨i0,hi,af,ag,ah⟩:=info_parts info_u64
 by_cases hm:x∈xs
 ·have ad:0≤sIdx xs x:=by have:=sIdx_neg xs x; have:=mt this.1 (by simpa using hm); omega
  have F:sWith xs x=xs:=by simp [sWith,hm]
  rw [F]
  have HM:=Lh hm
  clear hm F
  go_enter Tryz.func180,Tryz.ntmps180
  go_wp2_with fail
  refine (idx_any _ xs x _ (G.out.later (((Below.refl _ _).alloc (Nat.le_refl _) _).alloc (by simp) _))).mono ?_
  rintro e w' ⟨rfl,z⟩
  have c0:w'.cell? ⟨w.heap.size,0,none⟩=some (.slice A xs.length c):=(z.cell (p:=⟨w.heap.size,0,none⟩) (by simp; omega)).trans (by go_simp)
  have c1:w'.cell? ⟨w.heap.size+1,0,none⟩=some (.slice none 0 0):=(z.cell (p:=⟨w.heap.size+1,0,none⟩) (by simp)).trans (by go_simp)
  have f1:w'.frozen? ⟨w.heap.size+1,0,none⟩=false:=(z.frozen (p:=⟨w.heap.size+1,0,none⟩) (by simp)).trans (by go_simp)
  go_wp2_with fail
  have a2:Below w.heap.size w (w'.setCell ⟨w.heap.size+1,0,none⟩ (.slice A xs.length c)):=((((Below.refl _ _).alloc (Nat.le_refl _) _).alloc (by simp) _).trans (z.mono (by simp; omega))).setCell (p:=⟨w.heap.size+1,0,none⟩) (by simp) _
  exact bodyPost_ret (v:=.agg #[.slice A xs.length c]) (by simp [results,Tryz.results180,go_sem,c1]) rfl ⟨_,rfl,G.out.later a2,a2,.inl rfl⟩
 ·have ad:sIdx xs x < 0:=(sIdx_neg xs x).2 hm
  have F:sWith xs x=xs ++ [x]:=by simp [sWith,hm]
  have W:=nodup_sWith HD.out x
  have Y:=HO.out.with_ hx.1 hx.2
  rw [F] at W Y ⊢
  have a9:=Lh W
  have aa:=Lh Y
  clear hm F W Y
  go_enter Tryz.func180,Tryz.ntmps180
  go_wp2_with fail
  refine (idx_any _ xs x _ (G.out.later (((Below.refl _ _).alloc (Nat.le_refl _) _).alloc (by simp) _))).mono ?_
  rintro e w' ⟨rfl,z⟩
  have c0:w'.cell? ⟨w.heap.size,0,none⟩=some (.slice A xs.length c):=(z.cell (p:=⟨w.heap.size,0,none⟩) (by simp; omega)).trans (by go_simp)
  have c1:w'.cell? ⟨w.heap.size+1,0,none⟩=some (.slice none 0 0):=(z.cell (p:=⟨w.heap.size+1,0,none⟩) (by simp)).trans (by go_simp)
  have f1:w'.frozen? ⟨w.heap.size+1,0,none⟩=false:=(z.frozen (p:=⟨w.heap.size+1,0,none⟩) (by simp)).trans (by go_simp)
  have a1:Below w.heap.size w w':=(((Below.refl _ _).alloc (Nat.le_refl _) _).alloc (by simp) _).trans (z.mono (by simp; omega))
  have aj:w.heap.size+2≤w'.heap.size:=by have:=z.size; simpa using this
  clear z
  go_wp2_with fail
  refine (all_any _ xs _ (G.out.later a1) (by omega)).mono ?_
  rintro e w2 ⟨u,uc,rfl,a6,I⟩
  have c2:w2.cell? ⟨w.heap.size+1,0,none⟩=some (.slice none 0 0):=(I.cell (p:=⟨w.heap.size+1,0,none⟩) (by show w.heap.size+1 < _; omega)).trans c1
  have f2:w2.frozen? ⟨w.heap.size+1,0,none⟩=false:=(I.frozen (p:=⟨w.heap.size+1,0,none⟩) (by show w.heap.size+1 < _; omega)).trans f1
  have ak:=I.size
  clear c0 c1 f1
  have N:∀ g,(Value.slice u xs.length uc).ownBlock=some g→w'.heap.size≤g:=fun g hg=>(a6.lt g hg).1
  have a4:some (w.heap.size+1)≠(Value.slice u xs.length uc).ownBlock:=fun e=>by have:=N _ e.symm; omega
  have H3:=Lh N
  have a0:=Lh a4
  clear N a4
  go_wp2_with (at_builtin; refine append_rd _ rfl _ _ 38 rfl w'.heap.size 22 i0 (.int .u64 0) 8 Tryz.underlying38 hi af ag ah rfl _ xs.length _ rfl (a6.alloc _) _ _ 1 1 [x] rfl (rd_one (enc:=Value.int .u64) w2 x _) one_u64 (xs.length+1) rfl ((xs ++ [x]).map (Value.int .u64)) List.map_append.symm (by unfold maxLen; omega) (by omega) (by simp; omega) ?_; intro v3 a8 w3 ae J ai; have c3:=J.cell (alloc_cell c2 _) a0.out; have f3:=grown_frozen J (alloc_frozen f2 (by show w.heap.size+1 < _; omega) _) (by show w.heap.size+1 < _; simp; omega) a0.out)
  have ac:Below w.heap.size w w3:=((a1.trans (I.mono (by omega))).alloc (by omega) _).grown J (by simp; omega) (fun k hk=>by have:=H3.out k hk; omega)
  go_wp2_with fail
  have a7:=ownsRow_setCell_below ae (a:=⟨w.heap.size+1,0,none⟩) (by show w.heap.size+1 < _; omega) (.slice v3 (xs.length+1) a8)
  exact bodyPost_ret (v:=.agg #[.slice v3 (xs.length+1) a8]) (by simp [results,Tryz.results180,go_sem,c3]) rfl ⟨_,rfl,⟨⟨_,_,_,rfl,Rd.own_rd a7⟩,a9.out,aa.out⟩,ac.setCell (p:=⟨w.heap.size+1,0,none⟩) (by simp) _,own_fresh a7 (by first | omega | (simp; omega))⟩
end Go.Proofs.YtaeemilldmhbnaaGreatDoor.Sn
namespace Go.Proofs.YtaeemilldmhbnaaGreatDoor.Wl
open Go.ChangeShapes Go.WideShapes Go.ChangeAt Go.RowKit Go.Maps Rw Sl Sn Ck
theorem setD_has (F:List Int) (x:Int):Maps.has (Mp.setD .u64 F) (.int .u64 x)=decide (x∈F):=by
 unfold Mp.setD
 rw [Maps.has_setOf _ _ _ (fun y u=>by obtain ⟨z,_,rfl⟩:=List.mem_map.1 u; trivial),List.any_map,Bool.eq_iff_iff,List.any_eq_true,decide_eq_true_eq]
 constructor
 ·rintro ⟨y,u,h⟩
  have:y=x:=by simpa [Lit.sameKey] using h
  exact this ▸ u
 ·intro h
  exact ⟨x,h,by simp [Lit.sameKey]⟩
theorem setD_tidy (h:List Int):Maps.Tidy (Mp.setD .u64 h):=by
 unfold Mp.setD
 exact Maps.tidy_setOf _ _ (fun y u=>by obtain ⟨z,_,rfl⟩:=List.mem_map.1 u; trivial)
theorem setD_size:∀ (u:List Int),u.Nodup→Maps.size (Mp.setD .u64 u)=u.length:=by
 intro u
 induction h:u.length generalizing u with
 | zero=>
  intro _
  obtain rfl:=List.eq_nil_of_length_eq_zero h
  rfl
 | succ n ih=>
  intro hn
  obtain ⟨l,y,rfl⟩:∃ l y,u=l ++ [y]:=⟨u.dropLast,u.getLast (by intro e; simp [e] at h),(List.dropLast_concat_getLast _).symm⟩
  rw [List.nodup_append] at hn
  have z:l.length=n:=by simpa using h
  have G:y ∉ l:=fun F=>hn.2.2 y F y (by simp) rfl
  rw [Mp.setD_snoc,Maps.size_put (setD_tidy l),setD_has,decide_eq_false G,ih l z hn.1]
  simp
theorem set_run_gen {P:Program} (w:World) (t k e:TypeId) (q:IntKind) (hk:P.underlying k=some (.int q)) (G:P.underlying t=some (.map k e)) (u:P.underlying e=some .bool) (J:(zeroValue e).run P w=.ok (.bool false) w) (b n:Nat) (h:List Int)
  (z:w.ownsMap P k (plainElem P e) b n (Mp.setD q h)) (y:Int) (hw:(Lit.int q y).wf=true) :
  (Instr.lookup t (.map (some b)) (.int q y) false).run P w=.ok (.bool (decide (y∈h))) w:=by
 obtain ⟨v,ps,F,hv⟩:=z.lookup (int_keyed hk) G J (plainElem_bool u false) (keyOf_int_mk hk hw)
 rw [Mp.setD_at] at hv
 have I:v=.bool (decide (y∈h)):=by
  unfold plainElem at hv
  rw [u] at hv
  cases v <;> simp at hv
  rw [hv.1]
 subst I
 exact F
theorem set_run {w:World} {b n:Nat} {h:List Int} {y:Int} (z:0≤y∧y≤18446744073709551615) (u:w.ownsMap Tryz.prog 22 (plainElem Tryz.prog 4) b n (Mp.setD .u64 h)) :
  (Instr.lookup 108 (.map (some b)) (.int .u64 y) false).run Tryz.prog w=.ok (.bool (decide (y∈h))) w:=
 set_run_gen w _ _ _ .u64 Tryz.underlying22 Tryz.underlying108 Tryz.underlying4 (Sn.zero_bool w) b n h u y (wf64 z)
end Go.Proofs.YtaeemilldmhbnaaGreatDoor.Wl
namespace Go.Proofs.YtaeemilldmhbnaaGreatDoor.Sf
open Go.ChangeShapes Go.WideShapes Go.ChangeAt Go.RowKit Rw Go.Shelf
def mbF (k:Nat):Nat:=if k=5 then 111 else if k=7 then 174 else 0
def mbT (k:Nat):Nat:=if k=4 then 4 else if k=20 then 20 else if k=23 then 108 else if k=25 then 22 else if k=3 then 4 else 0
def mbRen:Ren:={ f:=mbF,t:=mbT,g:=fun x=>x }
theorem mbLays:SlLaysW.n5 Tryz.prog mbRen:={
 mixed:=by kernel_rfl
 f5:=⟨ "maps.Clone[map[uint64]bool,uint64,bool]",by kernel_rfl,by kernel_rfl⟩
 f7:=by kernel_rfl
 t4:=by kernel_rfl
 a4:=fun w=>by kernel_rfl
 z4:=fun w=>by kernel_rfl
 v4:=fun w=>by kernel_rfl
 t20:=by kernel_rfl
 a20:=fun w=>by kernel_rfl
 z20:=fun w=>by kernel_rfl
 v20:=fun w=>by kernel_rfl
 t23:=by kernel_rfl
 a23:=fun w=>by kernel_rfl
 z23:=fun w=>by kernel_rfl
 v23:=fun w=>by kernel_rfl }
end Go.Proofs.YtaeemilldmhbnaaGreatDoor.Sf
namespace Go.Proofs.YtaeemilldmhbnaaGreatDoor.Fc
open Go.ChangeShapes Go.WideShapes Go.ChangeAt Go.RowKit Go.Maps Rw
theorem info_bool:(Tryz.prog.info? 4).map (fun i=>(i.zero,i.size,i.bytes))=some (some (.bool false),1,1):=by kernel_rfl
theorem one_bool (y:Bool):(Value.bool y).oneCell'=true:=rfl
theorem bclone_any (A:Option Addr) (n c:Nat) (xs:List Bool) (B:Nat) (w:World) (h:Rd Value.bool w B A n c xs) (G:B≤w.heap.size) (a1:n * 1≤140737488355328) :
  Calls Tryz.prog 105 #[.slice A n c] w fun e w'=>∃ A' z,e=.returned (.slice A' n z)∧w'.ownsRow w.heap.size 4 1 (.slice A' n z) n (xs.map Value.bool)∧Below w.heap.size w w':=by
 have hn:n≤9223372036854775807:=by have:=h.cap; have:=h.top; omega
 obtain ⟨i0,hi,N,W,Y⟩:=info_parts info_bool
 cases A with
 | none=>
  have u:n=0:=by
   rcases Nat.eq_zero_or_pos n with u | u
   ·exact u
   ·obtain ⟨b,o,e,_⟩:=h.at_ u
    cases e
  subst u
  obtain rfl:=List.eq_nil_of_length_eq_zero h.len
  clear h
  have hk:=@Lib.run_eql_slice_nil Tryz.prog
  go_enter Tryz.func105,Tryz.ntmps105
  go_wp2
  go_ret
  exact ⟨_,_,rfl,World.ownsRow_nil _ _ _ _,Below.refl _ _⟩
 | some a=>
  have F:=Lh h
  clear h
  have hk:=@Lib.run_eql_slice_nil Tryz.prog
  go_enter Tryz.func105,Tryz.ntmps105
  go_wp2_with (at_builtin; refine append_rd _ rfl _ _ 25 rfl w.heap.size 4 i0 (.bool false) 1 Tryz.underlying25 hi N W Y rfl _ 0 [] rfl (World.ownsRow_lit _ #[] 0 (Nat.le_refl _) (by decide) rfl) B (some a) n c xs rfl (F.out.alloc G _) one_bool n (Nat.zero_add _) (xs.map Value.bool) rfl ?_ ?_ ?_ ?_)
  ·unfold maxLen; omega
  ·omega
  ·simp
  ·intro A' z w' J I a0
   go_wp2
   go_ret
   refine ⟨A',z,rfl,J,((Below.refl _ _).alloc (Nat.le_refl _) _).grown I (by simp) (fun k hk=>?_)⟩
   simp [Value.ownBlock] at hk
   omega
theorem sclone_any (A:Option Addr) (n c:Nat) (xs:List Bool) (B:Nat) (w:World) (h:Rd Value.bool w B A n c xs) (G:B≤w.heap.size) (a1:n * 1≤140737488355328) :
  Calls Tryz.prog 113 #[.slice A n c] w fun e w'=>∃ A' z,e=.returned (.slice A' n z)∧w'.ownsRow w.heap.size 4 1 (.slice A' n z) n (xs.map Value.bool)∧Below w.heap.size w w':=by
 have hn:n≤9223372036854775807:=by have:=h.cap; have:=h.top; omega
 obtain ⟨i0,hi,N,W,Y⟩:=info_parts info_bool
 cases A with
 | none=>
  have u:n=0:=by
   rcases Nat.eq_zero_or_pos n with u | u
   ·exact u
   ·obtain ⟨b,o,e,_⟩:=h.at_ u
    cases e
  subst u
  obtain rfl:=List.eq_nil_of_length_eq_zero h.len
  clear h
  have hk:=@Lib.run_eql_slice_nil Tryz.prog
  go_enter Tryz.func113,Tryz.ntmps113
  go_wp2
  go_ret
  exact ⟨_,_,rfl,World.ownsRow_nil _ _ _ _,Below.refl _ _⟩
 | some a=>
  have F:=Lh h
  clear h
  have hk:=@Lib.run_eql_slice_nil Tryz.prog
  go_enter Tryz.func113,Tryz.ntmps113
  go_wp2_with (at_builtin; refine append_rd _ rfl _ _ 107 rfl w.heap.size 4 i0 (.bool false) 1 Tryz.underlying107 hi N W Y rfl _ 0 [] rfl (World.ownsRow_lit _ #[] 0 (Nat.le_refl _) (by decide) rfl) B (some a) n c xs rfl (F.out.alloc G _) one_bool n (Nat.zero_add _) (xs.map Value.bool) rfl ?_ ?_ ?_ ?_)
  ·unfold maxLen; omega
  ·omega
  ·simp
  ·intro A' z w' J I a0
   go_wp2
   go_ret
   refine ⟨A',z,rfl,J,((Below.refl _ _).alloc (Nat.le_refl _) _).grown I (by simp) (fun k hk=>?_)⟩
   simp [Value.ownBlock] at hk
   omega
structure Scr (w:World) (b m:Nat) (A:Option Addr) (k c:Nat) (O:List Bool):Prop where
 rd:Rd Value.bool w m A k c O
 lo:0 < k → ∃ g o,A=some ⟨g,o,none⟩∧b≤g
theorem Scr.same {w w':World} {b m:Nat} {A:Option Addr} {k c:Nat} {O:List Bool} (h:Scr w b m A k c O) (hk:∀ g,b≤g→g < m→w'.heap[g]? = w.heap[g]?):Scr w' b m A k c O:=
 ⟨⟨h.rd.len,h.rd.cap,h.rd.top,fun hn=>by
  obtain ⟨g,o,e,z,hc⟩:=h.rd.at_ hn
  obtain ⟨G,I,u,F⟩:=h.lo hn
  rw [e] at u
  injection u with u
  injection u with e1 e2
  subst e1 e2
  refine ⟨g,o,e,z,fun j x hx=>?_⟩
  rw [← hc j x hx]
  unfold World.cell?
  simp only [hk g F z]⟩,h.lo⟩
theorem Scr.of_own {w:World} {b m:Nat} {A:Option Addr} {k c:Nat} {O:List Bool} (h:w.ownsRow b 4 1 (.slice A k c) k (O.map Value.bool)) (z:w.heap.size≤m):Scr w b m A k c O:=by
 refine ⟨(Rd.own_rd h).more z,fun hk=>?_⟩
 rcases h.2 with ⟨e,G⟩ | ⟨g,cap,F,e,u,_⟩
 ·omega
 ·injection e with e1 _ _
  exact ⟨g,0,e1,u⟩
structure Fa (w:World) (b m p:Nat) (O P:List Bool) (n:Nat) (C:List Int):Prop where
 opens:∃ A k c,w.cell? ⟨p,0,none⟩=some (.slice A k c)∧Scr w b m A k c O
 proofs:∃ A k c,w.cell? ⟨p,1,none⟩=some (.slice A k c)∧Scr w b m A k c P
 many:w.cell? ⟨p,2,none⟩=some (.int .u64 n)
 map:w.cell? ⟨p,3,none⟩=some (.map (some m))
 own:w.ownsMap Tryz.prog 22 (plainElem Tryz.prog 4) m C.length (Mp.setD .u64 C)
 free:∀ o,w.frozen? ⟨p,o,none⟩=false
 lo:b≤m
 lt:m < p
 nd:C.Nodup
 mem:∀ x∈C,1≤x∧x≤n
theorem Fa.in_ {w:World} {b m p n:Nat} {O P:List Bool} {C:List Int} (h:Fa w b m p O P n C):p < w.heap.size:=Lw.lt_heap h.many
theorem Fa.same {w w':World} {b m p n:Nat} {O P:List Bool} {C:List Int} (h:Fa w b m p O P n C) (hk:∀ g,b≤g→g≤p→w'.heap[g]? = w.heap[g]?):Fa w' b m p O P n C:=by
 have a0:=h.lo
 have a1:=h.lt
 have z:=hk p (by omega) (Nat.le_refl _)
 have hc:∀ o,w'.cell? ⟨p,o,none⟩=w.cell? ⟨p,o,none⟩:=fun o=>by unfold World.cell?; simp only [z]
 have hf:∀ o,w'.frozen? ⟨p,o,none⟩=w.frozen? ⟨p,o,none⟩:=fun o=>by unfold World.frozen?; simp only [z]
 obtain ⟨A,k,c,I,N⟩:=h.opens
 obtain ⟨A',k',F,J,W⟩:=h.proofs
 obtain ⟨es,G,Y,hr⟩:=h.own
 exact ⟨⟨A,k,c,(hc 0).trans I,N.same fun g u q2=>hk g u (by omega)⟩,⟨A',k',F,(hc 1).trans J,W.same fun g u q2=>hk g u (by omega)⟩,(hc 2).trans h.many,(hc 3).trans h.map,⟨es,G,(hk m h.lo (by omega)).trans Y,hr⟩,fun o=>(hf o).trans (h.free o),h.lo,h.lt,h.nd,h.mem⟩
theorem Fa.later {w w':World} {b m p n:Nat} {O P:List Bool} {C:List Int} (h:Fa w b m p O P n C) (u:Below w.heap.size w w'):Fa w' b m p O P n C:=
 h.same fun g _ z=>u.block g (by have:=h.in_; omega)
theorem next_nil (p i:Nat) (A:Option Addr) (c:Nat) (w:World) (h:w.cell? ⟨p,i,none⟩=some (.slice A 0 c)) :
  Calls Tryz.prog 48 #[.pointer (some ⟨p,i,none⟩)] w fun e w'=>e=.returned (.bool true)∧w=w':=by
 go_enter Tryz.func48,Tryz.ntmps48
 go_wp2_with fail
 go_ret
 exact ⟨rfl,rfl⟩
theorem next_cons (p i:Nat) (A:Option Addr) (k c b m:Nat) (x:Bool) (l:List Bool) (w:World) (h0:w.cell? ⟨p,i,none⟩=some (.slice A k c)) (hf:w.frozen? ⟨p,i,none⟩=false) (h:Scr w b m A k c (x :: l)) (hp:p < w.heap.size) :
  Calls Tryz.prog 48 #[.pointer (some ⟨p,i,none⟩)] w fun e w'=>e=.returned (.bool x) ∧ ∃ A' I F,Scr w b m A' I F l∧w.setCell ⟨p,i,none⟩ (.slice A' I F)=w':=by
 obtain ⟨u,G⟩:=h
 have hn:(x :: l).length=k:=u.len
 simp at hn
 have a2:=u.cap
 have a3:=u.top
 obtain ⟨g,o,y,rfl,hg,hx,N⟩:=u.get (k:=0) (by omega)
 obtain rfl:x=y:=by simpa using hx
 obtain ⟨Y,o',e,J⟩:=G (by omega)
 injection e with e
 injection e with e1 e2
 subst e1 e2
 have hz:((k:Int) == 0)=false:=by simp; omega
 have a4:(k == 0)=false:=by simp; omega
 have z:=Lh u
 have a1:1≤k:=by omega
 simp only [Nat.add_zero] at N
 have W:=Lh hn
 clear u G hx hn
 by_cases hc1:c=1
 ·subst hc1
  obtain rfl:k=1:=by omega
  go_enter Tryz.func48,Tryz.ntmps48
  go_wp2_with fail
  go_ret
  exact ⟨rfl,_,_,_,⟨z.out.back (i:=1) (A':=some ⟨g,o,none⟩) (by omega) rfl (by omega),fun hk=>(by omega)⟩,rfl⟩
 ·have a0:1 < c:=by omega
  go_enter Tryz.func48,Tryz.ntmps48
  go_wp2_with fail
  go_ret
  exact ⟨rfl,_,_,_,⟨z.out.back (i:=1) (A':=some ⟨g,o+1,none⟩) (by omega) rfl (fun _=>rfl),fun hk=>⟨g,o+1,rfl,J⟩⟩,rfl⟩
theorem grown_setCell (w:World) (a:Addr) (u:Value):w.grownBy (w.setCell a u) (some a.block):=
 ⟨rfl,rfl,rfl,by simp,fun k _ hk=>heap_setCell_other w a k u (fun e=>hk (by rw [e]))⟩
section
variable {w:World} {b m p n:Nat} {O P:List Bool} {C:List Int}
theorem setCell_ne (w:World) {p:Nat} (i o:Nat) (u:Value) (h:i≠o):(w.setCell ⟨p,i,none⟩ u).cell? ⟨p,o,none⟩=w.cell? ⟨p,o,none⟩:=
 World.cell?_setCell_other _ _ _ _ (fun e=>by injection e with _ e; exact h e)
theorem Scr.put {A:Option Addr} {k c:Nat} {l:List Bool} (h:Scr w b m A k c l) (F:m < p) (i:Nat) (u:Value):Scr (w.setCell ⟨p,i,none⟩ u) b m A k c l:=
 h.same fun g _ z=>heap_setCell_other w _ g _ (fun e=>by have:g=p:=e; omega)
theorem own_put {k:TypeId} {R:Value→Option (DataW Unit × List MemPlace)} {q:Nat} {D:DataW Unit} (h:w.ownsMap Tryz.prog k R m q D) (I:m < p) (i:Nat) (u:Value):(w.setCell ⟨p,i,none⟩ u).ownsMap Tryz.prog k R m q D:=by
 obtain ⟨es,z,F,G⟩:=h
 exact ⟨es,z,(heap_setCell_other w _ m _ (fun e=>by have:m=p:=e; omega)).trans F,G⟩
theorem Fa.put0 (h:Fa w b m p O P n C) {A:Option Addr} {k c:Nat} {l:List Bool} (I:Scr w b m A k c l) :
  Fa (w.setCell ⟨p,0,none⟩ (.slice A k c)) b m p l P n C∧Hi.Fr (some p) (some m) w (w.setCell ⟨p,0,none⟩ (.slice A k c)):=by
 obtain ⟨A0,k0,c0,F,-⟩:=h.opens
 obtain ⟨z,k1,c1,G,J⟩:=h.proofs
 have u:=h.lt
 exact ⟨⟨⟨A,k,c,World.cell?_setCell_same _ _ _ F,I.put u _ _⟩,⟨z,k1,c1,(setCell_ne w 0 1 _ (by omega)).trans G,J.put u _ _⟩,(setCell_ne w 0 2 _ (by omega)).trans h.many,(setCell_ne w 0 3 _ (by omega)).trans h.map,own_put h.own u _ _,fun o=>by simpa using h.free o,h.lo,u,h.nd,h.mem⟩,Hi.Fr.of_grown (grown_setCell _ _ _) (.inr (.inl rfl))⟩
theorem Fa.put2 (h:Fa w b m p O P n C) :
  Fa (w.setCell ⟨p,2,none⟩ (.int .u64 ((n:Int)+1))) b m p O P (n+1) C∧Hi.Fr (some p) (some m) w (w.setCell ⟨p,2,none⟩ (.int .u64 ((n:Int)+1))):=by
 obtain ⟨A0,k0,c0,F,I⟩:=h.opens
 obtain ⟨z,k1,c1,G,J⟩:=h.proofs
 have u:=h.lt
 exact ⟨⟨⟨A0,k0,c0,(setCell_ne w 2 0 _ (by omega)).trans F,I.put u _ _⟩,⟨z,k1,c1,(setCell_ne w 2 1 _ (by omega)).trans G,J.put u _ _⟩,World.cell?_setCell_same _ _ _ h.many,(setCell_ne w 2 3 _ (by omega)).trans h.map,own_put h.own u _ _,fun o=>by simpa using h.free o,h.lo,u,h.nd,fun x hx=>by have:=h.mem x hx; omega⟩,Hi.Fr.of_grown (grown_setCell _ _ _) (.inr (.inl rfl))⟩
theorem Fa.shut (h:Fa w b m p O P n C) {w':World} {x:Int} {q:Nat} (u:w.grownBy w' (some m)) (ho:w'.ownsMap Tryz.prog 22 (plainElem Tryz.prog 4) m q (Mp.setD .u64 (C ++ [x]))) (hq:q=(C ++ [x]).length) (hx:x ∉ C) (N:1≤x∧x≤n) :
  Fa w' b m p O P n (C ++ [x])∧Hi.Fr (some p) (some m) w w':=by
 obtain ⟨A0,k0,c0,J,a1⟩:=h.opens
 obtain ⟨I,k1,c1,W,a2⟩:=h.proofs
 have Y:=h.lt
 have a0:=h.in_
 have F:some p≠some m:=fun e=>by injection e; omega
 have G:∀ g,b≤g→g < m→w'.heap[g]? = w.heap[g]?:=fun g _ a3=>u.block g (by omega) (fun e=>by injection e; omega)
 subst hq
 refine ⟨⟨⟨A0,k0,c0,u.cell J F,a1.same G⟩,⟨I,k1,c1,u.cell W F,a2.same G⟩,u.cell h.many F,u.cell h.map F,ho,fun o=>grown_frozen u (h.free o) a0 F,h.lo,Y,?_,?_⟩,Hi.Fr.of_grown u (.inr (.inr rfl))⟩
 ·rw [List.nodup_append]
  exact ⟨h.nd,by simp,fun a ha c hc=>by simp at hc; subst hc; intro e; subst e; exact hx ha⟩
 ·intro y z
  rcases List.mem_append.1 z with z | z
  ·exact h.mem y z
  ·simp at z; subst z; exact N
end
def nx:List Bool→Bool × List Bool
 | []=>(true,[])
 | x :: l=>(x,l)
def kn (n:Nat) (C:List Int) (id cl:Int):Int:=if id=0∨(n:Int) < id then 9 else if id∈C then cl else 0
abbrev ptr (p:Nat):Value:=.pointer (some ⟨p,0,none⟩)
theorem next0_any (p b m n:Nat) (O P:List Bool) (C:List Int) (w:World) (h:Fa w b m p O P n C) :
  Calls Tryz.prog 48 #[.pointer (some ⟨p,0,none⟩)] w fun e w'=>e=.returned (.bool (nx O).1)∧Fa w' b m p (nx O).2 P n C∧Hi.Fr (some p) (some m) w w':=by
 obtain ⟨A,k,c,F,I⟩:=h.opens
 cases O with
 | nil=>
  obtain rfl:0=k:=I.rd.len
  exact (next_nil p 0 A c w F).mono fun e w' ⟨z,u⟩=>⟨z,u ▸ h,u ▸ Hi.Fr.refl _ _ _⟩
 | cons x l=>
  exact (next_cons p 0 A k c b m x l w F (h.free 0) I h.in_).mono fun e w' ⟨z,A',N,J,u,G⟩=>⟨z,G ▸ (h.put0 u).1,G ▸ (h.put0 u).2⟩
theorem open_any (p b m n:Nat) (O P:List Bool) (C:List Int) (w:World) (h:Fa w b m p O P n C) (hn:n < 18446744073709551615) :
  Calls Tryz.prog 12 #[ptr p] w fun e w'=>e=.returned (.tuple #[.int .u64 (if (nx O).1 then (n:Int)+1 else 0),.bool (nx O).1])∧Fa w' b m p (nx O).2 P (if (nx O).1 then n+1 else n) C∧Hi.Fr (some p) (some m) w w':=by
 have N:=next0_any p b m n O P C w h
 have F:=Lh N
 have hl:=h.in_
 clear N h
 generalize nx O=r at *
 obtain ⟨r1,l⟩:=r
 cases r1
 ·go_enter Tryz.func12,Tryz.ntmps12
  go_wp2_with fail
  refine F.out.mono ?_
  rintro e w1 ⟨rfl,u,z⟩
  go_wp2_with fail
  exact bodyPost_ret (v:=.tuple #[.int .u64 0,.bool false]) (by simp [results,Tryz.results12,go_sem]) rfl ⟨rfl,u,z⟩
 ·go_enter Tryz.func12,Tryz.ntmps12
  go_wp2_with fail
  refine F.out.mono ?_
  rintro e w1 ⟨rfl,u,z⟩
  have d2:=u.many
  have f2:=u.free 2
  have a0:=u.in_
  have G:=Lh u
  have I:=Lh z
  clear u z
  go_wp2_with fail
  obtain ⟨J,W⟩:=G.out.put2
  have Y:=I.out.then W (fun k e _=>.inl e.symm) (fun k e _=>.inr e.symm)
  exact bodyPost_ret (v:=.tuple #[.int .u64 ((n:Int)+1),.bool true]) (by simp [results,Tryz.results12,go_sem]) rfl ⟨rfl,J,Y⟩
theorem wrong_any (p b m n:Nat) (O P:List Bool) (C:List Int) (id cl:Int) (w:World) (h:Fa w b m p O P n C) (hid:0≤id∧id≤18446744073709551615) :
  Calls Tryz.prog 185 #[ptr p,.int .u64 id,.int .i64 cl] w fun e w'=>e=.returned (.int .i64 (kn n C id cl))∧w=w':=by
 have d2:=h.many
 have d3:=h.map
 have u:=Wl.set_run hid h.own
 by_cases h0:id=0
 ·subst h0
  have e:kn n C 0 cl=9:=by simp [kn]
  rw [e]
  clear h u
  go_enter Tryz.func185,Tryz.ntmps185
  go_wp2_with fail
  go_ret
  exact ⟨rfl,rfl⟩
 ·have F:(id == 0)=false:=by simpa using h0
  by_cases h1:(n:Int) < id
  ·have z:decide ((n:Int) < id)=true:=decide_eq_true h1
   have e:kn n C id cl=9:=by simp [kn,h1]
   rw [e]
   clear h u
   go_enter Tryz.func185,Tryz.ntmps185
   go_wp2_with fail
   go_ret
   exact ⟨rfl,rfl⟩
  ·have z:decide ((n:Int) < id)=false:=decide_eq_false h1
   by_cases h2:id∈C
   ·have e:kn n C id cl=cl:=by simp [kn,h0,h1,h2]
    rw [e]
    rw [decide_eq_true h2] at u
    clear h e h2
    go_enter Tryz.func185,Tryz.ntmps185
    go_wp2_with fail
    go_ret
    exact ⟨rfl,rfl⟩
   ·have e:kn n C id cl=0:=by simp [kn,h0,h1,h2]
    rw [e]
    rw [decide_eq_false h2] at u
    clear h e h2
    go_enter Tryz.func185,Tryz.ntmps185
    go_wp2_with fail
    go_ret
    exact ⟨rfl,rfl⟩
theorem close_any (p b m n:Nat) (O P:List Bool) (C:List Int) (id:Int) (w:World) (h:Fa w b m p O P n C) (hid:0≤id∧id≤18446744073709551615) (hn:C.length < 1000) :
  Calls Tryz.prog 132 #[ptr p,.int .u64 id] w fun e w'=>e=.returned (.int .i64 (kn n C id 10))∧Fa w' b m p O P n (if kn n C id 10=0 then C ++ [id] else C)∧Hi.Fr (some p) (some m) w w':=by
 have W:=wrong_any p b m n O P C id 10 w h hid
 have hl:=h.in_
 have d3:=h.map
 have z:=Lh W
 have u:=Lh h
 have hw:(Lit.int .u64 id).wf=true:=Wl.wf64 hid
 clear W h
 by_cases hq:kn n C id 10=0
 ·rw [hq] at z ⊢
  simp only [if_true]
  have hx:id ∉ C∧1≤id∧id≤n:=by
   unfold kn at hq
   split at hq
   ·omega
   ·split at hq
    ·omega
    ·rename_i h1 Y; exact ⟨Y,by omega,by omega⟩
  have F:=Lh hx
  have J:=Lh u.out.own
  clear hx hq
  go_enter Tryz.func132,Tryz.ntmps132
  go_wp2_with fail
  refine z.out.mono ?_
  rintro e w1 ⟨rfl,rfl⟩
  go_wp2_with (refine Mp.update_set w rfl _ _ _ 108 rfl 22 4 .u64 Tryz.underlying22 Tryz.underlying108 Tryz.underlying4 m C.length C rfl J.out (by unfold maxLen; omega) id rfl rfl hw ?_)
  intro w2 I G
  have q:=u.out.shut G I (by simp) F.out.1 F.out.2
  have N:=Lh q
  clear I G q
  go_wp2_with fail
  go_ret
  exact ⟨rfl,N.out⟩
 ·rw [if_neg hq]
  generalize kn n C id 10=q at *
  have hb:(q != 0)=true:=by simpa using hq
  go_enter Tryz.func132,Tryz.ntmps132
  go_wp2_with fail
  refine z.out.mono ?_
  rintro e w1 ⟨rfl,rfl⟩
  go_wp2_with fail
  go_ret
  exact ⟨rfl,u.out,Hi.Fr.refl _ _ _⟩
theorem isopen_any (p b m n:Nat) (O P:List Bool) (C:List Int) (id:Int) (w:World) (h:Fa w b m p O P n C) (hid:0≤id∧id≤18446744073709551615) :
  Calls Tryz.prog 153 #[ptr p,.int .u64 id] w fun e w'=>e=.returned (.bool (kn n C id 6 == 0))∧w=w':=by
 have W:=wrong_any p b m n O P C id 6 w h hid
 have u:=Lh W
 clear W h
 generalize kn n C id 6=q at *
 go_enter Tryz.func153,Tryz.ntmps153
 go_wp2_with fail
 refine u.out.mono ?_
 rintro e z ⟨rfl,rfl⟩
 go_wp2_with fail
 go_ret
 exact ⟨rfl,rfl⟩
theorem opened_any (p b m n:Nat) (O P:List Bool) (C:List Int) (w:World) (h:Fa w b m p O P n C) :
  Calls Tryz.prog 80 #[ptr p] w fun e w'=>e=.returned (.int .u64 n)∧w=w':=by
 have d2:=h.many
 clear h
 go_enter Tryz.func80,Tryz.ntmps80
 go_wp2_with fail
 go_ret
 exact ⟨rfl,rfl⟩
theorem closed_any (p b m n:Nat) (O P:List Bool) (C:List Int) (w:World) (h:Fa w b m p O P n C) (hn:C.length < 1000) :
  Calls Tryz.prog 81 #[ptr p] w fun e w'=>e=.returned (.int .u64 C.length)∧w=w':=by
 have d3:=h.map
 have u:=Lh h.own
 have z:Hid (Maps.size (Mp.setD .u64 C)=C.length):=Lh (Wl.setD_size C h.nd)
 clear h
 have F:((C.length:Int))≤1000:=by omega
 go_enter Tryz.func81,Tryz.ntmps81
 go_wp2_with (at_len; refine wpList_len_own _ rfl _ 108 rfl 22 4 Tryz.underlying108 _ m C.length (Mp.setD .u64 C) rfl u.out ?_; rw [show Maps.size (Mp.setD .u64 C)=C.length from z.out])
 go_ret
 exact ⟨rfl,rfl⟩
def ids (C:List Int):Nat→List Int
 | 0=>[]
 | k+1=>if ((k:Int)+1)∈C then ids C k else ids C k ++ [(k:Int)+1]
theorem ids_len (C:List Int):∀ k,(ids C k).length≤k
 | 0=>by simp [ids]
 | k+1=>by
  have:=ids_len C k
  unfold ids
  split
  ·omega
  ·simp; exact this
theorem info_u64:(Tryz.prog.info? 22).map (fun i=>(i.zero,i.size,i.bytes))=some (some (.int .u64 0),1,8):=by kernel_rfl
theorem one_u64 (y:Int):(Value.int .u64 y).oneCell'=true:=rfl
theorem ids_any (p b m n:Nat) (O P:List Bool) (C:List Int) (w:World) (h:Fa w b m p O P n C) (hn:n≤1000) :
  Calls Tryz.prog 79 #[ptr p] w fun e w'=>∃ A c q,e=.returned (.slice A q c)∧(ids C n).length=q∧w'.ownsRow w.heap.size 22 1 (.slice A q c) q ((ids C n).map (Value.int .u64))∧Below w.heap.size w w':=by
 obtain ⟨i0,hi,ad,ae,af⟩:=info_parts info_u64
 have HH:=Lh h
 clear h
 go_enter Tryz.func79,Tryz.ntmps79
 go_wp2_with fail
 go_loopw [3,4] (fun v i wr=>∃ (k q c:Nat) (A:Option Addr),k≤n∧i=.int .u64 ((k:Int)+1)∧v=.slice A q c∧(ids C k).length=q ∧
   wr.ownsRow w.heap.size 22 1 (.slice A q c) q ((ids C k).map (Value.int .u64))∧Below w.heap.size w wr) (fun _ i _=>n+1 - (intOf i).toNat)
 case atStart=>exact ⟨0,0,0,none,Nat.zero_le _,rfl,rfl,rfl,World.ownsRow_nil _ _ _ _,Below.refl _ _⟩
 case round=>
  obtain ⟨k,q,c,A,hk,rfl,rfl,hq,a5,hb⟩:=hrel
  have a1:=HH.out.later hb
  have z:=Lh a1
  have J:=Lh a5
  have G:=Lh hb
  have Y:=Lh hq
  have ag:q≤k:=by have:=ids_len C k; omega
  clear a5 hb a1 hq
  by_cases hlt:k < n
  ·have q1:decide ((k:Int)+1≤(n:Int))=true:=decide_eq_true (by omega)
   by_cases hC:((k:Int)+1)∈C
   ·have F:(kn n C ((k:Int)+1) 6 == 0)=false:=by unfold kn; rw [if_neg (by omega),if_pos hC]; rfl
    have u:ids C (k+1)=ids C k:=by simp [ids,hC]
    have I:=Lh u
    have W:=Lh F
    clear u hC F
    go_wp2_with fail
    refine (opened_any p b m n O P C _ z.out).mono ?_
    rintro e N ⟨rfl,rfl⟩
    go_wp2_with fail
    refine (isopen_any p b m n O P C ((k:Int)+1) _ z.out (by omega)).mono ?_
    rintro e N ⟨rfl,rfl⟩
    rw [W.out]
    go_wp2_with fail
    go_roundw
    case rel=>exact ⟨k+1,q,c,A,by omega,by go_num,rfl,by rw [I.out]; exact Y.out,by rw [I.out]; exact J.out,G.out⟩
    case measure=>simp [intOf]; omega
   ·have F:(kn n C ((k:Int)+1) 6 == 0)=true:=by unfold kn; rw [if_neg (by omega),if_neg hC]; rfl
    have u:ids C (k+1)=ids C k ++ [(k:Int)+1]:=by simp [ids,hC]
    have I:=Lh u
    have W:=Lh F
    have a3:(ids C k).map (Value.int .u64) ++ [(k:Int)+1].map (Value.int .u64)=(ids C (k+1)).map (Value.int .u64):=by rw [u,List.map_append]
    have a8:=Lh a3
    clear u hC F a3
    go_wp2_with fail
    refine (opened_any p b m n O P C _ z.out).mono ?_
    rintro e N ⟨rfl,rfl⟩
    go_wp2_with fail
    refine (isopen_any p b m n O P C ((k:Int)+1) _ z.out (by omega)).mono ?_
    rintro e N ⟨rfl,rfl⟩
    rw [W.out]
    obtain ⟨y,hy⟩:∃ y,(k:Int)+1=y:=⟨_,rfl⟩
    have a4:Rd (Value.int .u64) (wr.alloc (.cells #[.int .u64 ((k:Int)+1)] 22)) (wr.heap.size+1) (some ⟨wr.heap.size,0,none⟩) 1 1 [(k:Int)+1]:=rd_one wr ((k:Int)+1) 22
    have a9:=Lh a4
    have hs:=G.out.size
    clear a4 hy
    go_wp2_with (
     at_builtin
     refine append_rd _ rfl _ _ 38 rfl w.heap.size 22 i0 (.int .u64 0) 8 Tryz.underlying38 hi ad ae af rfl _ q _ rfl (J.out.alloc _) _ _ 1 1 [(k:Int)+1] rfl a9.out one_u64 (q+1) rfl _ a8.out (by unfold maxLen; omega) (by omega) (by simp; omega) ?_
     intro A3 c3 w3 a6 a2 ac
     have aa:=Lh a6
     have a0:Below w.heap.size w w3:=(G.out.alloc hs _).grown a2 (by simp; omega) (fun j hj=>(J.out.lt j hj).1)
     have a7:=Lh a0
     clear a6 a2 a0 ac)
    go_roundw
    case rel=>exact ⟨k+1,q+1,c3,A3,by omega,by go_num,rfl,by rw [I.out]; simp [Y.out],aa.out,a7.out⟩
    case measure=>simp [intOf]; omega
  ·obtain rfl:k=n:=by omega
   have q1:decide ((k:Int)+1≤(k:Int))=false:=decide_eq_false (by omega)
   go_wp2_with fail
   refine (opened_any p b m k O P C _ z.out).mono ?_
   rintro e N ⟨rfl,rfl⟩
   go_wp2_with fail
   go_ret
   exact ⟨_,_,_,rfl,Y.out,J.out,G.out⟩
theorem setclone_any (w:World) (m:Nat) (C:List Int) (h:w.ownsMap Tryz.prog 22 (plainElem Tryz.prog 4) m C.length (Mp.setD .u64 C)) :
  Calls Tryz.prog 111 #[.map (some m)] w fun e w'=>e=.returned (.map (some w.heap.size))∧w'.ownsMap Tryz.prog 22 (plainElem Tryz.prog 4) w.heap.size C.length (Mp.setD .u64 C)∧Below w.heap.size w w'∧w'.heap.size=w.heap.size+1:=by
 obtain ⟨es,u,G,F,I,z⟩:=h
 refine (AnyW.maps_Clone Sf.mbLays m es u w G).mono ?_
 rintro e w' ⟨rfl,rfl⟩
 exact ⟨rfl,⟨es,u,(MapKept.heap_alloc w _).1,F,I,z⟩,(Below.refl _ w).alloc (Nat.le_refl _) _,by simp⟩
theorem own_scr {w w':World} {b m:Nat} {A:Option Addr} {k c:Nat} {O:List Bool} (h:w.ownsRow b 4 1 (.slice A k c) k (O.map Value.bool)) (F:Below w.heap.size w w') (I:w.heap.size≤m):Scr w' b m A k c O:=by
 have z:=Scr.of_own (m:=w.heap.size) h (Nat.le_refl _)
 have u:=z.same (w':=w') fun g _ G=>F.block g G
 exact ⟨u.rd.more I,u.lo⟩
theorem new_any (A:Option Addr) (k c B:Nat) (O:List Bool) (A':Option Addr) (z I B':Nat) (P:List Bool) (w:World) (h:Rd Value.bool w B A k c O) (W:Rd Value.bool w B' A' z I P) (hB:B≤w.heap.size) (a7:B'≤w.heap.size) (hk:k≤1000) (a8:z≤1000) :
  Calls Tryz.prog 37 #[.slice A k c,.slice A' z I] w fun e w'=>∃ m p,e=.returned (ptr p)∧Fa w' w.heap.size m p O P 0 [] ∧ Below w.heap.size w w':=by
 have a9:=@run_makeMap Tryz.prog
 have HR:=Lh h
 have a5:=Lh W
 clear h W
 go_enter Tryz.func37,Tryz.ntmps37
 go_wp2_with fail
 refine (bclone_any A k c O B _ HR.out hB (by omega)).mono ?_
 rintro e w1 ⟨A1,c1,rfl,a0,J⟩
 have a2:Rd Value.bool w1 B' A' z I P:=a5.out.keep fun p hp=>J.cell (by omega)
 have a6:=Lh a2
 have a3:=Lh a0
 have F:=Lh J
 clear a0 J a2
 go_wp2_with fail
 refine (bclone_any A' z I P B' _ a6.out (by have:=F.out.size; omega) (by omega)).mono ?_
 rintro e u ⟨A2,c2,rfl,a1,Y⟩
 have a4:=Lh (own_mono a1 F.out.size)
 have G:=Lh Y
 clear a1 Y
 go_wp2_with fail
 go_ret
 have N:=F.out.trans (G.out.mono F.out.size)
 have hs:=N.size
 refine ⟨u.heap.size,u.heap.size+1,rfl,⟨⟨A1,k,c1,by go_simp,own_scr a3.out (G.out.trans ((((Below.refl u.heap.size u).alloc (Nat.le_refl _) _).alloc (by simp) _).mono G.out.size)) G.out.size⟩,⟨A2,z,c2,by go_simp,own_scr a4.out (((Below.refl u.heap.size u).alloc (Nat.le_refl _) _).alloc (by simp) _) (Nat.le_refl _)⟩,by go_simp,by go_simp,(World.ownsMap_made u _ _ _).alloc _,?_,hs,by omega,List.nodup_nil,fun x hx=>by cases hx⟩,N.trans ((((Below.refl u.heap.size u).alloc (Nat.le_refl _) _).alloc (by simp) _).mono hs)⟩
 intro o
 simp
theorem awake10_any (w:World) (I:Tx.Tab w) :
  Calls Tryz.prog 330 #[] w fun e w'=>e=.returned (.bool true)∧Below w.heap.size w w':=by
 have Y:=Lh I
 clear I
 go_enter Tryz.func330,Tryz.ntmps330
 go_wp2_with fail
 refine (new_any _ 1 1 _ [false] none 0 0 0 [] _ (rd_one w false _) Rd.nil_ (by simp) (by omega) (by omega) (by omega)).mono ?_
 rintro e w1 ⟨m,p,rfl,h,J⟩
 have b1:Below w.heap.size w w1:=((Below.refl _ _).alloc (Nat.le_refl _) _).trans (J.mono (by simp))
 have a1:=h.lo
 have a2:=h.lt
 simp at a1
 clear J
 go_wp2_with fail
 refine (open_any p _ m 0 [false] [] [] _ h (by omega)).mono ?_
 rintro e w2 ⟨rfl,F,N⟩
 have z:Below w.heap.size w w2:=b1.trans (N.below b1.size (fun k hk=>by injection hk; omega) (fun k hk=>by injection hk; omega))
 clear h b1 N
 simp only [nx] at F
 simp only [nx]
 go_wp2_with fail
 refine (open_any p _ m 0 [] [] [] _ F (by omega)).mono ?_
 rintro e w3 ⟨rfl,h3,W⟩
 have G:Below w.heap.size w w3:=z.trans (W.below z.size (fun k hk=>by injection hk; omega) (fun k hk=>by injection hk; omega))
 have u:=Lh G
 clear F h3 z G W
 simp only [nx]
 go_wp2_with fail
 refine (Hi.Awake9_any _ (Y.out.below u.out)).mono ?_
 rintro e w4 ⟨rfl,a0⟩
 go_wp2_with fail
 go_ret
 exact ⟨rfl,u.out.trans (a0.mono u.out.size)⟩
end Go.Proofs.YtaeemilldmhbnaaGreatDoor.Fc
