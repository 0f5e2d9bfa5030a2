/- A part of the claim: the texts SnapFresh Base4. -/
import Derived.Test.YtoiklelghfckgaaGreatDoorZBase1
import Derived.Test.YtoiklelghfckgaaGreatDoorZBase2
import Derived.Test.YtoiklelghfckgaaGreatDoorProg
import Derived.Test.YtoiklelghfckgaaGreatDoorZBase3
import Derived.StillTailTactics
import GoSem.PinnedTables
import GoSem.Claim
import GoSem.ClaimJoined
import GoSem.ClaimMapViews
import Derived.JoinedTies
import Derived.Shelf.SlMaps.Clone
set_option maxRecDepth 100000
set_option maxHeartbeats 8000000
set_option linter.unusedVariables false
namespace Go.Proofs.YtoiklelghfckgaaGreatDoor.Sn
open Go.ChangeShapes Go.WideShapes Go.ChangeAt Go.RowKit Rw Sl
def Fresh (w:World) (v u:Value):Prop:=u=v ∨ ∃ A n c,u=.agg #[.slice A n c] ∧ ∀ b o,A=some ⟨b,o,none⟩→w.heap.size≤b
theorem own_fresh {w w':World} {v:Value} {base n c:Nat} {e:TypeId} {A:Option Addr} {xs:List Value} (h:w'.ownsRow base e 1 (.slice A n c) n xs) (u:w.heap.size≤base):Fresh w v (.agg #[.slice A n c]):=
 .inr ⟨A,n,c,rfl,fun b o e=>by subst e; exact Nat.le_trans u (h.lt b rfl).1⟩
theorem with2_any (v:Value) (xs:List Int) (x:Int) (w:World) (h:Snap w w.heap.size v xs) (hl:xs.length * 8+8≤140737488355328) (hx:0≤x∧x≤18446744073709551615) :
  Calls Tryz.prog 182 #[v,.int .u64 x] w fun e w'=>∃ u,e=.returned u∧Snap w' w'.heap.size u (sWith xs x)∧Below w.heap.size w w'∧Fresh w v u:=by
 have h':=h
 obtain ⟨⟨A,n,c,rfl,r⟩,a3,hok⟩:=h
 obtain rfl:=r.len
 have R:=Lh r
 have G:=Lh h'
 have HD:=Lh a3
 have HO:=Lh hok
 clear r h' a3 hok
 obtain ⟨i0,hi,ae,af,ag⟩:=info_parts info_u64
 by_cases hm:x∈xs
 ·have ac:0≤sIdx xs x:=by have:=sIdx_neg xs x; have:=mt this.1 (by simpa using hm); omega
  have F:sWith xs x=xs:=by simp [sWith,hm]
  rw [F]
  have HM:=Lh hm
  clear hm F
  go_enter Tryz.func182,Tryz.ntmps182
  go_wp2_with fail
  refine (idx_any _ xs x _ (G.out.later (((Below.refl _ _).alloc (Nat.le_refl _) _).alloc (by simp) _))).mono ?_
  rintro e w' ⟨rfl,z⟩
  have c0:w'.cell? ⟨w.heap.size,0,none⟩=some (.slice A xs.length c):=(z.cell (p:=⟨w.heap.size,0,none⟩) (by simp; omega)).trans (by go_simp)
  have c1:w'.cell? ⟨w.heap.size+1,0,none⟩=some (.slice none 0 0):=(z.cell (p:=⟨w.heap.size+1,0,none⟩) (by simp)).trans (by go_simp)
  have f1:w'.frozen? ⟨w.heap.size+1,0,none⟩=false:=(z.frozen (p:=⟨w.heap.size+1,0,none⟩) (by simp)).trans (by go_simp)
  go_wp2_with fail
  have a2:Below w.heap.size w (w'.setCell ⟨w.heap.size+1,0,none⟩ (.slice A xs.length c)):=((((Below.refl _ _).alloc (Nat.le_refl _) _).alloc (by simp) _).trans (z.mono (by simp; omega))).setCell (p:=⟨w.heap.size+1,0,none⟩) (by simp) _
  exact bodyPost_ret (v:=.agg #[.slice A xs.length c]) (by simp [results,Tryz.results182,go_sem,c1]) rfl ⟨_,rfl,G.out.later a2,a2,.inl rfl⟩
 ·have ac:sIdx xs x < 0:=(sIdx_neg xs x).2 hm
  have F:sWith xs x=xs ++ [x]:=by simp [sWith,hm]
  have W:=nodup_sWith HD.out x
  have Y:=HO.out.with_ hx.1 hx.2
  rw [F] at W Y ⊢
  have a8:=Lh W
  have a9:=Lh Y
  clear hm F W Y
  go_enter Tryz.func182,Tryz.ntmps182
  go_wp2_with fail
  refine (idx_any _ xs x _ (G.out.later (((Below.refl _ _).alloc (Nat.le_refl _) _).alloc (by simp) _))).mono ?_
  rintro e w' ⟨rfl,z⟩
  have c0:w'.cell? ⟨w.heap.size,0,none⟩=some (.slice A xs.length c):=(z.cell (p:=⟨w.heap.size,0,none⟩) (by simp; omega)).trans (by go_simp)
  have c1:w'.cell? ⟨w.heap.size+1,0,none⟩=some (.slice none 0 0):=(z.cell (p:=⟨w.heap.size+1,0,none⟩) (by simp)).trans (by go_simp)
  have f1:w'.frozen? ⟨w.heap.size+1,0,none⟩=false:=(z.frozen (p:=⟨w.heap.size+1,0,none⟩) (by simp)).trans (by go_simp)
  have a1:Below w.heap.size w w':=(((Below.refl _ _).alloc (Nat.le_refl _) _).alloc (by simp) _).trans (z.mono (by simp; omega))
  have ai:w.heap.size+2≤w'.heap.size:=by have:=z.size; simpa using this
  clear z
  go_wp2_with fail
  refine (all_any _ xs _ (G.out.later a1) (by omega)).mono ?_
  rintro e w2 ⟨u,uc,rfl,a5,I⟩
  have c2:w2.cell? ⟨w.heap.size+1,0,none⟩=some (.slice none 0 0):=(I.cell (p:=⟨w.heap.size+1,0,none⟩) (by show w.heap.size+1 < _; omega)).trans c1
  have f2:w2.frozen? ⟨w.heap.size+1,0,none⟩=false:=(I.frozen (p:=⟨w.heap.size+1,0,none⟩) (by show w.heap.size+1 < _; omega)).trans f1
  have aj:=I.size
  clear c0 c1 f1
  have Q:∀ g,(Value.slice u xs.length uc).ownBlock=some g→w'.heap.size≤g:=fun g hg=>(a5.lt g hg).1
  have a4:some (w.heap.size+1)≠(Value.slice u xs.length uc).ownBlock:=fun e=>by have:=Q _ e.symm; omega
  have H3:=Lh Q
  have a0:=Lh a4
  clear Q a4
  go_wp2_with (at_builtin; refine append_rd _ rfl _ _ 30 rfl w'.heap.size 25 i0 (.int .u64 0) 8 Tryz.underlying30 hi ae af ag rfl _ xs.length _ rfl (a5.alloc _) _ _ 1 1 [x] rfl (rd_one (enc:=Value.int .u64) w2 x _) one_u64 (xs.length+1) rfl ((xs ++ [x]).map (Value.int .u64)) List.map_append.symm (by unfold maxLen; omega) (by omega) (by simp; omega) ?_; intro v3 a7 w3 ad J ah; have c3:=J.cell (alloc_cell c2 _) a0.out; have f3:=grown_frozen J (alloc_frozen f2 (by show w.heap.size+1 < _; omega) _) (by show w.heap.size+1 < _; simp; omega) a0.out)
  have aa:Below w.heap.size w w3:=((a1.trans (I.mono (by omega))).alloc (by omega) _).grown J (by simp; omega) (fun k hk=>by have:=H3.out k hk; omega)
  go_wp2_with fail
  have a6:=ownsRow_setCell_below ad (a:=⟨w.heap.size+1,0,none⟩) (by show w.heap.size+1 < _; omega) (.slice v3 (xs.length+1) a7)
  exact bodyPost_ret (v:=.agg #[.slice v3 (xs.length+1) a7]) (by simp [results,Tryz.results182,go_sem,c3]) rfl ⟨_,rfl,⟨⟨_,_,_,rfl,Rd.own_rd a6⟩,a8.out,a9.out⟩,aa.setCell (p:=⟨w.heap.size+1,0,none⟩) (by simp) _,own_fresh a6 (by first | omega | (simp; omega))⟩
theorem without2_any (v:Value) (xs:List Int) (x:Int) (w:World) (h:Snap w w.heap.size v xs) (hl:xs.length * 8≤140737488355328) :
  Calls Tryz.prog 252 #[v,.int .u64 x] w fun e w'=>∃ u,e=.returned u∧Snap w' w'.heap.size u (sWithout xs x)∧Below w.heap.size w w'∧Fresh w v u:=by
 have Y:=h
 obtain ⟨⟨A,n,c,rfl,r⟩,a4,hok⟩:=h
 obtain rfl:=r.len
 have ah:=r.cap
 have an:=r.top
 have R:=Lh r
 have G:=Lh Y
 have Q:=Lh a4
 have HO:=Lh hok
 clear r Y a4 hok
 by_cases hm:x∈xs
 ·obtain ⟨k,hk,aa,a3⟩:=sIdx_get hm
  obtain ⟨b,o,y,rfl,z,-,-⟩:=R.out.get aa
  have HE:=Lh (sWithout_cut Q.out a3)
  clear hm a3
  have HK:=Lh hk
  clear hk
  have J:b < w.heap.size:=z
  go_enter Tryz.func252,Tryz.ntmps252
  go_wp2_with fail
  refine (idx_any _ xs x _ (G.out.later (((Below.refl _ _).alloc (Nat.le_refl _) _).alloc (by simp) _))).mono ?_
  rintro e w' ⟨rfl,z⟩
  rw [HK.out]
  have c0:w'.cell? ⟨w.heap.size,0,none⟩=some (.slice (some ⟨b,o,none⟩) xs.length c):=(z.cell (p:=⟨w.heap.size,0,none⟩) (by simp; omega)).trans (by go_simp)
  have c1:w'.cell? ⟨w.heap.size+1,0,none⟩=some (.slice none 0 0):=(z.cell (p:=⟨w.heap.size+1,0,none⟩) (by simp)).trans (by go_simp)
  have f1:w'.frozen? ⟨w.heap.size+1,0,none⟩=false:=(z.frozen (p:=⟨w.heap.size+1,0,none⟩) (by simp)).trans (by go_simp)
  have a2:Below w.heap.size w w':=(((Below.refl _ _).alloc (Nat.le_refl _) _).alloc (by simp) _).trans (z.mono (by simp; omega))
  have a7:w.heap.size+2≤w'.heap.size:=by have:=z.size; simpa using this
  clear z
  go_wp2_with fail
  have aj:k≤c:=by omega
  have ai:k+1≤xs.length:=by omega
  have ad:IntKind.i64.wrap ((k:Int)+1)=(k:Int)+1:=IntWalk.i64_in _ (by omega)
  have ae:0≤(k:Int)+1:=by omega
  have af:((k:Int)+1).toNat=k+1:=by omega
  have ag:(k:Int)+1≤(xs.length:Int):=by omega
  go_still_tail 9,(by kernel_rfl)
  change wpList _ _ _ _ _ w'.drew
  have I:Below w.heap.size w w'.drew:=a2.drew
  have d1:w'.drew.cell? ⟨w.heap.size+1,0,none⟩=some (.slice none 0 0):=c1
  have g1:w'.drew.frozen? ⟨w.heap.size+1,0,none⟩=false:=f1
  have al:w.heap.size+2≤w'.drew.heap.size:=a7
  clear c0 c1 f1 a2 a7 ad ae af ag
  generalize w'.drew=w2 at *
  obtain ⟨A2,a0,a1⟩:∃ A2,(if c=k+1 then some (⟨b,o,none⟩:Addr) else some ⟨b,o+(k+1),none⟩)=A2∧(k+1 < xs.length→A2=some ⟨b,o+(k+1),none⟩):=⟨_,rfl,fun h=>by rw [if_neg (by omega)]⟩
  rw [a0]
  have a9:=Lh a1
  clear a0 a1
  go_wp2_with fail
  refine (concat_two _ _ A2 k c (xs.length - (k+1)) (c - (k+1)) w.heap.size w.heap.size (xs.take k) (xs.drop (k+1)) _ (by go_simp) (by go_simp) (((R.out.below I).front (by omega)).alloc (by omega) _) (((R.out.below I).back (by omega) rfl a9.out).alloc (by omega) _) (by simp; omega) (by simp; omega) (by simp) (by omega)).mono ?_
  rintro e w3 ⟨v3,a8,rfl,a5,F⟩
  have ac:=F.size
  simp at ac
  have c3:w3.cell? ⟨w.heap.size+1,0,none⟩=some (.slice none 0 0):=(F.cell (p:=⟨w.heap.size+1,0,none⟩) (by simp; omega)).trans (alloc_cell d1 _)
  have f3:w3.frozen? ⟨w.heap.size+1,0,none⟩=false:=(F.frozen (p:=⟨w.heap.size+1,0,none⟩) (by simp; omega)).trans (alloc_frozen g1 (by show w.heap.size+1 < _; omega) _)
  rw [HE.out] at a5
  go_wp2_with fail
  have a6:=ownsRow_setCell_below a5 (a:=⟨w.heap.size+1,0,none⟩) (by show w.heap.size+1 < _; simp; omega) (.slice v3 (k+(xs.length - (k+1))) a8)
  exact bodyPost_ret (v:=.agg #[.slice v3 (k+(xs.length - (k+1))) a8]) (by simp [results,Tryz.results252,go_sem,c3]) rfl ⟨_,rfl,⟨⟨_,_,_,rfl,Rd.own_rd a6⟩,nodup_sWithout Q.out x,HO.out.without x⟩,
   ((I.alloc (by omega) _).trans (F.mono (by simp; omega))).setCell (p:=⟨w.heap.size+1,0,none⟩) (by simp) _,own_fresh a6 (by first | omega | (simp; omega))⟩
 ·have ak:sIdx xs x < 0:=(sIdx_neg xs x).2 hm
  have W:sWithout xs x=xs:=sWithout_none hm
  rw [W]
  clear hm W
  go_enter Tryz.func252,Tryz.ntmps252
  go_wp2_with fail
  refine (idx_any _ xs x _ (G.out.later (((Below.refl _ _).alloc (Nat.le_refl _) _).alloc (by simp) _))).mono ?_
  rintro e w' ⟨rfl,z⟩
  have c0:w'.cell? ⟨w.heap.size,0,none⟩=some (.slice A xs.length c):=(z.cell (p:=⟨w.heap.size,0,none⟩) (by simp; omega)).trans (by go_simp)
  have c1:w'.cell? ⟨w.heap.size+1,0,none⟩=some (.slice none 0 0):=(z.cell (p:=⟨w.heap.size+1,0,none⟩) (by simp)).trans (by go_simp)
  have f1:w'.frozen? ⟨w.heap.size+1,0,none⟩=false:=(z.frozen (p:=⟨w.heap.size+1,0,none⟩) (by simp)).trans (by go_simp)
  go_wp2_with fail
  have J:Below w.heap.size w (w'.setCell ⟨w.heap.size+1,0,none⟩ (.slice A xs.length c)):=((((Below.refl _ _).alloc (Nat.le_refl _) _).alloc (by simp) _).trans (z.mono (by simp; omega))).setCell (p:=⟨w.heap.size+1,0,none⟩) (by simp) _
  exact bodyPost_ret (v:=.agg #[.slice A xs.length c]) (by simp [results,Tryz.results252,go_sem,c1]) rfl ⟨_,rfl,G.out.later J,J,.inl rfl⟩
end Go.Proofs.YtoiklelghfckgaaGreatDoor.Sn
namespace Go.Proofs.YtoiklelghfckgaaGreatDoor.Wl
open Go.ChangeShapes Go.WideShapes Go.ChangeAt Go.RowKit Go.Maps Rw Sl Sn Ck
theorem setD_has (F:List Int) (x:Int):Maps.has (Mp.setD .u64 F) (.int .u64 x)=decide (x∈F):=by
 unfold Mp.setD
 rw [Maps.has_setOf _ _ _ (fun y u=>by obtain ⟨z,_,rfl⟩:=List.mem_map.1 u; trivial),List.any_map,Bool.eq_iff_iff,List.any_eq_true,decide_eq_true_eq]
 constructor
 ·rintro ⟨y,u,h⟩
  have:y=x:=by simpa [Lit.sameKey] using h
  exact this ▸ u
 ·intro h
  exact ⟨x,h,by simp [Lit.sameKey]⟩
theorem setD_tidy (h:List Int):Maps.Tidy (Mp.setD .u64 h):=by
 unfold Mp.setD
 exact Maps.tidy_setOf _ _ (fun y u=>by obtain ⟨z,_,rfl⟩:=List.mem_map.1 u; trivial)
theorem setD_size:∀ (u:List Int),u.Nodup→Maps.size (Mp.setD .u64 u)=u.length:=by
 intro u
 induction h:u.length generalizing u with
 | zero=>
  intro _
  obtain rfl:=List.eq_nil_of_length_eq_zero h
  rfl
 | succ n ih=>
  intro hn
  obtain ⟨l,y,rfl⟩:∃ l y,u=l ++ [y]:=⟨u.dropLast,u.getLast (by intro e; simp [e] at h),(List.dropLast_concat_getLast _).symm⟩
  rw [List.nodup_append] at hn
  have z:l.length=n:=by simpa using h
  have G:y ∉ l:=fun F=>hn.2.2 y F y (by simp) rfl
  rw [Mp.setD_snoc,Maps.size_put (setD_tidy l),setD_has,decide_eq_false G,ih l z hn.1]
  simp
theorem set_run_gen {P:Program} (w:World) (t k e:TypeId) (q:IntKind) (hk:P.underlying k=some (.int q)) (G:P.underlying t=some (.map k e)) (u:P.underlying e=some .bool) (J:(zeroValue e).run P w=.ok (.bool false) w) (b n:Nat) (h:List Int)
  (z:w.ownsMap P k (plainElem P e) b n (Mp.setD q h)) (y:Int) (hw:(Lit.int q y).wf=true) :
  (Instr.lookup t (.map (some b)) (.int q y) false).run P w=.ok (.bool (decide (y∈h))) w:=by
 obtain ⟨v,ps,F,hv⟩:=z.lookup (int_keyed hk) G J (plainElem_bool u false) (keyOf_int_mk hk hw)
 rw [Mp.setD_at] at hv
 have I:v=.bool (decide (y∈h)):=by
  unfold plainElem at hv
  rw [u] at hv
  cases v <;> simp at hv
  rw [hv.1]
 subst I
 exact F
theorem set_run {w:World} {b n:Nat} {h:List Int} {y:Int} (z:0≤y∧y≤18446744073709551615) (u:w.ownsMap Tryz.prog 25 (plainElem Tryz.prog 4) b n (Mp.setD .u64 h)) :
  (Instr.lookup 126 (.map (some b)) (.int .u64 y) false).run Tryz.prog w=.ok (.bool (decide (y∈h))) w:=
 set_run_gen w _ _ _ .u64 Tryz.underlying25 Tryz.underlying126 Tryz.underlying4 (Sn.zero_bool w) b n h u y (wf64 z)
end Go.Proofs.YtoiklelghfckgaaGreatDoor.Wl
namespace Go.Proofs.YtoiklelghfckgaaGreatDoor.Sf
open Go.ChangeShapes Go.WideShapes Go.ChangeAt Go.RowKit Rw Go.Shelf
end Go.Proofs.YtoiklelghfckgaaGreatDoor.Sf
namespace Go.Proofs.YtoiklelghfckgaaGreatDoor.Fc
open Go.ChangeShapes Go.WideShapes Go.ChangeAt Go.RowKit Go.Maps Rw
theorem info_bool:(Tryz.prog.info? 4).map (fun i=>(i.zero,i.size,i.bytes))=some (some (.bool false),1,1):=by kernel_rfl
theorem one_bool (y:Bool):(Value.bool y).oneCell'=true:=rfl
theorem bclone_any (A:Option Addr) (n c:Nat) (xs:List Bool) (B:Nat) (w:World) (h:Rd Value.bool w B A n c xs) (G:B≤w.heap.size) (a1:n * 1≤140737488355328) :
  Calls Tryz.prog 120 #[.slice A n c] w fun e w'=>∃ A' z,e=.returned (.slice A' n z)∧w'.ownsRow w.heap.size 4 1 (.slice A' n z) n (xs.map Value.bool)∧Below w.heap.size w w':=by
 have hn:n≤9223372036854775807:=by have:=h.cap; have:=h.top; omega
 obtain ⟨i0,hi,Q,W,Y⟩:=info_parts info_bool
 cases A with
 | none=>
  have u:n=0:=by
   rcases Nat.eq_zero_or_pos n with u | u
   ·exact u
   ·obtain ⟨b,o,e,_⟩:=h.at_ u
    cases e
  subst u
  obtain rfl:=List.eq_nil_of_length_eq_zero h.len
  clear h
  have hk:=@Lib.run_eql_slice_nil Tryz.prog
  go_enter Tryz.func120,Tryz.ntmps120
  go_wp2
  go_ret
  exact ⟨_,_,rfl,World.ownsRow_nil _ _ _ _,Below.refl _ _⟩
 | some a=>
  have F:=Lh h
  clear h
  have hk:=@Lib.run_eql_slice_nil Tryz.prog
  go_enter Tryz.func120,Tryz.ntmps120
  go_wp2_with (at_builtin; refine append_rd _ rfl _ _ 39 rfl w.heap.size 4 i0 (.bool false) 1 Tryz.underlying39 hi Q W Y rfl _ 0 [] rfl (World.ownsRow_lit _ #[] 0 (Nat.le_refl _) (by decide) rfl) B (some a) n c xs rfl (F.out.alloc G _) one_bool n (Nat.zero_add _) (xs.map Value.bool) rfl ?_ ?_ ?_ ?_)
  ·unfold maxLen; omega
  ·omega
  ·simp
  ·intro A' z w' J I a0
   go_wp2
   go_ret
   refine ⟨A',z,rfl,J,((Below.refl _ _).alloc (Nat.le_refl _) _).grown I (by simp) (fun k hk=>?_)⟩
   simp [Value.ownBlock] at hk
   omega
theorem sclone_any (A:Option Addr) (n c:Nat) (xs:List Bool) (B:Nat) (w:World) (h:Rd Value.bool w B A n c xs) (G:B≤w.heap.size) (a1:n * 1≤140737488355328) :
  Calls Tryz.prog 117 #[.slice A n c] w fun e w'=>∃ A' z,e=.returned (.slice A' n z)∧w'.ownsRow w.heap.size 4 1 (.slice A' n z) n (xs.map Value.bool)∧Below w.heap.size w w':=by
 have hn:n≤9223372036854775807:=by have:=h.cap; have:=h.top; omega
 obtain ⟨i0,hi,Q,W,Y⟩:=info_parts info_bool
 cases A with
 | none=>
  have u:n=0:=by
   rcases Nat.eq_zero_or_pos n with u | u
   ·exact u
   ·obtain ⟨b,o,e,_⟩:=h.at_ u
    cases e
  subst u
  obtain rfl:=List.eq_nil_of_length_eq_zero h.len
  clear h
  have hk:=@Lib.run_eql_slice_nil Tryz.prog
  go_enter Tryz.func117,Tryz.ntmps117
  go_wp2
  go_ret
  exact ⟨_,_,rfl,World.ownsRow_nil _ _ _ _,Below.refl _ _⟩
 | some a=>
  have F:=Lh h
  clear h
  have hk:=@Lib.run_eql_slice_nil Tryz.prog
  go_enter Tryz.func117,Tryz.ntmps117
  go_wp2_with (at_builtin; refine append_rd _ rfl _ _ 149 rfl w.heap.size 4 i0 (.bool false) 1 Tryz.underlying149 hi Q W Y rfl _ 0 [] rfl (World.ownsRow_lit _ #[] 0 (Nat.le_refl _) (by decide) rfl) B (some a) n c xs rfl (F.out.alloc G _) one_bool n (Nat.zero_add _) (xs.map Value.bool) rfl ?_ ?_ ?_ ?_)
  ·unfold maxLen; omega
  ·omega
  ·simp
  ·intro A' z w' J I a0
   go_wp2
   go_ret
   refine ⟨A',z,rfl,J,((Below.refl _ _).alloc (Nat.le_refl _) _).grown I (by simp) (fun k hk=>?_)⟩
   simp [Value.ownBlock] at hk
   omega
structure Scr (w:World) (b m:Nat) (A:Option Addr) (k c:Nat) (O:List Bool):Prop where
 rd:Rd Value.bool w m A k c O
 lo:0 < k → ∃ g o,A=some ⟨g,o,none⟩∧b≤g
theorem Scr.same {w w':World} {b m:Nat} {A:Option Addr} {k c:Nat} {O:List Bool} (h:Scr w b m A k c O) (hk:∀ g,b≤g→g < m→w'.heap[g]? = w.heap[g]?):Scr w' b m A k c O:=
 ⟨⟨h.rd.len,h.rd.cap,h.rd.top,fun hn=>by
  obtain ⟨g,o,e,z,hc⟩:=h.rd.at_ hn
  obtain ⟨G,I,u,F⟩:=h.lo hn
  rw [e] at u
  injection u with u
  injection u with e1 e2
  subst e1 e2
  refine ⟨g,o,e,z,fun j x hx=>?_⟩
  rw [← hc j x hx]
  unfold World.cell?
  simp only [hk g F z]⟩,h.lo⟩
theorem Scr.of_own {w:World} {b m:Nat} {A:Option Addr} {k c:Nat} {O:List Bool} (h:w.ownsRow b 4 1 (.slice A k c) k (O.map Value.bool)) (z:w.heap.size≤m):Scr w b m A k c O:=by
 refine ⟨(Rd.own_rd h).more z,fun hk=>?_⟩
 rcases h.2 with ⟨e,G⟩ | ⟨g,cap,F,e,u,_⟩
 ·omega
 ·injection e with e1 _ _
  exact ⟨g,0,e1,u⟩
structure Fa (w:World) (b m p:Nat) (O P:List Bool) (n:Nat) (C:List Int):Prop where
 opens:∃ A k c,w.cell? ⟨p,0,none⟩=some (.slice A k c)∧Scr w b m A k c O
 proofs:∃ A k c,w.cell? ⟨p,1,none⟩=some (.slice A k c)∧Scr w b m A k c P
 many:w.cell? ⟨p,2,none⟩=some (.int .u64 n)
 map:w.cell? ⟨p,3,none⟩=some (.map (some m))
 own:w.ownsMap Tryz.prog 25 (plainElem Tryz.prog 4) m C.length (Mp.setD .u64 C)
 free:∀ o,w.frozen? ⟨p,o,none⟩=false
 lo:b≤m
 lt:m < p
 nd:C.Nodup
 mem:∀ x∈C,1≤x∧x≤n
theorem Fa.in_ {w:World} {b m p n:Nat} {O P:List Bool} {C:List Int} (h:Fa w b m p O P n C):p < w.heap.size:=Lw.lt_heap h.many
theorem Fa.same {w w':World} {b m p n:Nat} {O P:List Bool} {C:List Int} (h:Fa w b m p O P n C) (hk:∀ g,b≤g→g≤p→w'.heap[g]? = w.heap[g]?):Fa w' b m p O P n C:=by
 have a0:=h.lo
 have a1:=h.lt
 have z:=hk p (by omega) (Nat.le_refl _)
 have hc:∀ o,w'.cell? ⟨p,o,none⟩=w.cell? ⟨p,o,none⟩:=fun o=>by unfold World.cell?; simp only [z]
 have hf:∀ o,w'.frozen? ⟨p,o,none⟩=w.frozen? ⟨p,o,none⟩:=fun o=>by unfold World.frozen?; simp only [z]
 obtain ⟨A,k,c,I,Q⟩:=h.opens
 obtain ⟨A',k',F,J,W⟩:=h.proofs
 obtain ⟨es,G,Y,hr⟩:=h.own
 exact ⟨⟨A,k,c,(hc 0).trans I,Q.same fun g u q2=>hk g u (by omega)⟩,⟨A',k',F,(hc 1).trans J,W.same fun g u q2=>hk g u (by omega)⟩,(hc 2).trans h.many,(hc 3).trans h.map,⟨es,G,(hk m h.lo (by omega)).trans Y,hr⟩,fun o=>(hf o).trans (h.free o),h.lo,h.lt,h.nd,h.mem⟩
theorem Fa.later {w w':World} {b m p n:Nat} {O P:List Bool} {C:List Int} (h:Fa w b m p O P n C) (u:Below w.heap.size w w'):Fa w' b m p O P n C:=
 h.same fun g _ z=>u.block g (by have:=h.in_; omega)
theorem next_nil (p i:Nat) (A:Option Addr) (c:Nat) (w:World) (h:w.cell? ⟨p,i,none⟩=some (.slice A 0 c)) :
  Calls Tryz.prog 128 #[.pointer (some ⟨p,i,none⟩)] w fun e w'=>e=.returned (.bool true)∧w=w':=by
 go_enter Tryz.func128,Tryz.ntmps128
 go_wp2_with fail
 go_ret
 exact ⟨rfl,rfl⟩
theorem next_cons (p i:Nat) (A:Option Addr) (k c b m:Nat) (x:Bool) (l:List Bool) (w:World) (h0:w.cell? ⟨p,i,none⟩=some (.slice A k c)) (hf:w.frozen? ⟨p,i,none⟩=false) (h:Scr w b m A k c (x :: l)) (hp:p < w.heap.size) :
  Calls Tryz.prog 128 #[.pointer (some ⟨p,i,none⟩)] w fun e w'=>e=.returned (.bool x) ∧ ∃ A' I F,Scr w b m A' I F l∧w.setCell ⟨p,i,none⟩ (.slice A' I F)=w':=by
 obtain ⟨u,G⟩:=h
 have hn:(x :: l).length=k:=u.len
 simp at hn
 have a2:=u.cap
 have a3:=u.top
 obtain ⟨g,o,y,rfl,hg,hx,Q⟩:=u.get (k:=0) (by omega)
 obtain rfl:x=y:=by simpa using hx
 obtain ⟨Y,o',e,J⟩:=G (by omega)
 injection e with e
 injection e with e1 e2
 subst e1 e2
 have hz:((k:Int) == 0)=false:=by simp; omega
 have a4:(k == 0)=false:=by simp; omega
 have z:=Lh u
 have a1:1≤k:=by omega
 simp only [Nat.add_zero] at Q
 have W:=Lh hn
 clear u G hx hn
 by_cases hc1:c=1
 ·subst hc1
  obtain rfl:k=1:=by omega
  go_enter Tryz.func128,Tryz.ntmps128
  go_wp2_with fail
  go_ret
  exact ⟨rfl,_,_,_,⟨z.out.back (i:=1) (A':=some ⟨g,o,none⟩) (by omega) rfl (by omega),fun hk=>(by omega)⟩,rfl⟩
 ·have a0:1 < c:=by omega
  go_enter Tryz.func128,Tryz.ntmps128
  go_wp2_with fail
  go_ret
  exact ⟨rfl,_,_,_,⟨z.out.back (i:=1) (A':=some ⟨g,o+1,none⟩) (by omega) rfl (fun _=>rfl),fun hk=>⟨g,o+1,rfl,J⟩⟩,rfl⟩
theorem grown_setCell (w:World) (a:Addr) (u:Value):w.grownBy (w.setCell a u) (some a.block):=
 ⟨rfl,rfl,rfl,by simp,fun k _ hk=>heap_setCell_other w a k u (fun e=>hk (by rw [e]))⟩
section
variable {w:World} {b m p n:Nat} {O P:List Bool} {C:List Int}
theorem setCell_ne (w:World) {p:Nat} (i o:Nat) (u:Value) (h:i≠o):(w.setCell ⟨p,i,none⟩ u).cell? ⟨p,o,none⟩=w.cell? ⟨p,o,none⟩:=
 World.cell?_setCell_other _ _ _ _ (fun e=>by injection e with _ e; exact h e)
theorem Scr.put {A:Option Addr} {k c:Nat} {l:List Bool} (h:Scr w b m A k c l) (F:m < p) (i:Nat) (u:Value):Scr (w.setCell ⟨p,i,none⟩ u) b m A k c l:=
 h.same fun g _ z=>heap_setCell_other w _ g _ (fun e=>by have:g=p:=e; omega)
theorem own_put {k:TypeId} {R:Value→Option (DataW Unit × List MemPlace)} {q:Nat} {D:DataW Unit} (h:w.ownsMap Tryz.prog k R m q D) (I:m < p) (i:Nat) (u:Value):(w.setCell ⟨p,i,none⟩ u).ownsMap Tryz.prog k R m q D:=by
 obtain ⟨es,z,F,G⟩:=h
 exact ⟨es,z,(heap_setCell_other w _ m _ (fun e=>by have:m=p:=e; omega)).trans F,G⟩
theorem Fa.put0 (h:Fa w b m p O P n C) {A:Option Addr} {k c:Nat} {l:List Bool} (I:Scr w b m A k c l) :
  Fa (w.setCell ⟨p,0,none⟩ (.slice A k c)) b m p l P n C∧Hi.Fr (some p) (some m) w (w.setCell ⟨p,0,none⟩ (.slice A k c)):=by
 obtain ⟨Q,k0,c0,F,-⟩:=h.opens
 obtain ⟨z,k1,c1,G,J⟩:=h.proofs
 have u:=h.lt
 exact ⟨⟨⟨A,k,c,World.cell?_setCell_same _ _ _ F,I.put u _ _⟩,⟨z,k1,c1,(setCell_ne w 0 1 _ (by omega)).trans G,J.put u _ _⟩,(setCell_ne w 0 2 _ (by omega)).trans h.many,(setCell_ne w 0 3 _ (by omega)).trans h.map,own_put h.own u _ _,fun o=>by simpa using h.free o,h.lo,u,h.nd,h.mem⟩,Hi.Fr.of_grown (grown_setCell _ _ _) (.inr (.inl rfl))⟩
theorem Fa.put1 (h:Fa w b m p O P n C) {A:Option Addr} {k c:Nat} {l:List Bool} (I:Scr w b m A k c l) :
  Fa (w.setCell ⟨p,1,none⟩ (.slice A k c)) b m p O l n C∧Hi.Fr (some p) (some m) w (w.setCell ⟨p,1,none⟩ (.slice A k c)):=by
 obtain ⟨z,k0,c0,F,J⟩:=h.opens
 obtain ⟨Q,k1,c1,G,W⟩:=h.proofs
 have u:=h.lt
 exact ⟨⟨⟨z,k0,c0,(setCell_ne w 1 0 _ (by omega)).trans F,J.put u _ _⟩,⟨A,k,c,World.cell?_setCell_same _ _ _ G,I.put u _ _⟩,(setCell_ne w 1 2 _ (by omega)).trans h.many,(setCell_ne w 1 3 _ (by omega)).trans h.map,own_put h.own u _ _,fun o=>by simpa using h.free o,h.lo,u,h.nd,h.mem⟩,Hi.Fr.of_grown (grown_setCell _ _ _) (.inr (.inl rfl))⟩
theorem Fa.put2 (h:Fa w b m p O P n C) :
  Fa (w.setCell ⟨p,2,none⟩ (.int .u64 ((n:Int)+1))) b m p O P (n+1) C∧Hi.Fr (some p) (some m) w (w.setCell ⟨p,2,none⟩ (.int .u64 ((n:Int)+1))):=by
 obtain ⟨z,k0,c0,G,J⟩:=h.opens
 obtain ⟨F,k1,c1,I,Q⟩:=h.proofs
 have u:=h.lt
 exact ⟨⟨⟨z,k0,c0,(setCell_ne w 2 0 _ (by omega)).trans G,J.put u _ _⟩,⟨F,k1,c1,(setCell_ne w 2 1 _ (by omega)).trans I,Q.put u _ _⟩,World.cell?_setCell_same _ _ _ h.many,(setCell_ne w 2 3 _ (by omega)).trans h.map,own_put h.own u _ _,fun o=>by simpa using h.free o,h.lo,u,h.nd,fun x hx=>by have:=h.mem x hx; omega⟩,Hi.Fr.of_grown (grown_setCell _ _ _) (.inr (.inl rfl))⟩
theorem Fa.shut (h:Fa w b m p O P n C) {w':World} {x:Int} {q:Nat} (u:w.grownBy w' (some m)) (ho:w'.ownsMap Tryz.prog 25 (plainElem Tryz.prog 4) m q (Mp.setD .u64 (C ++ [x]))) (hq:q=(C ++ [x]).length) (hx:x ∉ C) (W:1≤x∧x≤n) :
  Fa w' b m p O P n (C ++ [x])∧Hi.Fr (some p) (some m) w w':=by
 obtain ⟨I,k0,c0,Q,a1⟩:=h.opens
 obtain ⟨J,k1,c1,Y,a2⟩:=h.proofs
 have hm:=h.lt
 have a0:=h.in_
 have F:some p≠some m:=fun e=>by injection e; omega
 have G:∀ g,b≤g→g < m→w'.heap[g]? = w.heap[g]?:=fun g _ a3=>u.block g (by omega) (fun e=>by injection e; omega)
 subst hq
 refine ⟨⟨⟨I,k0,c0,u.cell Q F,a1.same G⟩,⟨J,k1,c1,u.cell Y F,a2.same G⟩,u.cell h.many F,u.cell h.map F,ho,fun o=>grown_frozen u (h.free o) a0 F,h.lo,hm,?_,?_⟩,Hi.Fr.of_grown u (.inr (.inr rfl))⟩
 ·rw [List.nodup_append]
  exact ⟨h.nd,by simp,fun a ha c hc=>by simp at hc; subst hc; intro e; subst e; exact hx ha⟩
 ·intro y z
  rcases List.mem_append.1 z with z | z
  ·exact h.mem y z
  ·simp at z; subst z; exact W
end
def nx:List Bool→Bool × List Bool
 | []=>(true,[])
 | x :: l=>(x,l)
def kn (n:Nat) (C:List Int) (id cl:Int):Int:=if id=0∨(n:Int) < id then 9 else if id∈C then cl else 0
abbrev ptr (p:Nat):Value:=.pointer (some ⟨p,0,none⟩)
theorem next0_any (p b m n:Nat) (O P:List Bool) (C:List Int) (w:World) (h:Fa w b m p O P n C) :
  Calls Tryz.prog 128 #[.pointer (some ⟨p,0,none⟩)] w fun e w'=>e=.returned (.bool (nx O).1)∧Fa w' b m p (nx O).2 P n C∧Hi.Fr (some p) (some m) w w':=by
 obtain ⟨A,k,c,F,I⟩:=h.opens
 cases O with
 | nil=>
  obtain rfl:0=k:=I.rd.len
  exact (next_nil p 0 A c w F).mono fun e w' ⟨z,u⟩=>⟨z,u ▸ h,u ▸ Hi.Fr.refl _ _ _⟩
 | cons x l=>
  exact (next_cons p 0 A k c b m x l w F (h.free 0) I h.in_).mono fun e w' ⟨z,A',Q,J,u,G⟩=>⟨z,G ▸ (h.put0 u).1,G ▸ (h.put0 u).2⟩
theorem open_any (p b m n:Nat) (O P:List Bool) (C:List Int) (w:World) (h:Fa w b m p O P n C) (hn:n < 18446744073709551615) :
  Calls Tryz.prog 71 #[ptr p] w fun e w'=>e=.returned (.tuple #[.int .u64 (if (nx O).1 then (n:Int)+1 else 0),.bool (nx O).1])∧Fa w' b m p (nx O).2 P (if (nx O).1 then n+1 else n) C∧Hi.Fr (some p) (some m) w w':=by
 have N:=next0_any p b m n O P C w h
 have F:=Lh N
 have hl:=h.in_
 clear N h
 generalize nx O=r at *
 obtain ⟨Y,l⟩:=r
 cases Y
 ·go_enter Tryz.func71,Tryz.ntmps71
  go_wp2_with fail
  refine F.out.mono ?_
  rintro e w1 ⟨rfl,u,z⟩
  go_wp2_with fail
  exact bodyPost_ret (v:=.tuple #[.int .u64 0,.bool false]) (by simp [results,Tryz.results71,go_sem]) rfl ⟨rfl,u,z⟩
 ·go_enter Tryz.func71,Tryz.ntmps71
  go_wp2_with fail
  refine F.out.mono ?_
  rintro e w1 ⟨rfl,u,z⟩
  have d2:=u.many
  have f2:=u.free 2
  have a0:=u.in_
  have G:=Lh u
  have I:=Lh z
  clear u z
  go_wp2_with fail
  obtain ⟨J,Q⟩:=G.out.put2
  have W:=I.out.then Q (fun k e _=>.inl e.symm) (fun k e _=>.inr e.symm)
  exact bodyPost_ret (v:=.tuple #[.int .u64 ((n:Int)+1),.bool true]) (by simp [results,Tryz.results71,go_sem]) rfl ⟨rfl,J,W⟩
theorem wrong_any (p b m n:Nat) (O P:List Bool) (C:List Int) (id cl:Int) (w:World) (h:Fa w b m p O P n C) (hid:0≤id∧id≤18446744073709551615) :
  Calls Tryz.prog 44 #[ptr p,.int .u64 id,.int .i64 cl] w fun e w'=>e=.returned (.int .i64 (kn n C id cl))∧w=w':=by
 have F:=h.many
 have G:=h.map
 have u:=Wl.set_run hid h.own
 by_cases h0:id=0
 ·subst h0
  have e:kn n C 0 cl=9:=by simp [kn]
  rw [e]
  clear h u
  go_enter Tryz.func44,Tryz.ntmps44
  go_wp2_with fail
  go_ret
  exact ⟨rfl,rfl⟩
 ·have q0:(id == 0)=false:=by simpa using h0
  by_cases h1:(n:Int) < id
  ·have z:decide ((n:Int) < id)=true:=decide_eq_true h1
   have e:kn n C id cl=9:=by simp [kn,h1]
   rw [e]
   clear h u
   go_enter Tryz.func44,Tryz.ntmps44
   go_wp2_with fail
   go_ret
   exact ⟨rfl,rfl⟩
  ·have z:decide ((n:Int) < id)=false:=decide_eq_false h1
   by_cases h2:id∈C
   ·have e:kn n C id cl=cl:=by simp [kn,h0,h1,h2]
    rw [e]
    rw [decide_eq_true h2] at u
    clear h e h2
    go_enter Tryz.func44,Tryz.ntmps44
    go_wp2_with fail
    go_ret
    exact ⟨rfl,rfl⟩
   ·have e:kn n C id cl=0:=by simp [kn,h0,h1,h2]
    rw [e]
    rw [decide_eq_false h2] at u
    clear h e h2
    go_enter Tryz.func44,Tryz.ntmps44
    go_wp2_with fail
    go_ret
    exact ⟨rfl,rfl⟩
theorem close_any (p b m n:Nat) (O P:List Bool) (C:List Int) (id:Int) (w:World) (h:Fa w b m p O P n C) (hid:0≤id∧id≤18446744073709551615) (hn:C.length < 1000) :
  Calls Tryz.prog 141 #[ptr p,.int .u64 id] w fun e w'=>e=.returned (.int .i64 (kn n C id 10))∧Fa w' b m p O P n (if kn n C id 10=0 then C ++ [id] else C)∧Hi.Fr (some p) (some m) w w':=by
 have W:=wrong_any p b m n O P C id 10 w h hid
 have hl:=h.in_
 have d3:=h.map
 have z:=Lh W
 have u:=Lh h
 have hw:(Lit.int .u64 id).wf=true:=Wl.wf64 hid
 clear W h
 by_cases hq:kn n C id 10=0
 ·rw [hq] at z ⊢
  simp only [if_true]
  have hx:id ∉ C∧1≤id∧id≤n:=by
   unfold kn at hq
   split at hq
   ·omega
   ·split at hq
    ·omega
    ·rename_i h1 Y; exact ⟨Y,by omega,by omega⟩
  have F:=Lh hx
  have J:=Lh u.out.own
  clear hx hq
  go_enter Tryz.func141,Tryz.ntmps141
  go_wp2_with fail
  refine z.out.mono ?_
  rintro e w1 ⟨rfl,rfl⟩
  go_wp2_with (refine Mp.update_set w rfl _ _ _ 126 rfl 25 4 .u64 Tryz.underlying25 Tryz.underlying126 Tryz.underlying4 m C.length C rfl J.out (by unfold maxLen; omega) id rfl rfl hw ?_)
  intro w2 I G
  have q:=u.out.shut G I (by simp) F.out.1 F.out.2
  have Q:=Lh q
  clear I G q
  go_wp2_with fail
  go_ret
  exact ⟨rfl,Q.out⟩
 ·rw [if_neg hq]
  generalize kn n C id 10=q at *
  have hb:(q != 0)=true:=by simpa using hq
  go_enter Tryz.func141,Tryz.ntmps141
  go_wp2_with fail
  refine z.out.mono ?_
  rintro e w1 ⟨rfl,rfl⟩
  go_wp2_with fail
  go_ret
  exact ⟨rfl,u.out,Hi.Fr.refl _ _ _⟩
theorem isopen_any (p b m n:Nat) (O P:List Bool) (C:List Int) (id:Int) (w:World) (h:Fa w b m p O P n C) (hid:0≤id∧id≤18446744073709551615) :
  Calls Tryz.prog 16 #[ptr p,.int .u64 id] w fun e w'=>e=.returned (.bool (kn n C id 6 == 0))∧w=w':=by
 have W:=wrong_any p b m n O P C id 6 w h hid
 have u:=Lh W
 clear W h
 generalize kn n C id 6=q at *
 go_enter Tryz.func16,Tryz.ntmps16
 go_wp2_with fail
 refine u.out.mono ?_
 rintro e z ⟨rfl,rfl⟩
 go_wp2_with fail
 go_ret
 exact ⟨rfl,rfl⟩
theorem closed_any (p b m n:Nat) (O P:List Bool) (C:List Int) (w:World) (h:Fa w b m p O P n C) (hn:C.length < 1000) :
  Calls Tryz.prog 28 #[ptr p] w fun e w'=>e=.returned (.int .u64 C.length)∧w=w':=by
 have F:=h.map
 have u:=Lh h.own
 have z:Hid (Maps.size (Mp.setD .u64 C)=C.length):=Lh (Wl.setD_size C h.nd)
 clear h
 have G:((C.length:Int))≤1000:=by omega
 go_enter Tryz.func28,Tryz.ntmps28
 go_wp2_with (at_len; refine wpList_len_own _ rfl _ 126 rfl 25 4 Tryz.underlying126 _ m C.length (Mp.setD .u64 C) rfl u.out ?_; rw [show Maps.size (Mp.setD .u64 C)=C.length from z.out])
 go_ret
 exact ⟨rfl,rfl⟩
def ids (C:List Int):Nat→List Int
 | 0=>[]
 | k+1=>if ((k:Int)+1)∈C then ids C k else ids C k ++ [(k:Int)+1]
theorem info_u64:(Tryz.prog.info? 25).map (fun i=>(i.zero,i.size,i.bytes))=some (some (.int .u64 0),1,8):=by kernel_rfl
theorem one_u64 (y:Int):(Value.int .u64 y).oneCell'=true:=rfl
theorem own_scr {w w':World} {b m:Nat} {A:Option Addr} {k c:Nat} {O:List Bool} (h:w.ownsRow b 4 1 (.slice A k c) k (O.map Value.bool)) (F:Below w.heap.size w w') (I:w.heap.size≤m):Scr w' b m A k c O:=by
 have z:=Scr.of_own (m:=w.heap.size) h (Nat.le_refl _)
 have u:=z.same (w':=w') fun g _ G=>F.block g G
 exact ⟨u.rd.more I,u.lo⟩
theorem new_any (A:Option Addr) (k c B:Nat) (O:List Bool) (A':Option Addr) (z I B':Nat) (P:List Bool) (w:World) (h:Rd Value.bool w B A k c O) (W:Rd Value.bool w B' A' z I P) (hB:B≤w.heap.size) (a7:B'≤w.heap.size) (hk:k≤1000) (a8:z≤1000) :
  Calls Tryz.prog 61 #[.slice A k c,.slice A' z I] w fun e w'=>∃ m p,e=.returned (ptr p)∧Fa w' w.heap.size m p O P 0 [] ∧ Below w.heap.size w w':=by
 have a9:=@run_makeMap Tryz.prog
 have HR:=Lh h
 have a5:=Lh W
 clear h W
 go_enter Tryz.func61,Tryz.ntmps61
 go_wp2_with fail
 refine (bclone_any A k c O B _ HR.out hB (by omega)).mono ?_
 rintro e w1 ⟨A1,c1,rfl,a0,J⟩
 have a2:Rd Value.bool w1 B' A' z I P:=a5.out.keep fun p hp=>J.cell (by omega)
 have a6:=Lh a2
 have a3:=Lh a0
 have F:=Lh J
 clear a0 J a2
 go_wp2_with fail
 refine (bclone_any A' z I P B' _ a6.out (by have:=F.out.size; omega) (by omega)).mono ?_
 rintro e u ⟨A2,c2,rfl,a1,Y⟩
 have a4:=Lh (own_mono a1 F.out.size)
 have G:=Lh Y
 clear a1 Y
 go_wp2_with fail
 go_ret
 have Q:=F.out.trans (G.out.mono F.out.size)
 have hs:=Q.size
 refine ⟨u.heap.size,u.heap.size+1,rfl,⟨⟨A1,k,c1,by go_simp,own_scr a3.out (G.out.trans ((((Below.refl u.heap.size u).alloc (Nat.le_refl _) _).alloc (by simp) _).mono G.out.size)) G.out.size⟩,⟨A2,z,c2,by go_simp,own_scr a4.out (((Below.refl u.heap.size u).alloc (Nat.le_refl _) _).alloc (by simp) _) (Nat.le_refl _)⟩,by go_simp,by go_simp,(World.ownsMap_made u _ _ _).alloc _,?_,hs,by omega,List.nodup_nil,fun x hx=>by cases hx⟩,Q.trans ((((Below.refl u.heap.size u).alloc (Nat.le_refl _) _).alloc (by simp) _).mono hs)⟩
 intro o
 simp
theorem awake10_any (w:World) (I:Tx.Tab w) :
  Calls Tryz.prog 347 #[] w fun e w'=>e=.returned (.bool true)∧Below w.heap.size w w':=by
 have Y:=Lh I
 clear I
 go_enter Tryz.func347,Tryz.ntmps347
 go_wp2_with fail
 refine (new_any _ 1 1 _ [false] none 0 0 0 [] _ (rd_one w false _) Rd.nil_ (by simp) (by omega) (by omega) (by omega)).mono ?_
 rintro e w1 ⟨m,p,rfl,h,J⟩
 have b1:Below w.heap.size w w1:=((Below.refl _ _).alloc (Nat.le_refl _) _).trans (J.mono (by simp))
 have a1:=h.lo
 have a2:=h.lt
 simp at a1
 clear J
 go_wp2_with fail
 refine (open_any p _ m 0 [false] [] [] _ h (by omega)).mono ?_
 rintro e w2 ⟨rfl,F,Q⟩
 have z:Below w.heap.size w w2:=b1.trans (Q.below b1.size (fun k hk=>by injection hk; omega) (fun k hk=>by injection hk; omega))
 clear h b1 Q
 simp only [nx] at F
 simp only [nx]
 go_wp2_with fail
 refine (open_any p _ m 0 [] [] [] _ F (by omega)).mono ?_
 rintro e w3 ⟨rfl,h3,W⟩
 have G:Below w.heap.size w w3:=z.trans (W.below z.size (fun k hk=>by injection hk; omega) (fun k hk=>by injection hk; omega))
 have u:=Lh G
 clear F h3 z G W
 simp only [nx]
 go_wp2_with fail
 refine (Hi.Awake9_any _ (Y.out.below u.out)).mono ?_
 rintro e w4 ⟨rfl,a0⟩
 go_wp2_with fail
 go_ret
 exact ⟨rfl,u.out.trans (a0.mono u.out.size)⟩
end Go.Proofs.YtoiklelghfckgaaGreatDoor.Fc
