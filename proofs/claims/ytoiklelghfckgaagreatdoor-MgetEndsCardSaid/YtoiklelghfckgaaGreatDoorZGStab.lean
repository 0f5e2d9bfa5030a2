/- A part of the claim: the texts StabZ. -/
import Derived.Test.YtoiklelghfckgaaGreatDoorZBase1
set_option linter.unusedVariables false
namespace Go.Proofs.YtoiklelghfckgaaGreatDoor.Rw
open Go Go.RowKit
def leftZ (md:Region.Mode) (ops:Array Oper) (listed:Array Bool) (is:List Nat) (z f:Nat):Bool:=
 (List.range ops.size).all (fun j=>listed.getD j true || is.contains j || j == z) && is.all (fun j=>decide (j < ops.size) && !listed.getD j true && j != z) && decide is.Nodup && decide (is.length+1=f) && decide (listed.size=ops.size) &&
 !listed.getD z true && decide (z < ops.size) && (match ops[z]? with | some oz=>is.all fun i=>oz.after.any fun e=>e.on == i && Region.binds md e | none=>false) && is.all (fun i=>match ops[i]? with | some oi=>oi.after.all fun e=>e.on != z | none=>false)
def allBut (n z:Nat):Array Bool:=(Array.replicate n true).setIfInBounds z false
theorem allBut_at {n z j:Nat} (G:j < n) (F:¬ z=j) (h:j < (allBut n z).size):(allBut n z)[j] = true:=by
 have u:(allBut n z)[j]? = some true:=by
  unfold allBut
  rw [Array.getElem?_setIfInBounds,if_neg F]
  simp [G]
 rw [Array.getElem?_eq_getElem h] at u
 injection u
section
variable {P:Program} {ops:Array Oper} {Q:Exit→Act→World→Prop} {md:Region.Mode} {S:World→Prop} {n:Nat}
theorem reg_stable_z (z:Nat) (u:List Nat) (R:World→World→Prop) (T:Nat→Value→World→Prop) {f:Nat} {G:Array Bool} {a:Act} {w:World}
  (hB:leftZ md ops G u z f=true) (hb:backB ops=true) (hA:apartB ops u=true) (hG:guardsB ops u=true) (hC:closedB md ops G=true)
  (au:u.all (fun i=>match dstOf ops i with | some d=>decide (d < a.tmps.size) | none=>true)=true)
  (hw:u.all (fun i=>match ops[i]? with | some o=>Region.wanted o (yielded ops a.tmps) | none=>true)=true)
  (ax:∀ w,R w w) (al:∀ w w' a3,R w w'→R w' a3→R w a3) (hT:∀ i v w w',T i v w→R w w'→T i v w') (hS:∀ w',R w w'→S w')
  (aL:Each (fun i=>∀ (a':Act) (w':World) (val:Nat→Value),R w w'→(∀ s,clearB ops u s=true→a'.tmps[s]?.getD undef=a.tmps[s]?.getD undef) →
   (∀ j,u.contains j=true→waitsF md ops ops.size i j=true→T j (val j) w' ∧ ∀ d,dstOf ops j=some d→a'.tmps[d]?.getD undef=val j) →
   ∃ o,ops[i]? = some o∧o.wp P a' w' (fun ak a3=>∃ v,ak=a'.put o.dst v∧T i v a3∧R w' a3) Q) u)
  (aC:∀ (val:Nat→Value) (w':World),Each (fun i=>T i (val i) w') u→R w w'→wpAnyT P md ops Q n S 1 (allBut ops.size z) (puts ops val u a) w') :
  wpAnyT P md ops Q n S f G a w:=by
 simp only [leftZ,Bool.and_eq_true,List.all_eq_true,Bool.or_eq_true,decide_eq_true_eq,bne_iff_ne,ne_eq,beq_iff_eq] at hB
 obtain ⟨⟨⟨⟨⟨⟨⟨⟨aw,a4⟩,aJ⟩,aH⟩,a7⟩,aP⟩,aS⟩,aj⟩,aR⟩:=hB
 have ar:ops[z]? = some ops[z]:=Array.getElem?_eq_getElem aS
 rw [ar] at aj
 simp only [List.all_eq_true] at aj
 have aQ:G.getD z true=false:=by simpa using aP
 have aA:∀ (j:Nat) (oj:Oper),ops[j]? = some oj → ∀ e∈oj.after,e.on < j:=by
  intro j oj F e he
  have I:=List.all_eq_true.1 hb j (List.mem_range.2 (Array.getElem?_eq_some_iff.1 F).1)
  simp only [F] at I
  simpa using Array.all_eq_true_iff_forall_mem.1 I e he
 suffices main:∀ (f:Nat) (L:List Nat) (G:Array Bool) (a':Act) (w':World) (val:Nat→Value),
   L.Nodup→L.length=f→G.size=ops.size→(∀ j,j∈L→j∈u)→(∀ j,j < ops.size→(G.getD j true=false↔j∈L∨j=z))→Closed md ops G →
   a'.tmps.size=a.tmps.size→a'.defers=a.defers→(∀ s,clearB ops u s=true→a'.tmps[s]? = a.tmps[s]?) →
   (∀ j,j∈u→j ∉ L→T j (val j) w' ∧ ∀ d,dstOf ops j=some d→a'.tmps[d]? = some (val j))→R w w'→wpAnyT P md ops Q n S (f+1) G a' w' by
  rw [← aH]
  refine main u.length u G a w (fun _=>undef) aJ rfl a7 (fun _ h=>h) (fun j F=>⟨fun h=>?_,fun h=>?_⟩) (closedB_spec hC) rfl rfl (fun _ _=>rfl) (fun j I h2=>absurd I h2) (ax w)
  ·rcases aw j (List.mem_range.2 F) with (I | I) | I
   ·rw [h] at I; cases I
   ·exact .inl (by simpa using I)
   ·exact .inr I
  ·rcases h with h | h
   ·have:=(a4 j h).1.2
    simpa using this
   ·subst h; exact aQ
 intro f
 induction f with
 | zero=>
  intro L G a' w' val ae a9 a7 a0 hL hC hs hd a6 hv a5
  obtain rfl:=List.eq_nil_of_length_eq_zero a9
  have aG:G=allBut ops.size z:=by
   apply Array.ext
   ·simp [allBut,a7]
   ·intro j I h2
    have F:j < ops.size:=by omega
    have W:=hL j F
    have h4:G.getD j true=G[j]:=by simp [I]
    rw [h4] at W
    by_cases e:j=z
    ·subst e
     have:G[j] = false:=W.2 (.inr rfl)
     rw [this]; simp [allBut]
    ·have h5:G[j] ≠ false:=fun h=>by
      rcases W.1 h with h | h
      ·cases h
      ·exact e h
     have h6:G[j] = true:=by simpa using h5
     have ez:¬ z=j:=fun h=>e h.symm
     rw [h6]; exact (allBut_at F ez h2).symm
  rw [aG]
  ·have e:a'=puts ops val u a:=by
    have e1:a'.tmps=(puts ops val u a).tmps:=by
     apply Array.ext_getElem?
     intro s
     by_cases Y:clearB ops u s=true
     ·rw [a6 s Y,puts_clear u a s Y]
     ·obtain ⟨i,hi,ag⟩:=not_clear Y
      have a8:s < a.tmps.size:=by
       have:=List.all_eq_true.1 au i hi
       rw [ag] at this
       simpa using this
      rw [(hv i hi (by simp)).2 s ag,puts_at u a i s hA hi ag a8]
    have e2:a'.defers=(puts ops val u a).defers:=by rw [hd,puts_defers]
    cases a'
    cases hp:puts ops val u a
    rw [hp] at e1 e2
    simp only at e1 e2
    rw [e1,e2]
   rw [e]
   exact aC val w' (Each.mk fun i hi=>(hv i hi (by simp)).1) a5
 | succ f ih=>
  intro L G a' w' val ae a9 a7 a0 hL hC hs hd a6 hv a5
  have aI:∀ j,j < ops.size→j ∉ L→j≠z→G.getD j false=true:=by
   intro j F hn aF
   have I:G.getD j true≠false:=fun e=>by
    rcases (hL j F).1 e with h | h
    ·exact hn h
    ·exact aF h
   have h2:j < G.size:=by omega
   simp [h2] at I ⊢
   exact I
  refine ⟨fun h0=>?_,fun i hi=>?_⟩
  ·exfalso
   have aK:∀ j,j∈L→False:=by
    intro j
    induction j using Nat.strongRecOn with
    | _ j ihj=>
     intro F
     have ad:j < ops.size:=by
      have:=(a4 j (a0 j F)).1.1
      exact this
     have ai:ops[j]? = some ops[j]:=Array.getElem?_eq_getElem ad
     have:j∈Region.ready md ops G:=by
      refine mem_ready.2 ⟨(hL j ad).2 (.inl F),ops[j],ai,fun e he aT=>?_⟩
      have a8:=aA j _ ai e he
      have aD:e.on≠z:=by
       have h7:=aR j (a0 j F)
       rw [ai] at h7
       have h8:=Array.all_eq_true_iff_forall_mem.1 h7 e he
       simpa using h8
      exact aI e.on (by omega) (fun hm=>ihj e.on a8 hm) aD
     rw [h0] at this
     cases this
   cases L with
   | nil=>simp at a9
   | cons x l=>exact aK x (by simp)
  ·obtain ⟨I,oi,J,an⟩:=mem_ready.1 hi
   have aE:i < ops.size:=(Array.getElem?_eq_some_iff.1 J).1
   have ao:i∈L:=by
    rcases (hL i aE).1 I with h | h
    ·exact h
    ·exfalso
     subst h
     cases L with
     | nil=>simp at a9
     | cons x l=>
      have hx:=aj x (a0 x (by simp))
      rw [Array.any_eq_true] at hx
      obtain ⟨k,hk,hx⟩:=hx
      simp only [Bool.and_eq_true,beq_iff_eq] at hx
      rw [ar] at J
      injection J with J
      have h9:=an (oi.after[k]'(by rw [← J]; exact hk)) (Array.getElem_mem _) (by subst J; exact hx.2)
      subst J
      rw [hx.1] at h9
      have av:=(hL x (a4 x (a0 x (by simp))).1.1).2 (.inl (by simp))
      rw [unlisted av] at h9
      cases h9
   have a2:=a0 i ao
   have aN:Region.wanted oi (yielded ops a'.tmps)=true:=by
    have h2:=List.all_eq_true.1 hw i a2
    simp only [J] at h2
    rw [← h2]
    refine wanted_same ?_
    have W:=List.all_eq_true.1 hG i a2
    simp only [J] at W
    cases hg:oi.guard with
    | none=>trivial
    | some g=>
     obtain ⟨g,q⟩:=g
     rw [hg] at W
     simp only at W ⊢
     cases hdg:dstOf ops g with
     | none=>trivial
     | some d=>
      rw [hdg] at W
      exact a6 d W
   obtain ⟨o,ho,aM⟩:=(Each.of aL) i a2 a' w' val a5 (fun s Y=>by rw [a6 s Y]) (fun j F aO=>by
    have ah:j∈u:=by simpa using F
    have hl:=waitsF_listed hC _ i oi J an aO
    have ac:j ∉ L:=by
     intro hm
     have ad:j < ops.size:=(a4 j ah).1.1
     have:=(hL j ad).2 (.inl hm)
     rw [unlisted this] at hl
     cases hl
    refine ⟨(hv j ah ac).1,fun d aB=>?_⟩
    rw [(hv j ah ac).2 d aB]
    rfl)
   rw [J] at ho
   injection ho with ho
   subst ho
   unfold wpOp
   simp only [J,aN,if_true]
   refine .inl (Oper.wp_mono ?_ aM)
   rintro ak a3 ⟨v,rfl,ay,af⟩
   have aa:dstOf ops i=oi.dst:=by simp [dstOf,J]
   refine ⟨fun _=>hS _ (al _ _ _ a5 af),ih (L.erase i) _ _ _ (fun j=>if j=i then v else val j) (ae.erase i) (by rw [List.length_erase_of_mem ao]; omega) (by simpa using a7) (fun j F=>a0 j (List.mem_of_mem_erase F)) ?_ (hC.set hi) (by rw [put_size]; exact hs) (by rw [put_defers]; exact hd) ?_ ?_ (al _ _ _ a5 af)⟩
   ·intro j F
    by_cases e:j=i
    ·subst e
     constructor
     ·intro h
      have a8:j < G.size:=by omega
      simp [a8] at h
     ·rintro (h | h)
      ·exact absurd h (List.Nodup.not_mem_erase ae)
      ·exact absurd h (a4 j a2).2
    ·rw [getD_set_ne true (Ne.symm e),hL j F,List.mem_erase_of_ne e]
   ·intro s Y
    rw [← a6 s Y]
    refine put_at_ne _ _ _ _ ?_
    have:=List.all_eq_true.1 Y i a2
    rw [aa] at this
    simpa using this
   ·intro j F ac
    by_cases e:j=i
    ·subst e
     simp only [if_true]
     refine ⟨ay,fun d a1=>?_⟩
     rw [aa] at a1
     rw [a1]
     refine put_at_eq _ _ _ ?_
     have:=List.all_eq_true.1 au j F
     rw [aa,a1] at this
     rw [hs]
     simpa using this
    ·simp only [e,if_false]
     have aq:j ∉ L:=fun hm=>ac ((List.mem_erase_of_ne e).2 hm)
     refine ⟨hT _ _ _ _ (hv j F aq).1 af,fun d a1=>?_⟩
     rw [← (hv j F aq).2 d a1]
     refine put_at_ne _ _ _ _ ?_
     intro e2
     -- two of 'is' that write one slot
     have az:∀ (u:List Nat),apartB ops u=true→i∈u→j∈u→dstOf ops i=some d→dstOf ops j=some d→i=j:=by
      intro u
      induction u with
      | nil=>intro _ h; cases h
      | cons x l ihl=>
       intro hA I h2 d1 d2
       simp only [apartB,Bool.and_eq_true] at hA
       have Y:∀ k,k∈l→dstOf ops x=some d→dstOf ops k≠some d:=by
        intro k hk hx
        have W:=hA.1
        rw [hx] at W
        have:=List.all_eq_true.1 W k hk
        simpa using this
       rcases List.mem_cons.1 I with q1 | q1 <;> rcases List.mem_cons.1 h2 with q2 | q2
       ·rw [q1,q2]
       ·exact absurd d2 (Y j q2 (q1 ▸ d1))
       ·exact absurd d1 (Y i q1 (q2 ▸ d2))
       ·exact ihl hA.2 q1 q2 d1 d2
     exact e (az u hA a2 F (by rw [aa]; exact e2) a1).symm
end
end Go.Proofs.YtoiklelghfckgaaGreatDoor.Rw
