/- A part of the claim: the texts StabZ. -/
import Derived.Test.YthmdiaingolfnaaGreatDoorZBase1
namespace Go.Proofs.YthmdiaingolfnaaGreatDoor.Rw
open Go Go.RowKit
set_option linter.unusedVariables false
def leftZ (md : Region.Mode) (ops : Array Oper) (listed : Array Bool) (is : List Nat) (z f : Nat) : Bool :=
  (List.range ops.size).all (fun j => listed.getD j true || is.contains j || j == z) && is.all (fun j => decide (j < ops.size) && !listed.getD j true && j != z) && decide is.Nodup && decide (is.length + 1 = f) && decide (listed.size = ops.size) &&
  !listed.getD z true && decide (z < ops.size) && (match ops[z]? with | some oz => is.all fun i => oz.after.any fun e => e.on == i && Region.binds md e | none => false) && is.all (fun i => match ops[i]? with | some oi => oi.after.all fun e => e.on != z | none => false)
def allBut (n z : Nat) : Array Bool := (Array.replicate n true).setIfInBounds z false
theorem allBut_at {n z j : Nat} (hj : j < n) (ez : ¬ z = j) (h : j < (allBut n z).size) : (allBut n z)[j] = true := by
  have h1 : (allBut n z)[j]? = some true := by
    unfold allBut
    rw [Array.getElem?_setIfInBounds, if_neg ez]
    simp [hj]
  rw [Array.getElem?_eq_getElem h] at h1
  injection h1
section
variable {P : Program} {ops : Array Oper} {Q : Exit → Act → World → Prop} {md : Region.Mode} {S : World → Prop} {n : Nat}
theorem reg_stable_z (z : Nat) (is : List Nat) (R : World → World → Prop) (T : Nat → Value → World → Prop) {f : Nat} {listed : Array Bool} {a : Act} {w : World}
    (hB : leftZ md ops listed is z f = true) (hb : backB ops = true) (hA : apartB ops is = true) (hG : guardsB ops is = true) (hC : closedB md ops listed = true)
    (hsz : is.all (fun i => match dstOf ops i with | some d => decide (d < a.tmps.size) | none => true) = true)
    (hw : is.all (fun i => match ops[i]? with | some o => Region.wanted o (yielded ops a.tmps) | none => true) = true)
    (hR0 : ∀ w, R w w) (hRt : ∀ w w' w'', R w w' → R w' w'' → R w w'') (hT : ∀ i v w w', T i v w → R w w' → T i v w') (hS : ∀ w', R w w' → S w')
    (hstep : Each (fun i => ∀ (a' : Act) (w' : World) (val : Nat → Value), R w w' → (∀ s, clearB ops is s = true → a'.tmps[s]?.getD undef = a.tmps[s]?.getD undef) →
      (∀ j, is.contains j = true → waitsF md ops ops.size i j = true → T j (val j) w' ∧ ∀ d, dstOf ops j = some d → a'.tmps[d]?.getD undef = val j) →
      ∃ o, ops[i]? = some o ∧ o.wp P a' w' (fun a'' w'' => ∃ v, a'' = a'.put o.dst v ∧ T i v w'' ∧ R w' w'') Q) is)
    (hend : ∀ (val : Nat → Value) (w' : World), Each (fun i => T i (val i) w') is → R w w' → wpAnyT P md ops Q n S 1 (allBut ops.size z) (puts ops val is a) w') :
    wpAnyT P md ops Q n S f listed a w := by
  simp only [leftZ, Bool.and_eq_true, List.all_eq_true, Bool.or_eq_true, decide_eq_true_eq, bne_iff_ne, ne_eq, beq_iff_eq] at hB
  obtain ⟨⟨⟨⟨⟨⟨⟨⟨hB1, hB2⟩, hnd⟩, hlen⟩, hls⟩, hz0⟩, hzs⟩, hzw⟩, hzn⟩ := hB
  have hoz : ops[z]? = some ops[z] := Array.getElem?_eq_getElem hzs
  rw [hoz] at hzw
  simp only [List.all_eq_true] at hzw
  have hz0' : listed.getD z true = false := by simpa using hz0
  have hback : ∀ (j : Nat) (oj : Oper), ops[j]? = some oj → ∀ e ∈ oj.after, e.on < j := by
    intro j oj hj e he
    have h1 := List.all_eq_true.1 hb j (List.mem_range.2 (Array.getElem?_eq_some_iff.1 hj).1)
    simp only [hj] at h1
    simpa using Array.all_eq_true_iff_forall_mem.1 h1 e he
  suffices main : ∀ (f : Nat) (L : List Nat) (listed : Array Bool) (a' : Act) (w' : World) (val : Nat → Value),
      L.Nodup → L.length = f → listed.size = ops.size → (∀ j, j ∈ L → j ∈ is) → (∀ j, j < ops.size → (listed.getD j true = false ↔ j ∈ L ∨ j = z)) → Closed md ops listed →
      a'.tmps.size = a.tmps.size → a'.defers = a.defers → (∀ s, clearB ops is s = true → a'.tmps[s]? = a.tmps[s]?) →
      (∀ j, j ∈ is → j ∉ L → T j (val j) w' ∧ ∀ d, dstOf ops j = some d → a'.tmps[d]? = some (val j)) → R w w' → wpAnyT P md ops Q n S (f + 1) listed a' w' by
    rw [← hlen]
    refine main is.length is listed a w (fun _ => undef) hnd rfl hls (fun _ h => h) (fun j hj => ⟨fun h => ?_, fun h => ?_⟩) (closedB_spec hC) rfl rfl (fun _ _ => rfl) (fun j h1 h2 => absurd h1 h2) (hR0 w)
    · rcases hB1 j (List.mem_range.2 hj) with (h1 | h1) | h1
      · rw [h] at h1; cases h1
      · exact .inl (by simpa using h1)
      · exact .inr h1
    · rcases h with h | h
      · have := (hB2 j h).1.2
        simpa using this
      · subst h; exact hz0'
  intro f
  induction f with
  | zero =>
    intro L listed a' w' val hLn hLl hls hLi hL hC hs hd hfr hv hRw
    obtain rfl := List.eq_nil_of_length_eq_zero hLl
    have hle : listed = allBut ops.size z := by
      apply Array.ext
      · simp [allBut, hls]
      · intro j h1 h2
        have hj : j < ops.size := by omega
        have h3 := hL j hj
        have h4 : listed.getD j true = listed[j] := by simp [h1]
        rw [h4] at h3
        by_cases e : j = z
        · subst e
          have : listed[j] = false := h3.2 (.inr rfl)
          rw [this]; simp [allBut]
        · have h5 : listed[j] ≠ false := fun h => by
            rcases h3.1 h with h | h
            · cases h
            · exact e h
          have h6 : listed[j] = true := by simpa using h5
          have ez : ¬ z = j := fun h => e h.symm
          rw [h6]; exact (allBut_at hj ez h2).symm
    rw [hle]
    · have e : a' = puts ops val is a := by
        have e1 : a'.tmps = (puts ops val is a).tmps := by
          apply Array.ext_getElem?
          intro s
          by_cases hcl : clearB ops is s = true
          · rw [hfr s hcl, puts_clear is a s hcl]
          · obtain ⟨i, hi, hds⟩ := not_clear hcl
            have hlt : s < a.tmps.size := by
              have := List.all_eq_true.1 hsz i hi
              rw [hds] at this
              simpa using this
            rw [(hv i hi (by simp)).2 s hds, puts_at is a i s hA hi hds hlt]
        have e2 : a'.defers = (puts ops val is a).defers := by rw [hd, puts_defers]
        cases a'
        cases hp : puts ops val is a
        rw [hp] at e1 e2
        simp only at e1 e2
        rw [e1, e2]
      rw [e]
      exact hend val w' (Each.mk fun i hi => (hv i hi (by simp)).1) hRw
  | succ f ih =>
    intro L listed a' w' val hLn hLl hls hLi hL hC hs hd hfr hv hRw
    have hlist : ∀ j, j < ops.size → j ∉ L → j ≠ z → listed.getD j false = true := by
      intro j hj hn hjz
      have h1 : listed.getD j true ≠ false := fun e => by
        rcases (hL j hj).1 e with h | h
        · exact hn h
        · exact hjz h
      have h2 : j < listed.size := by omega
      simp [h2] at h1 ⊢
      exact h1
    refine ⟨fun h0 => ?_, fun i hi => ?_⟩
    · exfalso
      have hno : ∀ j, j ∈ L → False := by
        intro j
        induction j using Nat.strongRecOn with
        | _ j ihj =>
          intro hj
          have hjs : j < ops.size := by
            have := (hB2 j (hLi j hj)).1.1
            exact this
          have hoj : ops[j]? = some ops[j] := Array.getElem?_eq_getElem hjs
          have : j ∈ Region.ready md ops listed := by
            refine mem_ready.2 ⟨(hL j hjs).2 (.inl hj), ops[j], hoj, fun e he hbd => ?_⟩
            have hlt := hback j _ hoj e he
            have hez : e.on ≠ z := by
              have h7 := hzn j (hLi j hj)
              rw [hoj] at h7
              have h8 := Array.all_eq_true_iff_forall_mem.1 h7 e he
              simpa using h8
            exact hlist e.on (by omega) (fun hm => ihj e.on hlt hm) hez
          rw [h0] at this
          cases this
      cases L with
      | nil => simp at hLl
      | cons x l => exact hno x (by simp)
    · obtain ⟨h1, oi, hoi, hdone⟩ := mem_ready.1 hi
      have his : i < ops.size := (Array.getElem?_eq_some_iff.1 hoi).1
      have hiL : i ∈ L := by
        rcases (hL i his).1 h1 with h | h
        · exact h
        · exfalso
          subst h
          cases L with
          | nil => simp at hLl
          | cons x l =>
            have hx := hzw x (hLi x (by simp))
            rw [Array.any_eq_true] at hx
            obtain ⟨k, hk, hx⟩ := hx
            simp only [Bool.and_eq_true, beq_iff_eq] at hx
            rw [hoz] at hoi
            injection hoi with hoi
            have h9 := hdone (oi.after[k]'(by rw [← hoi]; exact hk)) (Array.getElem_mem _) (by subst hoi; exact hx.2)
            subst hoi
            rw [hx.1] at h9
            have h10 := (hL x (hB2 x (hLi x (by simp))).1.1).2 (.inl (by simp))
            rw [unlisted h10] at h9
            cases h9
      have hii := hLi i hiL
      have hwant : Region.wanted oi (yielded ops a'.tmps) = true := by
        have h2 := List.all_eq_true.1 hw i hii
        simp only [hoi] at h2
        rw [← h2]
        refine wanted_same ?_
        have h3 := List.all_eq_true.1 hG i hii
        simp only [hoi] at h3
        cases hg : oi.guard with
        | none => trivial
        | some g =>
          obtain ⟨g, q⟩ := g
          rw [hg] at h3
          simp only at h3 ⊢
          cases hdg : dstOf ops g with
          | none => trivial
          | some d =>
            rw [hdg] at h3
            exact hfr d h3
      obtain ⟨o, ho, hstep'⟩ := (Each.of hstep) i hii a' w' val hRw (fun s hcl => by rw [hfr s hcl]) (fun j hj hwt => by
        have hj' : j ∈ is := by simpa using hj
        have hl := waitsF_listed hC _ i oi hoi hdone hwt
        have hjn : j ∉ L := by
          intro hm
          have hjs : j < ops.size := (hB2 j hj').1.1
          have := (hL j hjs).2 (.inl hm)
          rw [unlisted this] at hl
          cases hl
        refine ⟨(hv j hj' hjn).1, fun d hdj => ?_⟩
        rw [(hv j hj' hjn).2 d hdj]
        rfl)
      rw [hoi] at ho
      injection ho with ho
      subst ho
      unfold wpOp
      simp only [hoi, hwant, if_true]
      refine .inl (Oper.wp_mono ?_ hstep')
      rintro a'' w'' ⟨v, rfl, hTv, hRv⟩
      have hdi : dstOf ops i = oi.dst := by simp [dstOf, hoi]
      refine ⟨fun _ => hS _ (hRt _ _ _ hRw hRv), ih (L.erase i) _ _ _ (fun j => if j = i then v else val j) (hLn.erase i) (by rw [List.length_erase_of_mem hiL]; omega) (by simpa using hls) (fun j hj => hLi j (List.mem_of_mem_erase hj)) ?_ (hC.set hi) (by rw [put_size]; exact hs) (by rw [put_defers]; exact hd) ?_ ?_ (hRt _ _ _ hRw hRv)⟩
      · intro j hj
        by_cases e : j = i
        · subst e
          constructor
          · intro h
            have hlt : j < listed.size := by omega
            simp [hlt] at h
          · rintro (h | h)
            · exact absurd h (List.Nodup.not_mem_erase hLn)
            · exact absurd h (hB2 j hii).2
        · rw [getD_set_ne true (Ne.symm e), hL j hj, List.mem_erase_of_ne e]
      · intro s hcl
        rw [← hfr s hcl]
        refine put_at_ne _ _ _ _ ?_
        have := List.all_eq_true.1 hcl i hii
        rw [hdi] at this
        simpa using this
      · intro j hj hjn
        by_cases e : j = i
        · subst e
          simp only [if_true]
          refine ⟨hTv, fun d hdd => ?_⟩
          rw [hdi] at hdd
          rw [hdd]
          refine put_at_eq _ _ _ ?_
          have := List.all_eq_true.1 hsz j hj
          rw [hdi, hdd] at this
          rw [hs]
          simpa using this
        · simp only [e, if_false]
          have hjL : j ∉ L := fun hm => hjn ((List.mem_erase_of_ne e).2 hm)
          refine ⟨hT _ _ _ _ (hv j hj hjL).1 hRv, fun d hdd => ?_⟩
          rw [← (hv j hj hjL).2 d hdd]
          refine put_at_ne _ _ _ _ ?_
          intro e2
          -- two of 'is' that write one slot
          have hap : ∀ (is : List Nat), apartB ops is = true → i ∈ is → j ∈ is → dstOf ops i = some d → dstOf ops j = some d → i = j := by
            intro is
            induction is with
            | nil => intro _ h; cases h
            | cons x l ihl =>
              intro hA h1 h2 d1 d2
              simp only [apartB, Bool.and_eq_true] at hA
              have hcl : ∀ k, k ∈ l → dstOf ops x = some d → dstOf ops k ≠ some d := by
                intro k hk hx
                have h3 := hA.1
                rw [hx] at h3
                have := List.all_eq_true.1 h3 k hk
                simpa using this
              rcases List.mem_cons.1 h1 with q1 | q1 <;> rcases List.mem_cons.1 h2 with q2 | q2
              · rw [q1, q2]
              · exact absurd d2 (hcl j q2 (q1 ▸ d1))
              · exact absurd d1 (hcl i q1 (q2 ▸ d2))
              · exact ihl hA.2 q1 q2 d1 d2
          exact e (hap is hA hii hj (by rw [hdi]; exact e2) hdd).symm
end
end Go.Proofs.YthmdiaingolfnaaGreatDoor.Rw
