/- A region that draws its order, walked in no order at all: each operation left is taken once, by what is known of those that it waits for; what is known must last while the others come. No program is named here. -/
import Derived.Test.YtmnjdmcocifogaaGreatDoorReg
namespace Go.Proofs.YtmnjdmcocifogaaGreatDoor.Rw
open Go Go.RowKit
set_option linter.unusedVariables false

def dstOf (ops : Array Oper) (i : Nat) : Option Tmp := (ops[i]?).bind (·.dst)
/-- None of 'is' writes slot s. -/
def clearB (ops : Array Oper) (is : List Nat) (s : Tmp) : Bool := is.all fun i => dstOf ops i != some s
/-- No two of 'is' write one slot. -/
def apartB (ops : Array Oper) : List Nat → Bool
  | [] => true
  | i :: l => (match dstOf ops i with | some d => clearB ops l d | none => true) && apartB ops l
/-- What 'is' write, put one behind the other. -/
def puts (ops : Array Oper) (val : Nat → Value) : List Nat → Act → Act
  | [], a => a
  | i :: l, a => puts ops val l (a.put (dstOf ops i) (val i))

section
variable {ops : Array Oper} {val : Nat → Value}
theorem put_size (a : Act) (d : Option Tmp) (v : Value) : (a.put d v).tmps.size = a.tmps.size := by cases d <;> simp [Act.put]
theorem put_defers (a : Act) (d : Option Tmp) (v : Value) : (a.put d v).defers = a.defers := by cases d <;> rfl
theorem put_at_ne (a : Act) (d : Option Tmp) (v : Value) (s : Tmp) (h : d ≠ some s) : (a.put d v).tmps[s]? = a.tmps[s]? := by
  cases d with
  | none => rfl
  | some d => simp [Act.put, Array.getElem?_setIfInBounds]; intro e; exact absurd (congrArg some e) h
theorem put_at_eq (a : Act) (d : Tmp) (v : Value) (h : d < a.tmps.size) : (a.put (some d) v).tmps[d]? = some v := by
  simp [Act.put, h]
theorem puts_size : ∀ (is : List Nat) (a : Act), (puts ops val is a).tmps.size = a.tmps.size
  | [], _ => rfl
  | i :: l, a => by rw [puts, puts_size l, put_size]
theorem puts_defers : ∀ (is : List Nat) (a : Act), (puts ops val is a).defers = a.defers
  | [], _ => rfl
  | i :: l, a => by rw [puts, puts_defers l, put_defers]
theorem puts_clear : ∀ (is : List Nat) (a : Act) (s : Tmp), clearB ops is s = true → (puts ops val is a).tmps[s]? = a.tmps[s]?
  | [], _, _, _ => rfl
  | i :: l, a, s, h => by
    simp only [clearB, List.all_cons, Bool.and_eq_true] at h
    rw [puts, puts_clear l _ s h.2, put_at_ne _ _ _ _ (by simpa using h.1)]
theorem puts_at : ∀ (is : List Nat) (a : Act) (i : Nat) (d : Tmp), apartB ops is = true → i ∈ is → dstOf ops i = some d → d < a.tmps.size → (puts ops val is a).tmps[d]? = some (val i)
  | [], _, _, _, _, h, _, _ => by cases h
  | j :: l, a, i, d, hA, h, hd, hs => by
    simp only [apartB, Bool.and_eq_true] at hA
    rw [puts]
    by_cases e : i ∈ l
    · exact puts_at l _ i d hA.2 e hd (by rw [put_size]; exact hs)
    · obtain rfl : i = j := by rcases List.mem_cons.1 h with h | h; exact h; exact absurd h e
      have h1 := hA.1
      rw [hd] at h1
      rw [puts_clear l _ d h1, hd, put_at_eq a d _ hs]
theorem not_clear {is : List Nat} {s : Tmp} (h : clearB ops is s ≠ true) : ∃ i ∈ is, dstOf ops i = some s := by
  unfold clearB at h
  apply Classical.byContradiction
  intro hc
  apply h
  refine List.all_eq_true.2 fun i hi => ?_
  simp only [bne_iff_ne, ne_eq]
  exact fun e => hc ⟨i, hi, e⟩
theorem eval_tmp (a : Act) (s : Tmp) : a.eval (.tmp s) = a.tmps.getD s undef := rfl
theorem getD_of {a b : Act} {s : Tmp} (h : a.tmps[s]? = b.tmps[s]?) : a.eval (.tmp s) = b.eval (.tmp s) := by
  rw [eval_tmp, eval_tmp, Array.getD_eq_getD_getElem?, Array.getD_eq_getD_getElem?, h]
end

/-- Each of 'is', one by one. -/
def Each (p : Nat → Prop) : List Nat → Prop
  | [] => True
  | i :: l => p i ∧ Each p l
theorem Each.of {p : Nat → Prop} : ∀ {l : List Nat}, Each p l → ∀ i ∈ l, p i
  | [], _, _, h => by cases h
  | j :: l, h, i, hi => by
    rcases List.mem_cons.1 hi with rfl | hi
    · exact h.1
    · exact Each.of h.2 i hi
theorem Each.mk {p : Nat → Prop} : ∀ {l : List Nat}, (∀ i ∈ l, p i) → Each p l
  | [], _ => trivial
  | j :: l, h => ⟨h j (by simp), Each.mk fun i hi => h i (by simp [hi])⟩

def backB (ops : Array Oper) : Bool := (List.range ops.size).all fun j => match ops[j]? with
  | some oj => oj.after.all fun e => decide (e.on < j)
  | none => true
/-- 'is' are all that is left. -/
def leftB (ops : Array Oper) (listed : Array Bool) (is : List Nat) (f : Nat) : Bool :=
  (List.range ops.size).all (fun j => listed.getD j true || is.contains j) && is.all (fun j => decide (j < ops.size) && !listed.getD j true) && decide is.Nodup && decide (is.length = f) && decide (listed.size = ops.size)
/-- What guards them is done. -/
def guardsB (ops : Array Oper) (is : List Nat) : Bool := is.all fun i => match ops[i]? with
  | some o => match o.guard with
    | some (g, _) => (match dstOf ops g with | some d => clearB ops is d | none => true)
    | none => true
  | none => true

section
variable {P : Program} {ops : Array Oper} {Q : Exit → Act → World → Prop} {md : Region.Mode} {S : World → Prop} {n : Nat}
theorem wanted_same {o : Oper} {a b : Act} (h : match o.guard with | some (g, _) => (match dstOf ops g with | some d => a.tmps[d]? = b.tmps[d]? | none => True) | none => True) :
    Region.wanted o (yielded ops a.tmps) = Region.wanted o (yielded ops b.tmps) := by
  unfold Region.wanted
  cases hg : o.guard with
  | none => rfl
  | some g =>
    obtain ⟨g, p⟩ := g
    rw [hg] at h
    have : yielded ops a.tmps g = yielded ops b.tmps g := by
      unfold yielded
      unfold dstOf at h
      cases hd : (ops[g]?).bind (·.dst) with
      | none => rfl
      | some d =>
        simp only [hd] at h
        simp only [Option.bind_some]
        rw [show a.tmps[d]? = b.tmps[d]? from h]
    simp only [this]

/-- Behind each operation that is left what T says of its value holds, and goes on holding while R goes on. -/
theorem reg_stable (is : List Nat) (R : World → World → Prop) (T : Nat → Value → World → Prop) {f : Nat} {listed : Array Bool} {a : Act} {w : World}
    (hB : leftB ops listed is f = true) (hb : backB ops = true) (hA : apartB ops is = true) (hG : guardsB ops is = true) (hC : closedB md ops listed = true)
    (hsz : is.all (fun i => match dstOf ops i with | some d => decide (d < a.tmps.size) | none => true) = true)
    (hw : is.all (fun i => match ops[i]? with | some o => Region.wanted o (yielded ops a.tmps) | none => true) = true)
    (hR0 : ∀ w, R w w) (hRt : ∀ w w' w'', R w w' → R w' w'' → R w w'') (hT : ∀ i v w w', T i v w → R w w' → T i v w') (hS : ∀ w', R w w' → S w')
    (hstep : Each (fun i => ∀ (a' : Act) (w' : World) (val : Nat → Value), R w w' → (∀ s, clearB ops is s = true → a'.tmps[s]?.getD undef = a.tmps[s]?.getD undef) →
      (∀ j, is.contains j = true → waitsF md ops ops.size i j = true → T j (val j) w' ∧ ∀ d, dstOf ops j = some d → a'.tmps[d]?.getD undef = val j) →
      ∃ o, ops[i]? = some o ∧ o.wp P a' w' (fun a'' w'' => ∃ v, a'' = a'.put o.dst v ∧ T i v w'' ∧ R w' w'') Q) is)
    (hend : ∀ (val : Nat → Value) (w' : World), Each (fun i => T i (val i) w') is → R w w' → Q .normal (puts ops val is a) w') :
    wpAnyT P md ops Q n S f listed a w := by
  simp only [leftB, Bool.and_eq_true, List.all_eq_true, Bool.or_eq_true, decide_eq_true_eq] at hB
  obtain ⟨⟨⟨⟨hB1, hB2⟩, hnd⟩, hlen⟩, hls⟩ := hB
  have hback : ∀ (j : Nat) (oj : Oper), ops[j]? = some oj → ∀ e ∈ oj.after, e.on < j := by
    intro j oj hj e he
    have h1 := List.all_eq_true.1 hb j (List.mem_range.2 (Array.getElem?_eq_some_iff.1 hj).1)
    simp only [hj] at h1
    simpa using Array.all_eq_true_iff_forall_mem.1 h1 e he
  suffices main : ∀ (f : Nat) (L : List Nat) (listed : Array Bool) (a' : Act) (w' : World) (val : Nat → Value),
      L.Nodup → L.length = f → listed.size = ops.size → (∀ j, j ∈ L → j ∈ is) → (∀ j, j < ops.size → (listed.getD j true = false ↔ j ∈ L)) → Closed md ops listed →
      a'.tmps.size = a.tmps.size → a'.defers = a.defers → (∀ s, clearB ops is s = true → a'.tmps[s]? = a.tmps[s]?) →
      (∀ j, j ∈ is → j ∉ L → T j (val j) w' ∧ ∀ d, dstOf ops j = some d → a'.tmps[d]? = some (val j)) → R w w' → wpAnyT P md ops Q n S f listed a' w' by
    refine main f is listed a w (fun _ => undef) hnd hlen hls (fun _ h => h) (fun j hj => ⟨fun h => ?_, fun h => ?_⟩) (closedB_spec hC) rfl rfl (fun _ _ => rfl) (fun j h1 h2 => absurd h1 h2) (hR0 w)
    · rcases hB1 j (List.mem_range.2 hj) with h1 | h1
      · rw [h] at h1; cases h1
      · simpa using h1
    · have := (hB2 j h).2
      simpa using this
  intro f
  induction f with
  | zero =>
    intro L listed a' w' val hLn hLl hls hLi hL hC hs hd hfr hv hRw
    obtain rfl := List.eq_nil_of_length_eq_zero hLl
    refine ⟨?_, ?_⟩
    · rw [List.eq_nil_iff_forall_not_mem]
      intro j hj
      obtain ⟨h1, oj, hoj, _⟩ := mem_ready.1 hj
      have := (hL j (Array.getElem?_eq_some_iff.1 hoj).1).1 h1
      cases this
    · have e : a' = puts ops val is a := by
        have e1 : a'.tmps = (puts ops val is a).tmps := by
          apply Array.ext_getElem?
          intro s
          by_cases hcl : clearB ops is s = true
          · rw [hfr s hcl, puts_clear is a s hcl]
          · obtain ⟨i, hi, hds⟩ := not_clear hcl
            have hlt : s < a.tmps.size := by
              have := List.all_eq_true.1 hsz i hi
              rw [hds] at this
              simpa using this
            rw [(hv i hi (by simp)).2 s hds, puts_at is a i s hA hi hds hlt]
        have e2 : a'.defers = (puts ops val is a).defers := by rw [hd, puts_defers]
        cases a'
        cases hp : puts ops val is a
        rw [hp] at e1 e2
        simp only at e1 e2
        rw [e1, e2]
      rw [e]
      exact hend val w' (Each.mk fun i hi => (hv i hi (by simp)).1) hRw
  | succ f ih =>
    intro L listed a' w' val hLn hLl hls hLi hL hC hs hd hfr hv hRw
    have hlist : ∀ j, j < ops.size → j ∉ L → listed.getD j false = true := by
      intro j hj hn
      have h1 : listed.getD j true ≠ false := fun e => hn ((hL j hj).1 e)
      have h2 : j < listed.size := by omega
      simp [h2] at h1 ⊢
      exact h1
    refine ⟨fun h0 => ?_, fun i hi => ?_⟩
    · exfalso
      have hno : ∀ j, j ∈ L → False := by
        intro j
        induction j using Nat.strongRecOn with
        | _ j ihj =>
          intro hj
          have hjs : j < ops.size := by
            have := (hB2 j (hLi j hj)).1
            exact this
          have hoj : ops[j]? = some ops[j] := Array.getElem?_eq_getElem hjs
          have : j ∈ Region.ready md ops listed := by
            refine mem_ready.2 ⟨(hL j hjs).2 hj, ops[j], hoj, fun e he hbd => ?_⟩
            have hlt := hback j _ hoj e he
            exact hlist e.on (by omega) (fun hm => ihj e.on hlt hm)
          rw [h0] at this
          cases this
      cases L with
      | nil => simp at hLl
      | cons x l => exact hno x (by simp)
    · obtain ⟨h1, oi, hoi, hdone⟩ := mem_ready.1 hi
      have his : i < ops.size := (Array.getElem?_eq_some_iff.1 hoi).1
      have hiL := (hL i his).1 h1
      have hii := hLi i hiL
      have hwant : Region.wanted oi (yielded ops a'.tmps) = true := by
        have h2 := List.all_eq_true.1 hw i hii
        simp only [hoi] at h2
        rw [← h2]
        refine wanted_same ?_
        have h3 := List.all_eq_true.1 hG i hii
        simp only [hoi] at h3
        cases hg : oi.guard with
        | none => trivial
        | some g =>
          obtain ⟨g, q⟩ := g
          rw [hg] at h3
          simp only at h3 ⊢
          cases hdg : dstOf ops g with
          | none => trivial
          | some d =>
            rw [hdg] at h3
            exact hfr d h3
      obtain ⟨o, ho, hstep'⟩ := (Each.of hstep) i hii a' w' val hRw (fun s hcl => by rw [hfr s hcl]) (fun j hj hwt => by
        have hj' : j ∈ is := by simpa using hj
        have hl := waitsF_listed hC _ i oi hoi hdone hwt
        have hjn : j ∉ L := by
          intro hm
          have hjs : j < ops.size := (hB2 j hj').1
          have := (hL j hjs).2 hm
          rw [unlisted this] at hl
          cases hl
        refine ⟨(hv j hj' hjn).1, fun d hdj => ?_⟩
        rw [(hv j hj' hjn).2 d hdj]
        rfl)
      rw [hoi] at ho
      injection ho with ho
      subst ho
      unfold wpOp
      simp only [hoi, hwant, if_true]
      refine .inl (Oper.wp_mono ?_ hstep')
      rintro a'' w'' ⟨v, rfl, hTv, hRv⟩
      have hdi : dstOf ops i = oi.dst := by simp [dstOf, hoi]
      refine ⟨fun _ => hS _ (hRt _ _ _ hRw hRv), ih (L.erase i) _ _ _ (fun j => if j = i then v else val j) (hLn.erase i) (by rw [List.length_erase_of_mem hiL]; omega) (by simpa using hls) (fun j hj => hLi j (List.mem_of_mem_erase hj)) ?_ (hC.set hi) (by rw [put_size]; exact hs) (by rw [put_defers]; exact hd) ?_ ?_ (hRt _ _ _ hRw hRv)⟩
      · intro j hj
        by_cases e : j = i
        · subst e
          constructor
          · intro h
            have hlt : j < listed.size := by omega
            simp [hlt] at h
          · intro h; exact absurd h (List.Nodup.not_mem_erase hLn)
        · rw [getD_set_ne true (Ne.symm e), hL j hj, List.mem_erase_of_ne e]
      · intro s hcl
        rw [← hfr s hcl]
        refine put_at_ne _ _ _ _ ?_
        have := List.all_eq_true.1 hcl i hii
        rw [hdi] at this
        simpa using this
      · intro j hj hjn
        by_cases e : j = i
        · subst e
          simp only [if_true]
          refine ⟨hTv, fun d hdd => ?_⟩
          rw [hdi] at hdd
          rw [hdd]
          refine put_at_eq _ _ _ ?_
          have := List.all_eq_true.1 hsz j hj
          rw [hdi, hdd] at this
          rw [hs]
          simpa using this
        · simp only [e, if_false]
          have hjL : j ∉ L := fun hm => hjn ((List.mem_erase_of_ne e).2 hm)
          refine ⟨hT _ _ _ _ (hv j hj hjL).1 hRv, fun d hdd => ?_⟩
          rw [← (hv j hj hjL).2 d hdd]
          refine put_at_ne _ _ _ _ ?_
          intro e2
          -- two of 'is' that write one slot
          have hap : ∀ (is : List Nat), apartB ops is = true → i ∈ is → j ∈ is → dstOf ops i = some d → dstOf ops j = some d → i = j := by
            intro is
            induction is with
            | nil => intro _ h; cases h
            | cons x l ihl =>
              intro hA h1 h2 d1 d2
              simp only [apartB, Bool.and_eq_true] at hA
              have hcl : ∀ k, k ∈ l → dstOf ops x = some d → dstOf ops k ≠ some d := by
                intro k hk hx
                have h3 := hA.1
                rw [hx] at h3
                have := List.all_eq_true.1 h3 k hk
                simpa using this
              rcases List.mem_cons.1 h1 with q1 | q1 <;> rcases List.mem_cons.1 h2 with q2 | q2
              · rw [q1, q2]
              · exact absurd d2 (hcl j q2 (q1 ▸ d1))
              · exact absurd d1 (hcl i q1 (q2 ▸ d2))
              · exact ihl hA.2 q1 q2 d1 d2
          exact e (hap is hA hii hj (by rw [hdi]; exact e2) hdd).symm
end
end Go.Proofs.YtmnjdmcocifogaaGreatDoor.Rw
