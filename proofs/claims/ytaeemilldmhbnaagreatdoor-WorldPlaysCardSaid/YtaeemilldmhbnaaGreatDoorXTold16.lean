/- A part of the claim: the texts Told16. -/
import Derived.Test.YtaeemilldmhbnaaGreatDoorXPlayT
import Derived.Test.YtaeemilldmhbnaaGreatDoorXGBagE
import Derived.Test.YtaeemilldmhbnaaGreatDoorXGTold
import Derived.Test.YtaeemilldmhbnaaGreatDoorXGHist
import Derived.Test.YtaeemilldmhbnaaGreatDoorXGSlots
import Derived.Deep.RegionHeld3
set_option maxRecDepth 100000
set_option maxHeartbeats 8000000
set_option linter.unusedVariables false
namespace Go.Proofs.YtaeemilldmhbnaaGreatDoor.Wo
open Go Go.ChangeShapes Go.WideShapes Go.ChangeAt Go.RowKit Go.Maps Rw Hi Mt Ba
open Cn (Cf cfE)
theorem sall_n (w:World) (B p n:Nat) (r:Option Nat) (L:List St.Sx) (h:St.Ss w B p r L) (G:L.length=n) (hn:n≤1000) :
  Calls Tryz.prog 70 #[ptr p] w fun e w'=>∃ A c,e=.returned (.slice A n c)∧Rs St.enc3 3 w' w'.heap.size A n c L∧Below w.heap.size w w':=by
 subst G
 exact (St.all_any w B p r L h hn).mono fun e w' ⟨A,c,u,z,F⟩=>⟨A,c,u,Rs.own_rs St.enc3_len rfl z,F⟩
theorem sreq_n (A A':Option Addr) (n c u:Nat) (xs:List St.Sx) (B B':Nat) (w:World) (h:Rs St.enc3 3 w B A n c xs) (z:Rs St.enc3 3 w B' A' n u xs) :
  Calls Tryz.prog 68 #[.slice A n c,.slice A' n u] w fun e w'=>e=.returned (.bool true)∧Below w.heap.size w w':=
 (St.requal_same A A' n c u xs B B' w h z).mono fun e w' ⟨F,q,G⟩=>⟨F,G ▸ Rw.below_drewN (Below.refl _ _) q⟩
theorem hall_n (w:World) (B p n:Nat) (r:Option Nat) (s:Int) (l:List Tx.Ev) (h:Hi.Hs w B p r s l) (G:l.length=n) (hn:n≤1000) :
  Calls Tryz.prog 73 #[ptr p] w fun e w'=>∃ A c,e=.returned (.slice A n c)∧Rs Tx.encE 6 w' w'.heap.size A n c l∧Below w.heap.size w w':=by
 subst G
 exact (Hi.all_any w B p r s l h (by omega)).mono fun e w' ⟨A,c,u,z,F⟩=>⟨A,c,u,Rs.own_rs Hi.encE_len rfl z,F⟩
theorem hof_n (A:Option Addr) (n c:Nat) (l:List Tx.Ev) (w:World) (h:Rs Tx.encE 6 w w.heap.size A n c l) (hn:n≤1000) :
  Calls Tryz.prog 72 #[.slice A n c] w fun e w'=>∃ A' u,e=.returned (.slice A' n u)∧Rs Tx.encE 6 w' w'.heap.size A' n u l∧Below w.heap.size w w':=
 (Hi.of_any A n c _ l w h (Nat.le_refl _) hn).mono fun e w' ⟨A',u,z,F,G⟩=>⟨A',u,z,Rs.own_rs Hi.encE_len h.len F,G⟩
theorem hreq_n (A A':Option Addr) (n c u:Nat) (xs:List Tx.Ev) (B B':Nat) (w:World) (h:Rs Tx.encE 6 w B A n c xs) (z:Rs Tx.encE 6 w B' A' n u xs) :
  Calls Tryz.prog 71 #[.slice A n c,.slice A' n u] w fun e w'=>e=.returned (.bool true)∧Below w.heap.size w w':=
 (Hi.revequal_same A A' n c u xs B B' w h z).mono fun e w' ⟨F,q,G⟩=>⟨F,G ▸ Rw.below_drewN (Below.refl _ _) q⟩
theorem lall_n (X:Nat→Prop) (w:World) (B p i n:Nat) (L:Nat→List Int) (h:Lc.Lo X w B p L) (hi:i < 8) (G:(L i).length=n) :
  Calls Tryz.prog 76 #[ptr p,.int .i64 i] w fun e w'=>∃ A c,e=.returned (.slice A n c)∧Rd (Value.int .u64) w' w'.heap.size A n c (L i)∧Below w.heap.size w w':=by
 subst G
 exact (Lc.all_in X w B p i L h hi).mono fun e w' ⟨A,c,u,z,_,F⟩=>⟨A,c,u,z,F⟩
theorem fids_n (p b m n q:Nat) (O P:List Bool) (C:List Int) (w:World) (h:Fc.Fa w b m p O P n C) (hn:n≤1000) (I:(Fc.ids C n).length=q) :
  Calls Tryz.prog 79 #[ptr p] w fun e w'=>∃ A c,e=.returned (.slice A q c)∧Rd (Value.int .u64) w' w'.heap.size A q c (Fc.ids C n)∧Below w.heap.size w w':=
 (Fc.ids_any p b m n O P C w h hn).mono fun e w' ⟨A,c,J,u,z,F,G⟩=>by
  obtain rfl:q=J:=I.symm.trans z
  exact ⟨A,c,u,Rd.own_rd F,G⟩
theorem rf_of {K:Nat→Prop} {w:World} {v:Value} {O P:List Bool} {n:Nat} {C:List Int} (h:Fk.Rf K w v O P n C):Fc.Rf w w.heap.size w.heap.size v O P n C:=by
 obtain ⟨A1,n1,c1,A2,n2,c2,A3,c3,S,e,z,F,G,I⟩:=h.form
 have k:∀ {A:Option Addr} {n c:Nat} {O:List Bool},Fk.Rn K w A n c O→Fc.Rn w w.heap.size w.heap.size A n c O:=fun {A n c O} h=>⟨h.rd,fun hn g o e=>by
  obtain ⟨b,N,u,J⟩:=rd_at h.rd hn
  rw [u] at e; injection e with e; injection e with e1 _
  exact ⟨by omega,by omega⟩⟩
 exact ⟨⟨A1,n1,c1,A2,n2,c2,A3,c3,S,e,k z,k F,k G,I⟩⟩
theorem rfids_n {K:Nat→Prop} (v:Value) (n q:Nat) (O P:List Bool) (C:List Int) (w:World) (h:Fk.Rf K w v O P n C) (hn:n≤1000) (I:(Fc.ids C n).length=q) :
  Calls Tryz.prog 78 #[v] w fun e w'=>∃ A c,e=.returned (.slice A q c)∧Rd (Value.int .u64) w' w'.heap.size A q c (Fc.ids C n)∧Below w.heap.size w w':=
 (Fc.rids_any v w.heap.size w.heap.size n O P C w (rf_of h) hn).mono fun e w' ⟨A,c,J,u,z,F,G⟩=>by
  obtain rfl:q=J:=I.symm.trans z
  exact ⟨A,c,u,Rd.own_rd F,G⟩
def Tk6 (W:World) (pw pl pk b g o:Nat) (leak:Int) (A1:Option Addr) (n1 c1:Nat) (A2:Option Addr) (n2 c2:Nat) (A3:Option Addr) (n3 c3:Nat) (A:Option Addr) (lc:Nat) (As:Option Addr) (ns cs:Nat) (w:World):Prop:=
 w.cell? ⟨pw,9,none⟩=some (ptr pl)∧w.cell? ⟨pw,11,none⟩=some (ptr pk)∧w.cell? ⟨b,10,none⟩=some (.slice A 8 lc)∧w.cell? ⟨b,12,none⟩=some (.int .u64 leak)∧w.cell? ⟨b,13,none⟩=some (.slice A1 n1 c1)∧w.cell? ⟨b,14,none⟩=some (.slice A2 n2 c2)∧w.cell? ⟨b,15,none⟩=some (.slice A3 n3 c3)∧w.cell? ⟨g,o,none⟩=some (.slice As ns cs)∧Below W.heap.size W w
def Tk0 (W:World) (x:Wp) (b:Nat) (v:Dv) (s:Ws) (w:World):Prop:=
 w.cell? ⟨x.pw,14,none⟩=some (.int .i64 s.live)∧w.cell? ⟨x.pw,15,none⟩=some (.bool s.closed)∧w.cell? ⟨x.pw,8,none⟩=some (ptr x.pb)∧w.cell? ⟨x.pw,10,none⟩=some (ptr x.ps)∧w.cell? ⟨x.pw,13,none⟩=some (ptr x.ph)∧w.cell? ⟨b,7,none⟩=some (.int .u64 s.now)∧w.cell? ⟨b,21,none⟩=some (.int .i64 s.live)∧w.cell? ⟨b,22,none⟩=some (.bool s.closed)∧w.cell? ⟨b,8,none⟩=some (.slice v.b.A v.b.n v.b.c)∧w.cell? ⟨b,9,none⟩=some (.slice v.b.A2 v.b.n2 v.b.c2)∧w.cell? ⟨b,11,none⟩=some (.slice v.sA v.sn v.sc)∧w.cell? ⟨b,19,none⟩=some (.int .u64 s.step)∧w.cell? ⟨b,20,none⟩=some (.slice v.hA v.hn v.hc)∧Below W.heap.size W w
def Tk10 (W:World) (pw pF b:Nat) (A:Option Addr) (n c:Nat) (w:World):Prop:=
 w.cell? ⟨pw,12,none⟩=some (ptr pF)∧w.cell? ⟨b,18,none⟩=some (.slice A n c)∧Below W.heap.size W w
theorem cell_on {w w':World} {g j:Nat} {u:Value} (h:w.cell? ⟨g,j,none⟩=some u) (z:Below w.heap.size w w'):w'.cell? ⟨g,j,none⟩=some u:=(z.cell (p:=⟨g,j,none⟩) (Lw.lt_heap h)).trans h
section
variable {W w w':World} {pw pl pk pF b g o:Nat} {leak:Int} {A1:Option Addr} {n1 c1:Nat} {A2:Option Addr} {n2 c2:Nat} {A3:Option Addr} {n3 c3:Nat} {A:Option Addr} {lc n c:Nat} {As:Option Addr} {ns cs:Nat}
theorem Tk6.bel (h:Tk6 W pw pl pk b g o leak A1 n1 c1 A2 n2 c2 A3 n3 c3 A lc As ns cs w):Below W.heap.size W w:=h.2.2.2.2.2.2.2.2
theorem Tk6.on (h:Tk6 W pw pl pk b g o leak A1 n1 c1 A2 n2 c2 A3 n3 c3 A lc As ns cs w) (u:Below w.heap.size w w'):Tk6 W pw pl pk b g o leak A1 n1 c1 A2 n2 c2 A3 n3 c3 A lc As ns cs w':=by
 obtain ⟨F,G,I,J,N,Y,h7,h8,z⟩:=h
 exact ⟨cell_on F u,cell_on G u,cell_on I u,cell_on J u,cell_on N u,cell_on Y u,cell_on h7 u,cell_on h8 u,z.trans (u.mono z.size)⟩
theorem Tk6.drew (h:Tk6 W pw pl pk b g o leak A1 n1 c1 A2 n2 c2 A3 n3 c3 A lc As ns cs w):Tk6 W pw pl pk b g o leak A1 n1 c1 A2 n2 c2 A3 n3 c3 A lc As ns cs w.drew:=by
 obtain ⟨u,z,F,G,I,J,N,Y,h9⟩:=h
 exact ⟨u,z,F,G,I,J,N,Y,h9.drew⟩
theorem Tk0.bel {x:Wp} {v:Dv} {s:Ws} (h:Tk0 W x b v s w):Below W.heap.size W w:=h.2.2.2.2.2.2.2.2.2.2.2.2.2
theorem Tk0.on {x:Wp} {v:Dv} {s:Ws} (h:Tk0 W x b v s w) (u:Below w.heap.size w w'):Tk0 W x b v s w':=by
 obtain ⟨F,Y,h3,h4,h5,h6,h7,h8,h9,G,I,J,N,z⟩:=h
 exact ⟨cell_on F u,cell_on Y u,cell_on h3 u,cell_on h4 u,cell_on h5 u,cell_on h6 u,cell_on h7 u,cell_on h8 u,cell_on h9 u,cell_on G u,cell_on I u,cell_on J u,cell_on N u,z.trans (u.mono z.size)⟩
theorem Tk0.drew {x:Wp} {v:Dv} {s:Ws} (h:Tk0 W x b v s w):Tk0 W x b v s w.drew:=by
 obtain ⟨u,N,Y,h4,h5,h6,h7,h8,h9,z,F,G,I,J⟩:=h
 exact ⟨u,N,Y,h4,h5,h6,h7,h8,h9,z,F,G,I,J.drew⟩
theorem Tk10.bel (h:Tk10 W pw pF b A n c w):Below W.heap.size W w:=h.2.2
theorem Tk10.on (h:Tk10 W pw pF b A n c w) (u:Below w.heap.size w w'):Tk10 W pw pF b A n c w':=⟨cell_on h.1 u,cell_on h.2.1 u,h.2.2.trans (u.mono h.2.2.size)⟩
theorem Tk10.drew (h:Tk10 W pw pF b A n c w):Tk10 W pw pF b A n c w.drew:=⟨h.1,h.2.1,h.2.2.drew⟩
theorem Dw.book_dk {K:Nat→Prop} {v:Dv} {s:Ws} {N:List Int} (h:Dw K w v s N):Le.Dk w v.k s.L N s.T:=dk_mono h.book (fun _ _ _=>trivial)
end
theorem told16_any (w:World) {base:Nat} {col:Nat→Nat} {K:Nat→Prop} {x:Wp} {v:Dv} {s:Ws} {N:List Int} (h:Wv base col w x s) (hd:Dw K w v s N) (hM:s.M=Le.mk N) (ar:Le.Sd s.L) (aN:s.D.length≤200) (aO:s.S.length≤1000) (aQ:s.sl.length≤1000) (aP:s.ev.length≤1000) (aF:s.L.length≤200) (hN:N.length≤1000) (aG:s.T.length≤1000) (hn:s.n≤900) :
  Calls Tryz.prog 15 #[ptr x.pw,v.val s] w fun e w'=>e=.returned (.bool true)∧Below w.heap.size w w':=by
 obtain ⟨F,aH,V1,B1,S1⟩:=box_w (v.cells s) w rfl
 have J:=Lh (h.later B1)
 have Y:=Lh (hd.later B1)
 have G:=Lh V1
 have av:=Lh B1
 have HM:=Lh hM
 have az:=Lh ar
 have ae:=Lh S1
 obtain ⟨b,u⟩:∃ b,w.heap.size=b:=⟨_,rfl⟩
 clear h hd V1 B1 hM ar S1
 go_enter Tryz.func15,Tryz.ntmps15
 have q1:(s.now != s.now)=false:=by simp
 have q2:(s.live != s.live)=false:=by simp
 have q3:(s.closed != s.closed)=false:=by simp
 have q4:(s.step != s.step)=false:=by simp
 have ac:Hid (∀ w',Below F.heap.size F w'→Calls Tryz.prog 56 #[ptr x.pw] w' fun e z=>e=.returned (.int .u64 s.now)∧Below w'.heap.size w' z):=Lh (fun w' u=>wnow_any w' (J.out.later u).cells)
 have ah:Hid (∀ w',Below F.heap.size F w'→Calls Tryz.prog 67 #[ptr x.pb,.agg #[.slice v.b.A v.b.n v.b.c,.slice v.b.A2 v.b.n2 v.b.c2]] w' fun e z=>e=.returned (.bool true)∧Below w'.heap.size w' z):=Lh (fun w' u=>told15_any _ _ _ _ _ _ _ _ _ _ w' (J.out.later u).bag (Y.out.later u).bag (by have q:=Y.out.bag.l.len; have q:s.D.length=v.b.n:=q; omega) (by have q:=Y.out.bag.s.len; have q:s.S.length=v.b.n2:=q; omega))
 have af:Hid (∀ w',Below F.heap.size F w'→Calls Tryz.prog 70 #[ptr x.ps] w' fun e z=>∃ A c,e=.returned (.slice A v.sn c)∧Rs St.enc3 3 z z.heap.size A v.sn c s.sl∧Below w'.heap.size w' z):=Lh (fun w' u=>by
  obtain ⟨rs,aK⟩:=(J.out.later u).slots
  exact sall_n w' base x.ps v.sn rs s.sl aK Y.out.sl.len (by have:=Y.out.sl.len; omega))
 have ai:Hid (∀ w' A c,Rs St.enc3 3 w' w'.heap.size A v.sn c s.sl→Calls Tryz.prog 69 #[.slice A v.sn c] w' fun e z=>∃ A' c',e=.returned (.slice A' v.sn c')∧Rs St.enc3 3 z z.heap.size A' v.sn c' s.sl∧Below w'.heap.size w' z):=Lh (fun w' A c hr=>St.to_any A v.sn c _ s.sl w' hr (Nat.le_refl _) (by have:=Y.out.sl.len; omega))
 have ag:Hid (∀ w' A c,Below F.heap.size F w'→Rs St.enc3 3 w' w'.heap.size A v.sn c s.sl→Calls Tryz.prog 68 #[.slice A v.sn c,.slice v.sA v.sn v.sc] w' fun e z=>e=.returned (.bool true)∧Below w'.heap.size w' z):=Lh (fun w' A c u hr=>sreq_n A v.sA v.sn c v.sc s.sl _ _ w' hr (Y.out.later u).sl)
 have a8:Hid (∀ w',Below F.heap.size F w'→Calls Tryz.prog 73 #[ptr x.ph] w' fun e z=>∃ A c,e=.returned (.slice A v.hn c)∧Rs Tx.encE 6 z z.heap.size A v.hn c s.ev∧Below w'.heap.size w' z):=Lh (fun w' u=>by
  obtain ⟨rh,a5⟩:=(J.out.later u).hist
  exact hall_n w' base x.ph v.hn rh s.step s.ev a5 Y.out.hist.len (by have:=Y.out.hist.len; omega))
 have ad:Hid (∀ w' A c,Rs Tx.encE 6 w' w'.heap.size A v.hn c s.ev→Calls Tryz.prog 72 #[.slice A v.hn c] w' fun e z=>∃ A' c',e=.returned (.slice A' v.hn c')∧Rs Tx.encE 6 z z.heap.size A' v.hn c' s.ev∧Below w'.heap.size w' z):=Lh (fun w' A c hr=>hof_n A v.hn c s.ev w' hr (by have:=Y.out.hist.len; omega))
 have a9:Hid (∀ w' A c,Below F.heap.size F w'→Rs Tx.encE 6 w' w'.heap.size A v.hn c s.ev→Calls Tryz.prog 71 #[.slice A v.hn c,.slice v.hA v.hn v.hc] w' fun e z=>e=.returned (.bool true)∧Below w'.heap.size w' z):=Lh (fun w' A c u hr=>hreq_n A v.hA v.hn c v.hc s.ev _ _ w' hr (Y.out.later u).hist)
 have aa:Hid (∀ w',Below F.heap.size F w'→Calls Tryz.prog 74 #[ptr x.ph] w' fun e z=>e=.returned (.int .u64 s.step)∧w'=z):=Lh (fun w' u=>by
  obtain ⟨rh,a5⟩:=(J.out.later u).hist
  exact Hi.now_any w' base x.ph rh s.step s.ev a5)
 go_upto_region 1 with (fail)
 clear aH
 try rw [u]
 have G:=Lh (u ▸ G.out)
 have aM:Hid (b < F.heap.size):=Lh (by have:=ae.out; omega)
 have st:Tk0 F x b v s F:=⟨J.out.cells.c14,J.out.cells.c15,J.out.cells.c8,J.out.cells.c10,J.out.cells.c13,G.out.cell 7 _ rfl,G.out.cell 21 _ rfl,G.out.cell 22 _ rfl,G.out.cell 8 _ rfl,G.out.cell 9 _ rfl,G.out.cell 11 _ rfl,G.out.cell 19 _ rfl,G.out.cell 20 _ rfl,Below.refl _ _⟩
 go_wp2_with fail
 try simp only [List.append_eq,List.cons_append,List.nil_append]
 go_region_held3 (fun w'=>w'.cell? ⟨x.pw,14,none⟩=some (.int .i64 s.live)∧w'.cell? ⟨x.pw,15,none⟩=some (.bool s.closed)∧w'.cell? ⟨x.pw,8,none⟩=some (ptr x.pb)∧w'.cell? ⟨x.pw,10,none⟩=some (ptr x.ps)∧w'.cell? ⟨x.pw,13,none⟩=some (ptr x.ph)∧w'.cell? ⟨b,7,none⟩=some (.int .u64 s.now)∧w'.cell? ⟨b,21,none⟩=some (.int .i64 s.live)∧w'.cell? ⟨b,22,none⟩=some (.bool s.closed)∧w'.cell? ⟨b,8,none⟩=some (.slice v.b.A v.b.n v.b.c)∧w'.cell? ⟨b,9,none⟩=some (.slice v.b.A2 v.b.n2 v.b.c2)∧w'.cell? ⟨b,11,none⟩=some (.slice v.sA v.sn v.sc)∧w'.cell? ⟨b,19,none⟩=some (.int .u64 s.step)∧w'.cell? ⟨b,20,none⟩=some (.slice v.hA v.hn v.hc)∧Below F.heap.size F w') (first | exact st | exact st.drew)
  (first
   | (go_at_call 56; (with_reducible refine (ac.out _ st.drew.bel).mono ?_); rintro e w' ⟨rfl,u⟩; replace st:=st.drew.on u)
   | (go_at_call 67; (with_reducible refine (ah.out _ st.bel).mono ?_); rintro e w' ⟨rfl,u⟩; replace st:=st.on u)
   | (go_at_call 70; (with_reducible refine (af.out _ st.bel).mono ?_); rintro e w' ⟨A3,c3,rfl,r3,u⟩; replace st:=st.on u; have R3:=Lh r3; clear r3)
   | (go_at_call 69; (with_reducible refine (ai.out _ A3 c3 R3.out).mono ?_); rintro e w' ⟨A4,c4,rfl,r4,u⟩; replace st:=st.on u; have R4:=Lh r4; clear r4 R3)
   | (go_at_call 68; (with_reducible refine (ag.out _ A4 c4 st.bel R4.out).mono ?_); rintro e w' ⟨rfl,u⟩; replace st:=st.on u; clear R4)
   | (go_at_call 73; (with_reducible refine (a8.out _ st.bel).mono ?_); rintro e w' ⟨A6,c6,rfl,r6,u⟩; replace st:=st.on u; have R6:=Lh r6; clear r6)
   | (go_at_call 72; (with_reducible refine (ad.out _ A6 c6 R6.out).mono ?_); rintro e w' ⟨A7,c7,rfl,r7,u⟩; replace st:=st.on u; have R7:=Lh r7; clear r7 R6)
   | (go_at_call 71; (with_reducible refine (a9.out _ A7 c7 st.bel R7.out).mono ?_); rintro e w' ⟨rfl,u⟩; replace st:=st.on u; clear R7)
   | (go_at_call 74; (with_reducible refine (aa.out _ st.bel).mono ?_); rintro e w' ⟨rfl,rfl⟩))
 have a7:=Lh st.bel
 clear st q1 q2 q3 q4 ac ah af ai ag a8 ad a9 aa
 go_wp2_with fail
 go_loopw [80] (fun i wr=>∃ k:Nat,k≤8∧i=.int .i64 k∧Hid (Below F.heap.size F wr)) (fun i _=>8 - (intOf i).toNat)
 case atStart=>exact ⟨0,Nat.zero_le _,rfl,a7⟩
 case round=>
  clear a7
  obtain ⟨k,hk,rfl,I⟩:=hrel
  by_cases hk8:k < 8
  ·as_aux_lemma=>
   have d1:decide ((k:Int) < 8)=true:=decide_eq_true (by omega)
   have x1:(0:Int)≤(k:Int):=by omega
   have x2:(k:Int) < 8:=by omega
   have x3:(k:Int) < ((8:Nat):Int):=by omega
   have x4:decide (k < 8)=true:=decide_eq_true hk8
   have d2:IntKind.i64.wrap ((k:Int)+1)=(k:Int)+1:=by rw [IntKind.wrap_i64]; omega
   have d3:IntKind.u64.wrap ((k:Int)+1)=(k:Int)+1:=by rw [IntKind.wrap_u64]; omega
   obtain ⟨g,o,sv,hA,hg,aL,aq,a6,aJ⟩:=(Y.out.later I.out).loc.get hk8
   have aB:=Lh a6
   have c9:=(J.out.later I.out).cells.c9
   have c11:=(J.out.later I.out).cells.c11
   have a3:=(G.out.later I.out).cell 10 _ rfl
   rw [Y.out.l8,hA] at a3
   have ak:=(G.out.later I.out).cell 12 _ rfl
   have al:=(G.out.later I.out).cell 13 _ rfl
   have an:=(G.out.later I.out).cell 14 _ rfl
   have ao:=(G.out.later I.out).cell 15 _ rfl
   have st:Tk6 wr x.pw x.pl x.bk.p b g (o+k) s.leak v.k.A v.k.n v.k.c v.k.A2 v.k.n2 v.k.c2 v.k.A3 v.k.n3 v.k.c3 (some ⟨g,o,none⟩) v.lc sv.A sv.n sv.c wr:=⟨c9,c11,a3,ak,al,an,ao,aq,Below.refl _ _⟩
   have au:(s.loc k).length=sv.n:=a6.len
   have aA:=Lh au
   have a1:=Lh hk8
   have aj:=Lh (J.out.later I.out)
   have ay:=Lh (Y.out.later I.out)
   clear c9 c11 a3 ak al an ao aq a6 au aL hA aJ
   go_upto_region 6 with (fail)
   go_wp2_with fail
   try simp only [List.append_eq,List.cons_append,List.nil_append]
   go_region_held3 (fun w'=>w'.cell? ⟨x.pw,9,none⟩=some (ptr x.pl)∧w'.cell? ⟨x.pw,11,none⟩=some (ptr x.bk.p)∧w'.cell? ⟨b,10,none⟩=some (.slice (some ⟨g,o,none⟩) 8 v.lc)∧w'.cell? ⟨b,12,none⟩=some (.int .u64 s.leak)∧w'.cell? ⟨b,13,none⟩=some (.slice v.k.A v.k.n v.k.c)∧w'.cell? ⟨b,14,none⟩=some (.slice v.k.A2 v.k.n2 v.k.c2)∧w'.cell? ⟨b,15,none⟩=some (.slice v.k.A3 v.k.n3 v.k.c3)∧w'.cell? ⟨g,o+k,none⟩=some (.slice sv.A sv.n sv.c)∧Below wr.heap.size wr w') (first | exact st | exact st.drew)
    (first
     | (go_at_call 76; (with_reducible refine (lall_n _ _ base x.pl k sv.n s.loc (aj.out.later st.drew.bel).loc a1.out aA.out).mono ?_); rintro e w' ⟨A5,c5,rfl,r5,u⟩; replace st:=st.drew.on u; have H5:=Lh r5; clear r5)
     | (go_at_call 75; (with_reducible refine (Fc.uequal_same _ _ _ _ _ _ _ _ _ H5.out (aB.out.later st.bel)).mono ?_); rintro e w' ⟨rfl,u⟩; replace st:=st.on u)
     | (go_at_call 77; (with_reducible refine (Le.told_any _ x.bk s.leak _ _ _ _ _ _ _ _ _ s.L N s.T _ _ (by have q:=(aj.out.later st.bel).book; rw [HM.out] at q; exact q) ((ay.out.later st.bel).book_dk) az.out ⟨by omega,by have:=a1.out; omega⟩ aF hN aG).mono ?_); rintro e w' ⟨rfl,u⟩; replace st:=st.on u))
   go_wp2_with fail
   go_roundw
   case rel=>exact ⟨k+1,by have:=a1.out; omega,by go_num,Lh (I.out.trans (st.bel.mono I.out.size))⟩
   case measure=>simp [intOf]; have:=a1.out; omega
  ·obtain rfl:k=8:=by omega
   have d1:decide (((8:Nat):Int) < 8)=false:=rfl
   clear hk hk8
   obtain ⟨q,hq⟩:∃ q,(Fc.ids s.C s.n).length=q:=⟨_,rfl⟩
   have a4:=Fc.ids_count s.C s.n J.out.fact.nd J.out.fact.mem
   rw [hq] at a4
   have HQ:=Lh hq
   have ax:=Lh a4
   clear hq a4
   have aC:=(G.out.later I.out).cell 16 _ rfl
   have aD:=(G.out.later I.out).cell 17 _ rfl
   have aE:=(G.out.later I.out).cell 18 _ rfl
   go_wp2_with fail
   clear aC aD aE
   refine (rfids_n (K:=K) (v.fact s.n) s.n q s.O s.P s.C wr (Y.out.later I.out).fact (by omega) HQ.out).mono ?_
   rintro e w9 ⟨A9,c9,rfl,r9,b9⟩
   have a0:Hid (Below F.heap.size F w9):=Lh (I.out.trans (b9.mono I.out.size))
   have R9:=Lh r9
   clear r9 b9
   have a2:=Lh (J.out.later a0.out).fact
   have aI:q+s.C.length=s.n:=by have:=ax.out; omega
   have aR:(s.n:Int) - (q:Int)=(s.C.length:Int):=by omega
   have aS:IntKind.u64.wrap (s.n:Int)=(s.n:Int):=by rw [IntKind.wrap_u64]; omega
   have aT:IntKind.u64.wrap (s.C.length:Int)=(s.C.length:Int):=by rw [IntKind.wrap_u64]; omega
   have aU:IntKind.i64.wrap (s.C.length:Int)=(s.C.length:Int):=by rw [IntKind.wrap_i64]; omega
   have aw:Hid (s.C.length < 1000):=Lh (by omega)
   have st:Tk10 w9 x.pw x.pF b v.cA s.n v.cc w9:=⟨(J.out.later a0.out).cells.c12,(G.out.later a0.out).cell 18 _ rfl,Below.refl _ _⟩
   clear aI
   go_upto_region 10 with (fail)
   go_wp2_with fail
   try simp only [List.append_eq,List.cons_append,List.nil_append]
   go_region_held3 (fun w'=>w'.cell? ⟨x.pw,12,none⟩=some (ptr x.pF)∧w'.cell? ⟨b,18,none⟩=some (.slice v.cA s.n v.cc)∧Below w9.heap.size w9 w') (first | exact st | exact st.drew)
    (first
     | (go_at_call 79; (with_reducible refine (fids_n x.pF x.bF x.mF s.n q s.O s.P s.C _ (a2.out.later st.drew.bel) (by omega) HQ.out).mono ?_); rintro e w' ⟨A5,c5,rfl,r5,u⟩; replace st:=st.drew.on u; have H5:=Lh r5; clear r5)
     | (go_at_call 75; (with_reducible refine (Fc.uequal_same _ _ _ _ _ _ _ _ _ H5.out (R9.out.later st.bel)).mono ?_); rintro e w' ⟨rfl,u⟩; replace st:=st.on u)
     | (go_at_call 80; (with_reducible refine (Fc.opened_any x.pF x.bF x.mF s.n s.O s.P s.C _ (a2.out.later st.bel)).mono ?_); rintro e w' ⟨rfl,rfl⟩)
     | (go_at_call 81; (with_reducible refine (Fc.closed_any x.pF x.bF x.mF s.n s.O s.P s.C _ (a2.out.later st.bel) (by have:=aw.out; omega)).mono ?_); rintro e w' ⟨rfl,rfl⟩))
   go_wp2_with fail
   go_ret
   exact ⟨rfl,av.out.trans ((a0.out.trans (st.bel.mono a0.out.size)).mono (by have:=ae.out; omega))⟩
end Go.Proofs.YtaeemilldmhbnaaGreatDoor.Wo
